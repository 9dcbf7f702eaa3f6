/- Conditions: those that each theorem states. -/
import Derived.Test.YtcgpkonfneofdaaGreatDoorQStoreI
import Derived.Test.YtcgpkonfneofdaaGreatDoorQHallK
set_option maxRecDepth 100000
set_option maxHeartbeats 8000000
namespace Go.Proofs.YtcgpkonfneofdaaGreatDoor
open Go.RowKit Go.Proofs.Tryz
open Go.Value renaming slice->J,int->Y,bool->bo,pointer->pd,agg->ag,tuple->tu,string->sg,iface->fc
open Go.IntKind renaming i64->I
open Go.Obj renaming cells->U
open Go.Ending renaming returned->rt,panicked->pg
open Option renaming some->M,none->Q
variable {p:Prop} {kd m:Int} {n k:Nat} {w' W:World} {v:Value} {x:TxA} {o:Obj}
theorem VF (h:p:=by
 go_wp2;go_ret;exact⟨rfl,FIN.out⟩):p:=h
section
theorem stepE_kind {sh:Nat} {l:List TxA} {S:SA} {n k:Int} (h1:¬kd=1) (h2:¬kd=2):dC sh l S kd n k=4:=by
 unfold dC;rw[if_neg om]
theorem stepE_out {sh:Nat} {l:List TxA} {S:SA} {n k:Int} (h:kd=1∨kd=2) (ho:n<0∨(l.length:Int)<=n∨k<0∨(sh:Int)<=k):dC sh l S kd n k=5:=by
 unfold dC;rw[if_pos h,if_pos ho]
theorem rB {sh:Nat} {l:List TxA} {S:SA} {kd:Nat} (h:kd=1∨kd=2) (hn:n<l.length) (hk:k<sh):dC sh l S kd n k=if qS sh l kd n k then (if nT S kd n k then 7 else if dD sh l S kd n k then 0 else 6) else 5:=by
 unfold dC;rw[if_pos om,if_neg om];rfl
variable {w:World} {h sh:Nat} {l:List TxA} {S:SA} {A:HA}
theorem wK (kd n k:Int) (h1:¬kd=1) (h2:¬kd=2) (w:World) :
  Kr 195 #[pd (M ⟨h,0,Q⟩),ag #[Y I kd,Y I n,Y I k]] w (Y I 4):=by
 have e1:Hid (Below w.heap.size w (w.alloc (U #[Y I kd,Y I n,Y I k] 33))):=aA br _;have c0:(w.alloc (U #[Y I kd,Y I n,Y I k] 33)).cell? ⟨w.heap.size,0,Q⟩=Y I kd:=sm;have d1:(kd != 1)=true:=by simpa using h1
 have d2:(kd != 2)=true:=by simpa using h2
 go_enter func195,ntmps195;go_wp2;go_ret;exact⟨rfl,e1.out⟩
theorem yV (H:Hall w h sh l S A) (kd:Nat) (hkd:kd=1∨kd=2) (n k:Int) (ho:n<0∨(l.length:Int)<=n∨k<0∨(sh:Int)<=k) :
  Kr 195 #[pd (M ⟨h,0,Q⟩),ag #[Y I kd,Y I n,Y I k]] w (Y I 5):=by
 have e1:Hid (Below w.heap.size w (w.alloc (U #[Y I kd,Y I n,Y I k] 33))):=aA br _;have c0:(w.alloc (U #[Y I kd,Y I n,Y I k] 33)).cell? ⟨w.heap.size,0,Q⟩=Y I kd:=sm;have c1:(w.alloc (U #[Y I kd,Y I n,Y I k] 33)).cell? ⟨w.heap.size,1,Q⟩=Y I n:=sm;have c2:(w.alloc (U #[Y I kd,Y I n,Y I k] 33)).cell? ⟨w.heap.size,2,Q⟩=Y I k:=sm;have CB:=Hi (belongs_out (H.below e1.out) kd n k ho);clear H ho;rcases hkd with rfl | rfl
 all_goals
  go_enter func195,ntmps195
  go_wp2_with fail
  refine CB.out.mono ?_;rintro e w1 ⟨rfl,hb⟩;have B1:=Hi (aC e1.out hb);clear hb CB c0 c1 c2;go_wp2
 ·go_ret;exact⟨rfl,B1.out⟩
 ·go_ret;exact⟨rfl,B1.out⟩
theorem rA (H:Hall w h sh l S A) (kd:Nat) (hkd:kd=1∨kd=2) (hn:n<l.length) (hk:k<sh) :
  Kr 195 #[pd (M ⟨h,0,Q⟩),ag #[Y I kd,Y I n,Y I k]] w (Y I (dC sh l S kd n k)):=by
 have e1:Hid (Below w.heap.size w (w.alloc (U #[Y I kd,Y I n,Y I k] 33))):=aA br _;have c0:(w.alloc (U #[Y I kd,Y I n,Y I k] 33)).cell? ⟨w.heap.size,0,Q⟩=Y I kd:=sm;have c1:(w.alloc (U #[Y I kd,Y I n,Y I k] 33)).cell? ⟨w.heap.size,1,Q⟩=Y I n:=sm;have c2:(w.alloc (U #[Y I kd,Y I n,Y I k] 33)).cell? ⟨w.heap.size,2,Q⟩=Y I k:=sm;have HH:=Hi (H.below e1.out);have CB:=Hi (belongs_in HH.out kd hkd hn hk);have CD:Hid (∀w1,Below (w.alloc _).heap.size _ w1->Calls prog 238 _ w1 fun e w'=>e=rt _/\Below w1.heap.size w1 w'):=fun w1 hb=>done_any (HH.out.below hb) kd hkd hn hk
 have CM:Hid (∀w1,Below (w.alloc _).heap.size _ w1->Calls prog 239 _ w1 fun e w'=>e=rt _/\Below w1.heap.size w1 w'):=fun w1 hb=>may_any (HH.out.below hb) kd hkd hn hk
 rw[rB hkd hn hk];have KC:Hid (∀w1,Below (w.alloc _).heap.size _ w1->w1.cell? _=M _/\w1.cell? _=M _/\w1.cell? _=M _):=fun w1 hb=>⟨aB hb c0,aB hb c1,aB hb c2⟩
 have hkk:(((kd:Int) != 1)=false)∨(((kd:Int) != 1)=true/\((kd:Int) != 2)=false):=by
  rcases hkd with rfl | rfl
  ·exact .inl rfl
  ·exact .inr ⟨rfl,rfl⟩
 have HK:=Hi hkk;clear H HH hkk hkd;generalize qS sh l kd n k=P at *;generalize nT S kd n k=Qq at *;generalize dD sh l S kd n k=R at *;rcases HK.out with d1 | ⟨d1,d2⟩
 all_goals
  clear HK;go_enter func195,ntmps195
  go_wp2_with fail
  refine CB.out.mono ?_;rintro e w1 ⟨rfl,hb⟩;have B1:=Hi hb;clear hb CB c0 c1 c2
 rotate_left;rotate_left
 all_goals
  cases P
  ·have FIN:=Hi (aC e1.out B1.out);clear KC CD CM;exact VF
  ·obtain⟨c0,c1,c2⟩:=KC.out w1 B1.out
   go_wp2_with fail
   refine(CD.out w1 B1.out).mono ?_;rintro e w2 ⟨rfl,hb⟩;have B2:=Hi (aC B1.out hb);clear hb CD c0 c1 c2
   cases Qq
   rotate_left
   ·have FIN:=Hi (aC e1.out B2.out);clear KC CM;exact VF
   ·obtain⟨c0,c1,c2⟩:=KC.out w2 B2.out
    go_wp2_with fail
    refine(CM.out w2 B2.out).mono ?_;rintro e w3 ⟨rfl,hb⟩;have FIN:=Hi (aC e1.out (aC B2.out hb));clear hb CM c0 c1 c2 KC
    cases R
    ·exact VF
    ·exact VF
theorem pO (H:Hall w h sh l S A) (kd n k:Int) :
  Kr 195 #[pd (M ⟨h,0,Q⟩),ag #[Y I kd,Y I n,Y I k]] w (Y I (dC sh l S kd n k)):=by
 by_cases hk:kd=1∨kd=2
 ·obtain⟨K,hK,rfl⟩:∃K:Nat,(K=1∨K=2)/\kd=K:=by
   rcases hk with rfl | rfl
   ·exact⟨1,.inl rfl,rfl⟩
   ·exact⟨2,.inr rfl,rfl⟩
  by_cases ho:n<0∨(l.length:Int)<=n∨k<0∨(sh:Int)<=k
  ·rw[stepE_out hk ho];exact yV H K hK n k ho
  ·obtain⟨N,rfl⟩:∃N:Nat,n=N:=⟨n.toNat,by omega⟩;obtain⟨K',rfl⟩:∃K':Nat,k=K':=⟨k.toNat,by omega⟩;exact rA H K hK om om
 ·rw[stepE_kind om om];exact wK kd n k om om w
end
theorem Vf (h:p:=by
 clear hown;go_wp2;go_roundw
 case rel=>exact⟨n+1,by omega,by go_num,R,hB⟩
 case measure=>simp[intOf];omega):p:=h
section
def bF (L:List (Nat×Nat×Nat)):List Value:=L.flatMap fun p=>[Y I p.1,Y I p.2.1,Y I p.2.2]
theorem yI (l m:List (Nat×Nat×Nat)):bF (l++m)=bF l++bF m:=by simp[bF]
theorem qW:∀l:List (Nat×Nat×Nat),(bF l).length=l.length*3
 | []=>rfl
 | p::t=>by
  have e:bF (p::t)=Y I p.1::Y I p.2.1::Y I p.2.2::bF t:=by simp[bF]
  rw[e];simp[qW t];omega
def IsSteps (w:World) (a:Option Addr) (L:List (Nat×Nat×Nat)):Prop:=
 ∀i,i<L.length->∃b off,a=M ⟨b,off,Q⟩/\b<w.heap.size/\w.cell? ⟨b,off+i*3,Q⟩=Y I (L.getD i (0,0,0)).1/\w.cell? ⟨b,off+i*3+1,Q⟩=Y I (L.getD i (0,0,0)).2.1/\w.cell? ⟨b,off+i*3+2,Q⟩=Y I (L.getD i (0,0,0)).2.2
theorem IsSteps.below {w:World} {a:Option Addr} {l:List (Nat×Nat×Nat)} (h:IsSteps w a l) (hb:Below w.heap.size w w'):IsSteps w' a l:=by
 intro i hi;obtain⟨b,off,ha,hlt,h0,h1,h2⟩:=h i hi;exact⟨b,off,ha,nd hlt hb.size,aB hb h0,aB hb h1,aB hb h2⟩
theorem lB:∀(l:List (Nat×Nat×Nat)) (i:Nat),i<l.length->(bF l)[i*3]?=M (Y I (l.getD i (0,0,0)).1)/\(bF l)[i*3+1]?=M (Y I (l.getD i (0,0,0)).2.1)/\(bF l)[i*3+2]?=M (Y I (l.getD i (0,0,0)).2.2)
 | [],i,h=>by simp at h
 | p::t,0,_=>by simp[bF]
 | p::t,i+1,h=>by
  have:=lB t i (by simpa using h);have e:bF (p::t)=Y I p.1::Y I p.2.1::Y I p.2.2::bF t:=by simp[bF]
  rw[e];have e1:(i+1)*3=i*3+1+1+1:=om;rw[e1];simpa using this
theorem yH:∀(l:List (Nat×Nat×Nat)),∀u∈bF l,u.oneCell'=true
 | [],u,h=>by cases h
 | p::t,u,h=>by
  have e:bF (p::t)=Y I p.1::Y I p.2.1::Y I p.2.2::bF t:=by simp[bF]
  rw[e]at h;simp only[List.mem_cons]at h;rcases h with rfl | rfl | rfl | h
  ·rfl
  ·rfl
  ·rfl
  ·exact yH t u h
theorem lX {w:World} {base:Nat} {l:List (Nat×Nat×Nat)} (h:w.ownsRow base 33 3 v n (bF l)) (hn:l.length=n):∃a cap,v=J a l.length cap/\IsSteps w a l:=by
 rcases h.2 with ⟨rfl,h0⟩ | ⟨g,cap,cur,rfl,hb,hg,hnc,hcm,hcs,htake⟩
 ·exact xx
 ·refine⟨M ⟨g,0,Q⟩,cap,by rw[hn],fun i hi=>⟨g,0,rfl,(Array.getElem?_eq_some_iff.1 hg).1,?_,?_,?_⟩⟩
  ·rw[nw,h.cellAt (i*3) om];exact(lB l i hi).1
  ·rw[nw,h.cellAt (i*3+1) om];exact(lB l i hi).2.1
  ·rw[nw,h.cellAt (i*3+2) om];exact(lB l i hi).2.2
theorem news_st (w:World) (x y z:Int) (s:Nat) (hs:s=w.heap.size):∀j u,[Y I x,Y I y,Y I z][j]?=M u->(w.alloc (U #[Y I x,Y I y,Y I z] 33)).cell? ((⟨s,0,Q⟩:Addr).add j)=M u:=by
 subst hs;intro j u hj
 match j,hj with
 | 0,hj=>simp at hj;subst hj;simp[Addr.add]
 | 1,hj=>simp at hj;subst hj;simp[Addr.add]
 | 2,hj=>simp at hj;subst hj;simp[Addr.add]
theorem one_st (x y z:Int):∀u∈[Y I x,Y I y,Y I z],u.oneCell'=true:=by
 intro u hu;simp at hu;rcases hu with rfl | rfl | rfl <;> rfl
theorem info33:(prog.info? 33).map (fun i=>(i.zero,i.size,i.bytes))=M (M (ag #[Y I 0,Y I 0,Y I 0]),3,24):=by kernel_rfl
theorem own_st {w:World} {C a m:Nat} {L:List (Nat×Nat×Nat)} (h:w.ownsRow C 33 3 v (L.length+1) (bF L++[Y I a,Y I n,Y I m])):w.ownsRow C 33 3 v (L++[(a,n,m)]).length (bF (L++[(a,n,m)])):=by
 rw[yI,nj];exact h
theorem may_stepE {sh:Nat} {l:List TxA} {S:SA} {kd:Nat} (h:kd=1∨kd=2) (hn:n<l.length) (hk:k<sh):((dC sh l S kd n k==0)=eD sh l S kd n k):=by
 rw[rB h hn hk];unfold eD
 cases qS sh l kd n k <;> cases nT S kd n k <;> cases dD sh l S kd n k <;> rfl
variable {w:World} {h sh:Nat} {l:List TxA} {S:SA} {A:HA}
theorem can_own (H:Hall w h sh l S A) (kd:Nat) (hkd:kd=1∨kd=2) :
  Calls prog 214 #[pd (M ⟨h,0,Q⟩),Y I kd] w fun e w'=>∃v,e=rt v/\w'.ownsRow w.heap.size 33 3 v (mT sh l S kd).length (bF (mT sh l S kd))/\Below w.heap.size w w':=by
 obtain⟨i0,hi,hz0,hz1,hz2⟩:=info_parts info33;have HH:=Hi H;have HK:=Hi hkd;have x0:=H.h0;have p0:=H.p0;have p1:=H.p1;have hl8:=H.l8;have hs4:=H.s4;clear H hkd;go_enter func214,ntmps214;go_wp2
 go_loopw [5,17] (fun v i wr=>∃n:Nat,n<=l.length/\i=Y I n/\Hid (wr.ownsRow w.heap.size 33 3 v (eX sh l S kd n).length (bF (eX sh l S kd n)))/\Hid (Below w.heap.size w wr)) (fun _ i _=>l.length - (intOf i).toNat)
 case atStart=>exact⟨0,nz,rfl,n8 _ _ _ _,br⟩
 case round=>
  obtain⟨n,hn',rfl,hown,hnx⟩:=hrel;by_cases hlt:n<l.length
  ·have x0':=aB hnx.out x0;have p0':=aB hnx.out p0;have i1:(n:Int)<(l.length:Int):=om;go_wp2
   have ho0:Hid (letI Z:=eX sh l S kd n++fE sh l S kd n 0;wr.ownsRow w.heap.size 33 3 u5 Z.length (bF Z)):=by
    have e:fE sh l S kd n 0=[]:=rfl;rw[e,ke];exact hown.out
   clear hown x0' p0'
   go_loopw [5,27] (fun v i wq=>∃m:Nat,m<=sh/\i=Y I m/\Hid (wq.ownsRow w.heap.size 33 3 v (eX sh l S kd n++fE sh l S kd n m).length (bF (eX sh l S kd n++fE sh l S kd n m)))/\Hid (Below w.heap.size w wq)) (fun _ i _=>sh - (intOf i).toNat)
   case atStart=>exact⟨0,nz,rfl,ho0,hnx⟩
   case round=>
    clear ho0 hnx;obtain⟨m,hm,rfl,hown,hB⟩:=hrel;by_cases hlt2:m<sh
    ·have HS:=Hi (aBr sh l S kd n m);have ST:Hid (∀w',Below w.heap.size w w'->Calls prog 195 _ w' fun e w''=>e=rt _/\Below w'.heap.size w' w''):=fun w' hb=>rA (HH.out.below hb) kd HK.out hlt hlt2
     have HM:Hid (_=eD sh l S kd n m):=may_stepE HK.out hlt hlt2
     have hlen:(eX sh l S kd n++fE sh l S kd n m).length<=100:=by
      have h1:=jV sh l S kd n;have h2:=yJ sh l S kd n m;have h3:n*sh<=8*4:=l5 om om;rw[nj];omega
     generalize dC sh l S kd n m=E at *;generalize eD sh l S kd n m=Mm at *;have i3:(m:Int)<(sh:Int):=om;have hU:Hid (Below w.heap.size w (wr.alloc (U #[Y I kd,Y I n,Y I m] 33))):=aA hB.out _;have c0:(wr.alloc (U #[Y I kd,Y I n,Y I m] 33)).cell? ⟨wr.heap.size,0,Q⟩=Y I kd:=sm;have c1:(wr.alloc (U #[Y I kd,Y I n,Y I m] 33)).cell? ⟨wr.heap.size,1,Q⟩=Y I n:=sm;have c2:(wr.alloc (U #[Y I kd,Y I n,Y I m] 33)).cell? ⟨wr.heap.size,2,Q⟩=Y I m:=sm;have ho1:Hid ((wr.alloc (U #[Y I kd,Y I n,Y I m] 33)).ownsRow w.heap.size 33 3 u5 (eX sh l S kd n++fE sh l S kd n m).length _):=hown.out.alloc _;clear hown hB
     go_wp2_with fail
     generalize (wr.alloc (U #[Y I kd,Y I n,Y I m] 33))=V at *;refine(ST.out _ hU.out).mono ?_;rintro e w1 ⟨rfl,hb1⟩;have d0:=aB hb1 c0;have d1:=aB hb1 c1;have d2:=aB hb1 c2;have ho2:=bY ho1.out hb1;have HB1:=Hi (aC hU.out hb1);have hsz:=HB1.out.size;clear hb1 ST hU c0 c1 c2 ho1
     cases hM:Mm with
     | true=>
      have HE:=HM.out.trans hM;rw[hM]at HS;clear HM
      go_wp2_with (first | (at_builtin;(refine wpList_append_own _ rfl _ _ 30 rfl w.heap.size 33 i0 (ag #[Y I 0,Y I 0,Y I 0]) 3 24 underlying30 hi hz0 hz1 hz2 rfl dc _ _ _ rfl (ho2.alloc _) _ 1 1 [Y I kd,Y I n,Y I m] rfl rfl (news_st _ _ _ _ _ sm) (one_st _ _ _) (by unfold maxLen;omega) om (by simp;omega) ?_);intro v' w3 hown' hgrow _) | go_in)
      have R:Hid (letI Z:=eX sh l S kd n++fE sh l S kd n (m+1);w3.ownsRow w.heap.size 33 3 v' Z.length (bF Z)):=by
       have e:fE sh l S kd n (m+1)=fE sh l S kd n m++[(kd,n,m)]:=by rw[HS.out];simp
       rw[e,<-lu];exact own_st hown'
      have RB:=Hi ((HB1.out.alloc hsz _).grown hgrow (by simp;omega) (fun j hj=>(ho2.lt j hj).1));clear hown' hgrow ho2 HS d0 d1 d2 HB1;go_wp2;go_roundw
      case rel=>exact⟨m+1,by omega,by go_num,R,RB⟩
      case measure=>simp[intOf];omega
     | false=>
      have HE:=HM.out.trans hM;rw[hM]at HS;clear HM
      have R:Hid (letI Z:=eX sh l S kd n++fE sh l S kd n (m+1);w1.ownsRow w.heap.size 33 3 u5 Z.length (bF Z)):=by
       have e:fE sh l S kd n (m+1)=fE sh l S kd n m:=by rw[HS.out];simp
       rw[e];exact ho2
      clear ho2 HS d0 d1 d2;go_wp2;go_roundw
      case rel=>exact⟨m+1,by omega,by go_num,R,HB1⟩
      case measure=>simp[intOf];omega
    ·have hmm:m=sh:=om
     have R:Hid (wr.ownsRow w.heap.size 33 3 u5 (eX sh l S kd (n+1)).length (bF (eX sh l S kd (n+1)))):=by
      have h:=hown.out;rw[hmm]at h;rw[tV];exact h
     have i3:¬(m:Int)<(sh:Int):=om;exact Vf
  ·have hnn:n=l.length:=om
   have R:Hid (wr.ownsRow w.heap.size 33 3 u5 (mT sh l S kd).length (bF (mT sh l S kd))):=by
    have h:=hown.out;rw[hnn]at h;exact h
   have i1:¬(n:Int)<(l.length:Int):=om;clear hown;go_wp2;go_ret;exact⟨_,rfl,R.out,hnx.out⟩
end
section
variable (la:Option Addr) (lc:Nat) (l:List TxA) (sa ra wa va:Option Addr) (sc rc tc vc:Nat) (S:SA)
theorem uL (m:Int) (w:World) (hl:IsTxs w la l) (he:¬aH [aN m l,cP S.st]=0) :
  Kp 194 #[ag #[Y I m,J la l.length lc],ag #[J sa S.st.length sc,J ra S.rd.length rc,J wa S.wr.length tc,J va S.vs.length vc]] w (aH [aN m l,cP S.st]):=by
 have HE:=Hi he;clear he;obtain⟨W,hWe⟩:=nm (((w.alloc (U #[Y I m,J la l.length lc] 29)).alloc (U #[J sa S.st.length sc,J ra S.rd.length rc,J wa S.wr.length tc,J va S.vs.length vc] 45)));have hW:Hid (Below w.heap.size w W):=by subst hWe;exact aA (aA br _) _
 have y0:W.cell? ⟨w.heap.size,0,Q⟩=Y I m:=by subst hWe;exact aB (aA br _) (aF w _ 29 _ 0 _ rfl rfl)
 have y1:W.cell? ⟨w.heap.size,1,Q⟩=J la l.length lc:=by subst hWe;exact aB (aA br _) (aF w _ 29 _ 1 _ rfl rfl)
 have z0:W.cell? ⟨w.heap.size+1,0,Q⟩=J sa S.st.length sc:=by subst hWe;exact aF _ _ 45 _ 0 _ sm rfl
 have HLW:=Hi (hl.below hW.out);clear hl;have HWe:Hid (W=_):=hWe;clear hWe;go_enter func194,ntmps194
 go_upto_region 1 with fail
 rw[<-HWe.out];clear HWe;have KS:Hid (∀w',Below W.heap.size W w'->Below W.heap.size W w'/\w'.cell? _=M _/\w'.cell? _=M _/\w'.cell? _=M _):=fun w' hb=>⟨hb,aB hb y0,aB hb y1,aB hb z0⟩
 go_region_held (fun w'=>Below W.heap.size W w'/\w'.cell? ⟨w.heap.size,0,Q⟩=Y I m/\w'.cell? ⟨w.heap.size,1,Q⟩=J la l.length lc/\w'.cell? ⟨w.heap.size+1,0,Q⟩=J sa S.st.length sc) ((refine KS.out _ ?_;go_split_ands;repeat (first | assumption | exact br | exact Hid.out (by assumption) | refine aD ?_ | refine aA ?_ _ | refine aC ?_ (by assumption))))
  (first
   | (go_at_call 28;refine(cI la lc l m _ ?_).mono ?_;(refine HLW.out.below ?_;go_split_ands;repeat (first | assumption | exact br | exact Hid.out (by assumption) | refine aD ?_ | refine aA ?_ _ | refine aC ?_ (by assumption)));rintro e wx ⟨rfl,hbx⟩)
   | (go_at_call 78;refine(dE S.st sa sc _).mono ?_;rintro e w' ⟨rfl,rfl⟩)
   | (go_at_call 15;refine(fT (dR [aN m l,cP S.st] _ 2 _ sm HE.out ?_) (tu #[])).mono ?_;(exact lS _ _ _ _ sm);rintro e w' (⟨rfl,rfl⟩ | ⟨hF,rfl,rfl⟩);(refine⟨rfl,rfl,aC hW.out ?_⟩;go_split_ands;repeat (first | assumption | exact br | exact Hid.out (by assumption) | refine aD ?_ | refine aA ?_ _ | refine aC ?_ (by assumption)))))
 exact xq
theorem hallOf_pan2 (sh:Nat) (w:World) (hl:IsTxs w la l) (hs:Sta w sa ra wa va S) (hp:aN (sh:Int) l=0) (h8:S.st.length=8) (hf:gL sh l S=false) :
  Kp 194 #[ag #[Y I sh,J la l.length lc],ag #[J sa S.st.length sc,J ra S.rd.length rc,J wa S.wr.length tc,J va S.vs.length vc]] w 1:=by
 have HF:=Hi hf;clear hf;have hz:=aX hp;have hl8:=gZ hz.2.2;have hs4:sh<=4:=om
 have HE:Hid (aH [aN (sh:Int) l,cP S.st]=0):=by
  have e2:cP S.st=0:=if_pos h8;show _=_;rw[hp,e2];rfl
 have HST:=Hi hs;have H8:=Hi h8;have HL0:=Hi hl;clear hz hs h8 hp;obtain⟨W,hWe⟩:=nm (((w.alloc (U #[Y I sh,J la l.length lc] 29)).alloc (U #[J sa S.st.length sc,J ra S.rd.length rc,J wa S.wr.length tc,J va S.vs.length vc] 45)));have hW:Hid (Below w.heap.size w W):=by subst hWe;exact aA (aA br _) _
 have y0:W.cell? ⟨w.heap.size,0,Q⟩=Y I sh:=by subst hWe;exact aB (aA br _) (aF w _ 29 _ 0 _ rfl rfl)
 have y1:W.cell? ⟨w.heap.size,1,Q⟩=J la l.length lc:=by subst hWe;exact aB (aA br _) (aF w _ 29 _ 1 _ rfl rfl)
 have z0:W.cell? ⟨w.heap.size+1,0,Q⟩=J sa S.st.length sc:=by subst hWe;exact aF _ _ 45 _ 0 _ sm rfl
 have z1:W.cell? ⟨w.heap.size+1,1,Q⟩=J ra S.rd.length rc:=by subst hWe;exact aF _ _ 45 _ 1 _ sm rfl
 have z2:W.cell? ⟨w.heap.size+1,2,Q⟩=J wa S.wr.length tc:=by subst hWe;exact aF _ _ 45 _ 2 _ sm rfl
 have z3:W.cell? ⟨w.heap.size+1,3,Q⟩=J va S.vs.length vc:=by subst hWe;exact aF _ _ 45 _ 3 _ sm rfl
 have HLW:=Hi (hl.below hW.out);have sW:Hid (W.heap.size=w.heap.size+2):=by subst hWe;show _=_;simp
 clear hl;have HWe:Hid (W=_):=hWe;clear hWe;go_enter func194,ntmps194
 go_upto_region 1 with fail
 rw[<-HWe.out];clear HWe;have KS:Hid (∀w',Below W.heap.size W w'->Below W.heap.size W w'/\w'.cell? _=M _/\w'.cell? _=M _/\w'.cell? _=M _):=fun w' hb=>⟨hb,aB hb y0,aB hb y1,aB hb z0⟩
 go_region_held3 (fun w'=>Below W.heap.size W w'/\w'.cell? ⟨w.heap.size,0,Q⟩=Y I sh/\w'.cell? ⟨w.heap.size,1,Q⟩=J la l.length lc/\w'.cell? ⟨w.heap.size+1,0,Q⟩=J sa S.st.length sc) ((refine KS.out _ ?_;go_split_ands;repeat (first | assumption | exact br | exact Hid.out (by assumption) | refine aD ?_ | refine aA ?_ _ | refine aC ?_ (by assumption))))
  (first
   | (go_at_call 28;refine(cI la lc l (sh:Int) _ ?_).mono ?_;(refine HLW.out.below ?_;go_split_ands;repeat (first | assumption | exact br | exact Hid.out (by assumption) | refine aD ?_ | refine aA ?_ _ | refine aC ?_ (by assumption)));rintro e wx ⟨rfl,hbx⟩)
   | (go_at_call 78;refine(dE S.st sa sc _).mono ?_;rintro e w' ⟨rfl,rfl⟩)
   | (go_at_call 15;refine(aQ [aN (sh:Int) l,cP S.st] _ 2 _ sm HE.out ?_).mono ?_;(exact lS _ _ _ _ sm);rintro e w1 ⟨rfl,rfl⟩))
 have BW:Hid (Below W.heap.size W (w'.alloc (U #[Y I (aN (sh:Int) l),Y I (cP S.st)] 22))):=aA (aC (aD br) hbx) _;go_split_ands;generalize w'.alloc (U #[Y I (aN (sh:Int) l),Y I (cP S.st)] 22)=w1 at *;have q0:=aB BW.out y0;have q1:=aB BW.out y1;have r1:=aB BW.out z1;have r2:=aB BW.out z2;have r3:=aB BW.out z3;have B1:=Hi (aC hW.out BW.out);have sz1:Hid (w.heap.size+2<=w1.heap.size):=by have:=BW.out.size;have:=sW.out;show _<=_;omega
 have bU:Below w1.heap.size w1 (w1.alloc (U #[pd (M ⟨w.heap.size,0,Q⟩),J sa S.st.length sc,J ra S.rd.length rc,J wa S.wr.length tc,J va S.vs.length vc,J Q 0 0,J Q 0 0,J Q 0 0] 224)):=aA br _;have B2:=Hi (aC B1.out bU);have c0:(w1.alloc (U #[pd _,J sa S.st.length sc,J ra S.rd.length rc,J wa S.wr.length tc,J va S.vs.length vc,J Q 0 0,J Q 0 0,J Q 0 0] 224)).cell? _=pd (M ⟨w.heap.size,0,Q⟩):=aF w1 _ 224 _ 0 _ rfl rfl;have c1:(w1.alloc (U #[pd (M ⟨w.heap.size,0,Q⟩),J sa S.st.length sc,J ra S.rd.length rc,J wa S.wr.length tc,J va S.vs.length vc,J Q 0 0,J Q 0 0,J Q 0 0] 224)).cell? _=J sa S.st.length sc:=aF w1 _ 224 _ 1 _ rfl rfl;have c2:(w1.alloc (U #[pd (M ⟨w.heap.size,0,Q⟩),J sa S.st.length sc,J ra S.rd.length rc,J wa S.wr.length tc,J va S.vs.length vc,J Q 0 0,J Q 0 0,J Q 0 0] 224)).cell? _=J ra S.rd.length rc:=aF w1 _ 224 _ 2 _ rfl rfl;have c3:(w1.alloc (U #[pd (M ⟨w.heap.size,0,Q⟩),J sa S.st.length sc,J ra S.rd.length rc,J wa S.wr.length tc,J va S.vs.length vc,J Q 0 0,J Q 0 0,J Q 0 0] 224)).cell? _=J wa S.wr.length tc:=aF w1 _ 224 _ 3 _ rfl rfl;have c4:(w1.alloc (U #[pd (M ⟨w.heap.size,0,Q⟩),J sa S.st.length sc,J ra S.rd.length rc,J wa S.wr.length tc,J va S.vs.length vc,J Q 0 0,J Q 0 0,J Q 0 0] 224)).cell? _=J va S.vs.length vc:=aF w1 _ 224 _ 4 _ rfl rfl;have c5:(w1.alloc (U #[pd (M ⟨w.heap.size,0,Q⟩),J sa S.st.length sc,J ra S.rd.length rc,J wa S.wr.length tc,J va S.vs.length vc,J Q 0 0,J Q 0 0,J Q 0 0] 224)).cell? _=J Q 0 0:=aF w1 _ 224 _ 5 _ rfl rfl;have c6:(w1.alloc (U #[pd (M ⟨w.heap.size,0,Q⟩),J sa S.st.length sc,J ra S.rd.length rc,J wa S.wr.length tc,J va S.vs.length vc,J Q 0 0,J Q 0 0,J Q 0 0] 224)).cell? _=J Q 0 0:=aF w1 _ 224 _ 6 _ rfl rfl;have c7:(w1.alloc (U #[pd (M ⟨w.heap.size,0,Q⟩),J sa S.st.length sc,J ra S.rd.length rc,J wa S.wr.length tc,J va S.vs.length vc,J Q 0 0,J Q 0 0,J Q 0 0] 224)).cell? _=J Q 0 0:=aF w1 _ 224 _ 7 _ rfl rfl;have fz:∀j,(w1.alloc (U #[pd (M ⟨w.heap.size,0,Q⟩),J sa S.st.length sc,J ra S.rd.length rc,J wa S.wr.length tc,J va S.vs.length vc,J Q 0 0,J Q 0 0,J Q 0 0] 224)).frozen? ⟨w1.heap.size,j,Q⟩=false:=fun j=>by simp
 have H0:Hid (Hall0 _ w1.heap.size w.heap.size sh l S la sa ra wa va lc sc rc tc vc):=⟨c0,c1,c2,c3,c4,aB bU q0,aB bU q1,HL0.out.below B2.out,HST.out.below B2.out,hl8,hs4⟩;clear hbx KS y0 y1 z0 z1 z2 z3 HLW hW HE BW sW c0 c1 c2 c3 c4 c5 c6 c7 fz bU
 go_wp2_with fail
 generalize w1.alloc (U #[pd (M ⟨w.heap.size,0,Q⟩),J sa S.st.length sc,J ra S.rd.length rc,J wa S.wr.length tc,J va S.vs.length vc,J Q 0 0,J Q 0 0,J Q 0 0] 224)=w2 at *;generalize w1.heap.size=H at *
 have CF:Hid (Kr 230 #[pd (M ⟨H,0,Q⟩)] w2 (Y I 1)):=by
  have hh:=pS H0.out H8.out;rw[HF.out]at hh;exact hh
 refine CF.out.mono ?_;rintro e w3 ⟨rfl,hb3⟩;have B3:=Hi (aC B2.out hb3);clear hb3 CF q0 q1 r1 r2 r3
 go_wp2_with fail
 refine(dR [1] _ 1 _ sm dc (dS _ _ _ rfl)).mono ?_;rintro e w4 ⟨rfl,hw4⟩;refine⟨rfl,rfl,?_⟩;rw[hw4];exact aA B3.out _
end
section
theorem pn_one (sh:Nat) (h0:0<sh) (h4:sh<=4) (h:kF x=0):yO (sh:Int) [x] ((0:Nat):Int)=0:=by
 have h1:eN [x]=0:=by
  unfold eN;rw[if_neg sm,List.map_cons,aH,if_pos h];rfl
 have h2:aN (sh:Int) [x]=0:=by
  unfold aN;rw[if_neg om];exact h1
 unfold yO;rw[h2];rfl
theorem alone_a (V:World) (sh:Nat) (a b c:Value):letI Z:=((V.alloc (U #[a,b,c] 95)).alloc (U #[Y I sh,J (M ⟨V.heap.size,0,Q⟩) 1 1] 29)).drew;Z.cell? ⟨V.heap.size+1,0,Q⟩=Y I sh/\Z.cell? ⟨V.heap.size+1,1,Q⟩=J (M ⟨V.heap.size,0,Q⟩) 1 1/\Z.cell? ⟨V.heap.size,0,Q⟩=M a/\Z.cell? ⟨V.heap.size,1,Q⟩=M b/\Z.cell? ⟨V.heap.size,2,Q⟩=M c/\Hid (Below V.heap.size V Z):=by
 have e:Below (V.alloc (U #[a,b,c] 95)).heap.size _ (((V.alloc _).alloc (U #[Y I sh,J (M ⟨V.heap.size,0,Q⟩) 1 1] 29)).drew):=aD (aA br _);refine⟨by simp,by simp,aB e (aF V _ 95 _ 0 _ rfl rfl),aB e (aF V _ 95 _ 1 _ rfl rfl),aB e (aF V _ 95 _ 2 _ rfl rfl),aD (aA (aA br _) _)⟩
theorem alone_b (V:World) (sh:Nat) (a b c:Value):letI Z:=((V.alloc (U #[Y I sh,J (M ⟨V.heap.size+1,0,Q⟩) 1 1] 29)).alloc (U #[a,b,c] 95)).drew;Z.cell? ⟨V.heap.size,0,Q⟩=Y I sh/\Z.cell? ⟨V.heap.size,1,Q⟩=J (M ⟨V.heap.size+1,0,Q⟩) 1 1/\Z.cell? ⟨V.heap.size+1,0,Q⟩=M a/\Z.cell? ⟨V.heap.size+1,1,Q⟩=M b/\Z.cell? ⟨V.heap.size+1,2,Q⟩=M c/\Hid (Below V.heap.size V Z):=by
 have e:Below (V.alloc (U #[Y I sh,J (M ⟨_+1,0,Q⟩) 1 1] 29)).heap.size _ (((V.alloc (U #[Y I sh,J (M ⟨V.heap.size+1,0,Q⟩) 1 1] 29)).alloc (U #[a,b,c] 95)).drew):=aD (aA br _);refine⟨aB e (aF V _ 29 _ 0 _ rfl rfl),aB e (aF V _ 29 _ 1 _ rfl rfl),by simp,by simp,by simp,aD (aA (aA br _) _)⟩
theorem txs_one {w:World} {Z:Nat} (c0:w.cell? ⟨Z,0,Q⟩=J x.ra x.rs.length x.rc) (c1:w.cell? ⟨Z,1,Q⟩=J x.ga x.gs.length x.gc) (c2:w.cell? ⟨Z,2,Q⟩=J x.sa x.ss.length x.sc) (hx:IsX w x):IsTxs w (M ⟨Z,0,Q⟩) [x]:=fun i hi=>by
 have e:i=0:=by simpa using hi
 subst e;exact⟨Z,0,rfl,np w _ c0,by simpa using c0,by simpa using c1,by simpa using c2,hx⟩
theorem bool_row {wa wc:World} {B g c sh:Nat} {bs:List Bool} (h:wa.ownsRow B 4 1 (J (M ⟨g,0,Q⟩) sh c) sh (bs.map bo)) (hl:bs.length=sh) (hb:Below wa.heap.size wa wc):B<=g/\g<wc.heap.size/\∀j,j<sh->wc.cell? ⟨g,j,Q⟩=bo (bs.getD j false):=by
 have hh:=h.lt g rfl;exact⟨hh.1,nd hh.2 hb.size,fun j hj=>aB hb (mU h j om)⟩
theorem lk_pos (h:kF x=0):0<(pP x).length:=by
 have g:=lR h;obtain⟨k,hk⟩:=List.exists_mem_of_ne_nil _ g.n;obtain⟨h0,h8⟩:=g.s k hk;have hm:(((_:Nat):Int),pZ x _)∈pP x:=(jK x _).2 ⟨k.toNat,by omega,(xP x _).2 (.inl (by rw[show ((k.toNat:Nat):Int)=k by omega];exact hk)),rfl⟩;exact List.length_pos_of_mem hm
theorem gotLocksB (a:Option Addr) (k c:Nat) (w:World):Calls prog 234 #[J a k c,Y I 0] w fun e' w'=>e'=rt (J a k c)/\w'=w.alloc (U #[Y I 0] 22):=uN a k c w
variable (la:Option Addr) (lc:Nat) (l:List TxA) (sa ra wa va:Option Addr) (sc rc tc vc:Nat) (S:SA)
theorem aAz (sh:Nat) (w:World) (hl:IsTxs w la l) (hs:Sta w sa ra wa va S) (hp:aN (sh:Int) l=0) (h8:S.st.length=8) (hf:gL sh l S=true) :
  Calls prog 194 #[ag #[Y I sh,J la l.length lc],ag #[J sa S.st.length sc,J ra S.rd.length rc,J wa S.wr.length tc,J va S.vs.length vc]] w fun e w'=>((cV sh l S=true/\∃h A,e=rt (pd (M ⟨h,0,Q⟩))/\Hall w' h sh l S A/\w.heap.size<=h/\h<w'.heap.size/\(∀j,w'.frozen? ⟨h,j,Q⟩=false)/\w.heap.size<=A.p/\A.p<h/\A.la=la)∨(cV sh l S=false/\e=pg [{v:=fc 22 (Y I 1),recovered:=false}]))/\Below w.heap.size w w':=by
 have HF:=Hi hf;clear hf;have hz:=aX hp;have hl8:=gZ hz.2.2;have hs0:0<sh:=om;have hs4:sh<=4:=om;have HC:=Hi hz.2.2
 have HE:Hid (aH [aN (sh:Int) l,cP S.st]=0):=by
  have e2:cP S.st=0:=if_pos h8;show _=_;rw[hp,e2];rfl
 have HST:=Hi hs;have H8:=Hi h8;have HL0:=Hi hl;clear hz hs h8 hp;have hW:Hid (Below _ w ((w.alloc (U #[Y I sh,J la l.length lc] 29)).alloc (U #[J sa S.st.length sc,J ra S.rd.length rc,J wa S.wr.length tc,J va S.vs.length vc] 45))):=aA (aA br _) _;have y0:((w.alloc (U #[Y I sh,J la l.length lc] 29)).alloc (U #[J sa S.st.length sc,J ra S.rd.length rc,J wa S.wr.length tc,J va S.vs.length vc] 45)).cell? _=Y I sh:=aB (aA br _) (aF w _ 29 _ 0 _ rfl rfl);have y1:((w.alloc (U #[Y I sh,J la _ lc] 29)).alloc (U #[J sa S.st.length sc,J ra S.rd.length rc,J wa S.wr.length tc,J va S.vs.length vc] 45)).cell? _=J la l.length lc:=aB (aA br _) (aF w _ 29 _ 1 _ rfl rfl);have z0:((w.alloc (U #[Y I sh,J la l.length lc] 29)).alloc (U #[J sa _ sc,J ra S.rd.length rc,J wa S.wr.length tc,J va S.vs.length vc] 45)).cell? ⟨w.heap.size+1,0,Q⟩=J sa S.st.length sc:=aF _ _ 45 _ 0 _ sm rfl;have z1:((w.alloc (U #[Y I sh,J la l.length lc] 29)).alloc (U #[J sa S.st.length sc,J ra _ rc,J wa S.wr.length tc,J va S.vs.length vc] 45)).cell? ⟨w.heap.size+1,1,Q⟩=J ra S.rd.length rc:=aF _ _ 45 _ 1 _ sm rfl;have z2:((w.alloc (U #[Y I sh,J la l.length lc] 29)).alloc (U #[J sa S.st.length sc,J ra S.rd.length rc,J wa _ tc,J va S.vs.length vc] 45)).cell? ⟨w.heap.size+1,2,Q⟩=J wa S.wr.length tc:=aF _ _ 45 _ 2 _ sm rfl;have z3:((w.alloc (U #[Y I sh,J la l.length lc] 29)).alloc (U #[J sa S.st.length sc,J ra S.rd.length rc,J wa S.wr.length tc,J va _ vc] 45)).cell? ⟨w.heap.size+1,3,Q⟩=J va S.vs.length vc:=aF _ _ 45 _ 3 _ sm rfl;have HLW:=Hi (hl.below hW.out);have sW:Hid (((w.alloc (U #[Y I sh,J la l.length lc] 29)).alloc (U #[J sa S.st.length sc,J ra S.rd.length rc,J wa S.wr.length tc,J va S.vs.length vc] 45)).heap.size=w.heap.size+2):=by show _=_;simp
 clear hl;go_enter func194,ntmps194
 go_upto_region 1 with fail
 generalize ((w.alloc (U #[Y I sh,J la l.length lc] 29)).alloc (U #[J sa S.st.length sc,J ra S.rd.length rc,J wa S.wr.length tc,J va S.vs.length vc] 45))=W at *;have KS:Hid (∀w',Below _ W w'->Below _ W w'/\w'.cell? _=M _/\w'.cell? _=M _/\w'.cell? _=M _):=fun w' hb=>⟨hb,aB hb y0,aB hb y1,aB hb z0⟩
 go_region_held3 (fun w'=>Below W.heap.size W w'/\w'.cell? ⟨w.heap.size,0,Q⟩=Y I sh/\w'.cell? ⟨w.heap.size,1,Q⟩=J la l.length lc/\w'.cell? ⟨w.heap.size+1,0,Q⟩=J sa S.st.length sc) ((refine KS.out _ ?_;go_split_ands;repeat (first | assumption | exact br | exact Hid.out (by assumption) | refine aD ?_ | refine aA ?_ _ | refine aC ?_ (by assumption))))
  (first
   | (go_at_call 28;refine(cI la lc l (sh:Int) _ ?_).mono ?_;(refine HLW.out.below ?_;go_split_ands;repeat (first | assumption | exact br | exact Hid.out (by assumption) | refine aD ?_ | refine aA ?_ _ | refine aC ?_ (by assumption)));rintro e wx ⟨rfl,hbx⟩)
   | (go_at_call 78;refine(dE S.st sa sc _).mono ?_;rintro e w' ⟨rfl,rfl⟩)
   | (go_at_call 15;refine(aQ [aN (sh:Int) l,cP S.st] _ 2 _ sm HE.out ?_).mono ?_;(exact lS _ _ _ _ sm);rintro e w1 ⟨rfl,rfl⟩))
 have BW:Hid (Below _ W (w'.alloc (U #[Y I (aN (sh:Int) l),Y I (cP S.st)] 22))):=aA (aC (aD br) hbx) _;go_split_ands;generalize w'.alloc (U #[Y I (aN (sh:Int) l),Y I (cP S.st)] 22)=w1 at *;have q0:=aB BW.out y0;have q1:=aB BW.out y1;have r1:=aB BW.out z1;have r2:=aB BW.out z2;have r3:=aB BW.out z3;have B1:=Hi (aC hW.out BW.out);have sz1:Hid (w.heap.size+2<=w1.heap.size):=by have:=BW.out.size;have:=sW.out;show _<=_;omega
 have bU:Below _ w1 (w1.alloc (U #[pd (M ⟨w.heap.size,0,Q⟩),J sa S.st.length sc,J ra S.rd.length rc,J wa S.wr.length tc,J va S.vs.length vc,J Q 0 0,J Q 0 0,J Q 0 0] 224)):=aA br _;have B2:=Hi (aC B1.out bU);have c0:(w1.alloc (U #[pd _,J sa S.st.length sc,J ra S.rd.length rc,J wa S.wr.length tc,J va S.vs.length vc,J Q 0 0,J Q 0 0,J Q 0 0] 224)).cell? _=pd (M ⟨w.heap.size,0,Q⟩):=aF w1 _ 224 _ 0 _ rfl rfl;have c1:(w1.alloc (U #[pd (M ⟨w.heap.size,0,Q⟩),J sa S.st.length sc,J ra S.rd.length rc,J wa S.wr.length tc,J va S.vs.length vc,J Q 0 0,J Q 0 0,J Q 0 0] 224)).cell? _=J sa _ sc:=aF w1 _ 224 _ 1 _ rfl rfl;have c2:(w1.alloc (U #[pd (M ⟨w.heap.size,0,Q⟩),J sa S.st.length sc,J ra S.rd.length rc,J wa S.wr.length tc,J va S.vs.length vc,J Q 0 0,J Q 0 0,J Q 0 0] 224)).cell? _=J ra _ rc:=aF w1 _ 224 _ 2 _ rfl rfl;have c3:(w1.alloc (U #[pd (M ⟨w.heap.size,0,Q⟩),J sa S.st.length sc,J ra S.rd.length rc,J wa S.wr.length tc,J va S.vs.length vc,J Q 0 0,J Q 0 0,J Q 0 0] 224)).cell? _=J wa _ tc:=aF w1 _ 224 _ 3 _ rfl rfl;have c4:(w1.alloc (U #[pd (M ⟨w.heap.size,0,Q⟩),J sa S.st.length sc,J ra S.rd.length rc,J wa S.wr.length tc,J va S.vs.length vc,J Q 0 0,J Q 0 0,J Q 0 0] 224)).cell? _=J va _ vc:=aF w1 _ 224 _ 4 _ rfl rfl;have c5:(w1.alloc (U #[pd (M ⟨w.heap.size,0,Q⟩),J sa S.st.length sc,J ra S.rd.length rc,J wa S.wr.length tc,J va S.vs.length vc,J Q 0 0,J Q 0 0,J Q 0 0] 224)).cell? _=J Q 0 0:=aF w1 _ 224 _ 5 _ rfl rfl;have c6:(w1.alloc (U #[pd (M ⟨w.heap.size,0,Q⟩),J sa S.st.length sc,J ra S.rd.length rc,J wa S.wr.length tc,J va S.vs.length vc,J Q 0 0,J Q 0 0,J Q 0 0] 224)).cell? _=J Q 0 0:=aF w1 _ 224 _ 6 _ rfl rfl;have c7:(w1.alloc (U #[pd (M ⟨w.heap.size,0,Q⟩),J sa S.st.length sc,J ra S.rd.length rc,J wa S.wr.length tc,J va S.vs.length vc,J Q 0 0,J Q 0 0,J Q 0 0] 224)).cell? _=J Q 0 0:=aF w1 _ 224 _ 7 _ rfl rfl;have fz:∀j,(w1.alloc (U #[pd (M ⟨w.heap.size,0,Q⟩),J sa S.st.length sc,J ra S.rd.length rc,J wa S.wr.length tc,J va S.vs.length vc,J Q 0 0,J Q 0 0,J Q 0 0] 224)).frozen? ⟨w1.heap.size,j,Q⟩=false:=fun j=>by simp
 have H0:Hid (Hall0 _ _ _ sh l S la sa ra wa va lc sc rc tc vc):=⟨c0,c1,c2,c3,c4,aB bU q0,aB bU q1,HL0.out.below B2.out,HST.out.below B2.out,hl8,hs4⟩;have HLs:Hid (HL w _ _ _ sh l la lc _ _ _ _ _ _ _ [] [] []):=⟨c0,c1,c2,c3,c4,c5,c6,c7,fz,aB bU q0,aB bU q1,Tri.nil _ _ _ _,B2.out,by have:=sz1.out;omega,by have:=sz1.out;omega,by simp⟩;clear hbx KS y0 y1 z0 z1 z2 z3 HLW hW HE BW sW c0 c1 c2 c3 c4 c5 c6 c7 fz bU
 go_wp2_with fail
 generalize w1.alloc (U #[pd (M ⟨w.heap.size,0,Q⟩),J sa S.st.length sc,J ra S.rd.length rc,J wa S.wr.length tc,J va S.vs.length vc,J Q 0 0,J Q 0 0,J Q 0 0] 224)=w2 at *;generalize w1.heap.size=H at *
 have CF:Hid (Kr 230 #[pd (M ⟨H,0,Q⟩)] w2 (Y I 0)):=by
  have hh:=pS H0.out H8.out;rw[HF.out]at hh;exact hh
 have FORM:=Hi (cH.1 HF.out);clear HF;obtain⟨i65,hi65,hz65,hs65,hb65⟩:=info_parts info104;obtain⟨i131,hi131,hz131,hs131,hb131⟩:=info_parts info265;refine CF.out.mono ?_;rintro e w3 ⟨rfl,hb3⟩;clear CF q0 q1 r1 r2 r3
 go_wp2_with fail
 refine(aQ [0] _ 1 _ sm rfl (dS _ _ _ rfl)).mono ?_;rintro e w4 ⟨rfl,hw4⟩
 have HL4:Hid (HL w w4 H w.heap.size sh l la lc (J sa S.st.length sc) (J ra S.rd.length rc) (J wa S.wr.length tc) (J va S.vs.length vc) (J Q 0 0) (J Q 0 0) (J Q 0 0) [] [] []):=by
  rw[hw4];exact HLs.out.below (aA (aC br hb3) _)
 clear hw4 hb3 HLs H0 B1 B2;have d0:=HL4.out.c0;have d1:=HL4.out.p1;go_wp2;clear d0 d1
 go_loopw [31] (fun i wr=>∃(k:Nat) (v5 v6 v7:Value) (L5 L6:List (Nat×Nat)) (L7:List (Option Addr×Nat×Nat)),k<=l.length/\i=Y I k/\Hid (HL w wr H w.heap.size sh l la lc (J sa S.st.length sc) (J ra S.rd.length rc) (J wa S.wr.length tc) (J va S.vs.length vc) v5 v6 v7 L5 L6 L7)/\Hid (L5.length=k/\L6.length=k/\L7.length=k)) (fun i _=>l.length - (intOf i).toNat)
 case atStart=>exact⟨0,_,_,_,[],[],[],nz,rfl,HL4,⟨rfl,rfl,rfl⟩⟩
 case round=>
  obtain⟨k,v5,v6,v7,L5,L6,L7,hk,rfl,hHL,hLen⟩:=hrel;clear HL4;by_cases hlt:k<l.length
  ·obtain⟨b,off,ea,_,t0,t1,t2,hx⟩:=HL0.out k hlt;subst ea;have d0:=aB hHL.out.bl t0;have d1:=aB hHL.out.bl t1;have d2:=aB hHL.out.bl t2;have HX:Hid (IsX w (gX l k)):=hx;have HCx:Hid (kF (gX l k)=0):=pK HC.out k hlt;have e0:=hHL.out.c0;have e1:=hHL.out.p0;have i1:(k:Int)<(l.length:Int):=om;have i0:(0:Int)<=(k:Int):=om;clear t0 t1 t2 hx;generalize hgx:l.getD k x0=x at d0 d1 d2;have HXE:Hid (gX l k=x):=hgx;rw[show gX l k=x from hgx]at HX HCx;clear hgx
   go_upto_region 7 with fail
   have bX:Below _ wr (wr.alloc (U #[J x.ra x.rs.length x.rc,J x.ga x.gs.length x.gc,J x.sa x.ss.length x.sc] 95)):=aA br _;have hHX:=Hi (hHL.out.below bX);have hXH:=Hi hHL.out.hs
   have hown1:Hid (∀j,_=M j∨_=M j∨_=M j->j<_):=fun j h=>by
    rcases h with h | h | h
    ·exact(hHL.out.tri.o5.lt _ h).2
    ·exact(hHL.out.tri.o6.lt _ h).2
    ·exact(hHL.out.tri.o7.lt _ h).2
   have x0':(wr.alloc (U #[J x.ra x.rs.length x.rc,J x.ga x.gs.length x.gc,J x.sa x.ss.length x.sc] 95)).cell? _=J x.ra _ x.rc:=aF wr _ 95 _ 0 _ rfl rfl;have x1':(wr.alloc (U #[J x.ra x.rs.length x.rc,J x.ga x.gs.length x.gc,J x.sa x.ss.length x.sc] 95)).cell? _=J x.ga _ x.gc:=aF wr _ 95 _ 1 _ rfl rfl;have x2':(wr.alloc (U #[J x.ra x.rs.length x.rc,J x.ga x.gs.length x.gc,J x.sa x.ss.length x.sc] 95)).cell? _=J x.sa _ x.sc:=aF wr _ 95 _ 2 _ rfl rfl;have e0:=aB bX e0;have e1:=aB bX e1;clear bX hHL d0 d1 d2;have sX:wr.heap.size<(wr.alloc (U #[J x.ra x.rs.length x.rc,J x.ga x.gs.length x.gc,J x.sa x.ss.length x.sc] 95)).heap.size:=sm;have sH:H<(wr.alloc (U #[J x.ra x.rs.length x.rc,J x.ga x.gs.length x.gc,J x.sa x.ss.length x.sc] 95)).heap.size:=by have:=hXH.out;omega
   have sP:w.heap.size<(wr.alloc (U #[J x.ra x.rs.length x.rc,J x.ga x.gs.length x.gc,J x.sa x.ss.length x.sc] 95)).heap.size:=by have:=hHX.out.hp;omega
   generalize wr.alloc (U #[J x.ra x.rs.length x.rc,J x.ga x.gs.length x.gc,J x.sa x.ss.length x.sc] 95)=V at *;generalize wr.heap.size=X at *
   go_cut [8] (fun u8 wx=>∃Yy Z:Nat,u8=pd (M ⟨Yy,0,Q⟩)/\V.heap.size<=Yy/\V.heap.size<=Z/\wx.cell? ⟨Yy,0,Q⟩=Y I sh/\wx.cell? ⟨Yy,1,Q⟩=J (M ⟨Z,0,Q⟩) 1 1/\wx.cell? ⟨Z,0,Q⟩=J x.ra x.rs.length x.rc/\wx.cell? ⟨Z,1,Q⟩=J x.ga x.gs.length x.gc/\wx.cell? ⟨Z,2,Q⟩=J x.sa x.ss.length x.sc/\Hid (Below V.heap.size V wx))
   case first=>
    go_region
    all_goals (
     go_wp2_with fail
     go_meet
     first
      | (refine⟨V.heap.size+1,V.heap.size,rfl,?_,?_,?_⟩;(omega);(exact nr);(exact alone_a V sh (J x.ra x.rs.length x.rc) (J x.ga x.gs.length x.gc) (J x.sa x.ss.length x.sc)))
      | (refine⟨V.heap.size,V.heap.size+1,rfl,?_,?_,?_⟩;(exact nr);(omega);(exact alone_b V sh (J x.ra x.rs.length x.rc) (J x.ga x.gs.length x.gc) (J x.sa x.ss.length x.sc))))
   case rest=>
    obtain⟨Yy,Z,rfl,hY,hZ,y0,y1,zc0,zc1,zc2,hbC⟩:=hcut;obtain⟨V2,hren⟩:=nm (wc);subst hren;have hH2:=Hi (hHX.out.below hbC.out);have x0':=aB hbC.out x0';have x1':=aB hbC.out x1';have x2':=aB hbC.out x2';have fY:Hid (Yy≠H/\Z≠H/\X≠H/\(∀j,_=M j∨_=M j∨_=M j->j≠Yy/\j≠Z/\j≠X)):=⟨by omega,by omega,by have:=hXH.out;omega,fun j h=>by have:=hown1.out j h;omega⟩;have c5:=hH2.out.c5;have hsm:Hid (L5.length<=100/\L6.length<=100/\L7.length<=100):=by have:=hLen.out;refine⟨?_,?_,?_⟩ <;> omega
    have HP4:Hid (∀j,(aY sh (aT (aO [x] 0))).getD j false=iF sh (gX l L5.length) j):=fun j=>by rw[hLen.out.1,HXE.out];rfl
    have HP6:Hid (∀j,(aY sh (aR (aO [x] 0))).getD j false=mW sh (gX l L6.length) j):=fun j=>by rw[hLen.out.2.1,HXE.out];rfl
    have HP7:Hid (gX l L7.length=x):=by show _=_;rw[hLen.out.2.2,HXE.out]
    have ONE:Hid (∀w',Below _ w w'->w'.cell? ⟨Z,0,Q⟩=M _->w'.cell? _=M _->w'.cell? _=M _->IsTxs w' _ [x]):=fun w' hb q0 q1 q2=>txs_one q0 q1 q2 (HX.out.below hb)
    have CP:Hid (∀w',Below _ V2 w'->Calls _ 232 #[ag #[Y I sh,J _ 1 1],Y I 0] w' fun e w''=>∃g c,e=rt _/\w''.ownsRow _ 4 1 _ sh _/\Below _ w' w''):=fun w' hb=>part_own (M ⟨Z,0,Q⟩) 1 [x] sh 0 w' (ONE.out w' (aC hH2.out.bl hb) (aB hb zc0) (aB hb zc1) (aB hb zc2)) (pn_one sh hs0 hs4 HCx.out)
    clear hbC hHX e0 e1
    go_upto_region 8 with fail
    go_cut [] (fun wx=>∃(v5':Value) (g c:Nat),Hid (HL w wx H w.heap.size sh l (M ⟨b,off,Q⟩) lc (J sa S.st.length sc) (J ra S.rd.length rc) (J wa S.wr.length tc) (J va S.vs.length vc) v5' v6 v7 (L5++[(g,c)]) L6 L7)/\Hid (Kept H H v5 V2 wx))
    case first=>
     go_region_law (first
      | (refine bO (by rfl) _ _ 42 104 (by rfl) i65 _ underlying42 hi65 hz65 hs65 hb65 rfl (H+1) v5 L5.length _ (by rfl) HLc.out.tri.o5 ⟨_,0,none⟩ 1 (.slice (some ⟨g,0,none⟩) sh c) (by rfl) (aF (wa'.alloc _) _ 104 _ 0 _ sm rfl) rfl hsm.out.1 HLc.out.hs ?_;intro v' w5 ho3 hg3 hv3;obtain⟨g',cap',rfl,_,_⟩:=ho3.form sm;have oc:=hg3.cell HLc.out.c5 (fun e=>by have:=(HLc.out.tri.o5.lt H e.symm).1;omega);have of3:=(nv (a:=⟨H,5,Q⟩) (hg3.block H HLc.out.hs (fun e=>by have:=(HLc.out.tri.o5.lt H e.symm).1;omega))).trans (HLc.out.fz 5))
      | (go_simp;go_at_call 232;refine(CP.out _ ?_).mono ?_;(exact aD br);rintro e wa' ⟨g,c,rfl,hpo,hba⟩;have oa:=aB (aC (aD br) hba) c5;have ob:=(fun o=>aB (aA br o) oa);have ob2:=(fun o o'=>aB (aA (aA br o) o') oa);have Hwc:Hid (Below _ V2 ((wa'.alloc (U #[Y I 0] 22)).alloc (U #[J (M ⟨g,0,Q⟩) sh c] 104))):=aA (aA (aC (aD br) hba) _) _;have HLc:Hid (HL w ((wa'.alloc (U #[Y I 0] 22)).alloc (U #[J (M ⟨g,0,Q⟩) sh c] 104)) H w.heap.size sh l (M ⟨b,off,Q⟩) lc (J sa S.st.length sc) (J ra S.rd.length rc) (J wa S.wr.length tc) (J va S.vs.length vc) v5 v6 v7 L5 L6 L7):=hH2.out.below Hwc.out;go_wp2_with fail)
      | (go_simp;go_at_call 231;refine(uO _ _ _ _).mono ?_;rintro e wb' ⟨rfl,rfl⟩;go_wp2_with fail))
     all_goals (
      go_wp2_with fail
      go_meet;obtain⟨m1,m2,m3⟩:=bool_row hpo (bN _ _) (aA (aA br _) _);exact⟨_,g,c,HL.push5 hH2.out Hwc.out g c ho3 hg3 hv3 (by have:=hH2.out.hs;have:V2.heap.size<=g:=m1;omega) m2 m1 (fun j hj=>by rw[<-HP4.out j];exact m3 j hj),((Kept.refl H H v5 V2).on (cC Hwc.out Q) (fun j e=>by cases e)).on hg3 (fun j e=>.inr (.inr e)) |>.on (aP w5 H 5 _) (fun j e=>by injection e with e;exact .inl e.symm)⟩)
    case rest=>
     obtain⟨v5',g5,c5',hH3,hK3⟩:=hcut;obtain⟨V3,hren⟩:=nm (wc);subst hren;have y0:=hK3.out.cell y0 fY.out.1 fY.out.1 (fun e=>(fY.out.2.2.2 Yy (.inl e)).1 rfl);have y1:=hK3.out.cell y1 fY.out.1 fY.out.1 (fun e=>(fY.out.2.2.2 Yy (.inl e)).1 rfl);have zc0:=hK3.out.cell zc0 fY.out.2.1 fY.out.2.1 (fun e=>(fY.out.2.2.2 Z (.inl e)).2.1 rfl);have zc1:=hK3.out.cell zc1 fY.out.2.1 fY.out.2.1 (fun e=>(fY.out.2.2.2 Z (.inl e)).2.1 rfl);have zc2:=hK3.out.cell zc2 fY.out.2.1 fY.out.2.1 (fun e=>(fY.out.2.2.2 Z (.inl e)).2.1 rfl);have x0':=hK3.out.cell x0' fY.out.2.2.1 fY.out.2.2.1 (fun e=>(fY.out.2.2.2 X (.inl e)).2.2 rfl);have x1':=hK3.out.cell x1' fY.out.2.2.1 fY.out.2.2.1 (fun e=>(fY.out.2.2.2 X (.inl e)).2.2 rfl);have x2':=hK3.out.cell x2' fY.out.2.2.1 fY.out.2.2.1 (fun e=>(fY.out.2.2.2 X (.inl e)).2.2 rfl);have c6:=hH3.out.c6;have CA:Hid (∀w',Below _ V3 w'->Calls _ 233 #[ag #[Y I sh,J _ 1 1],Y I 0] w' fun e w''=>∃g c,e=rt _/\w''.ownsRow _ 4 1 _ sh _/\Below _ w' w''):=fun w' hb=>active_own (M ⟨Z,0,Q⟩) 1 [x] sh 0 w' (ONE.out w' (aC hH3.out.bl hb) (aB hb zc0) (aB hb zc1) (aB hb zc2)) (pn_one sh hs0 hs4 HCx.out)
     clear hK3 hH2 CP c5 HP4
     go_upto_region 9 with fail
     go_cut [] (fun wx=>∃(v6':Value) (g c:Nat),Hid (HL w wx H w.heap.size sh l (M ⟨b,off,Q⟩) lc (J sa S.st.length sc) (J ra S.rd.length rc) (J wa S.wr.length tc) (J va S.vs.length vc) v5' v6' v7 (L5++[(g5,c5')]) (L6++[(g,c)]) L7)/\Hid (Kept H H v6 V3 wx))
     case first=>
      go_region_law (first
       | (refine bO (by rfl) _ _ 42 104 (by rfl) i65 _ underlying42 hi65 hz65 hs65 hb65 rfl (H+1) v6 L6.length _ (by rfl) HLc.out.tri.o6 ⟨_,0,none⟩ 1 (.slice (some ⟨g,0,none⟩) sh c) (by rfl) (aF (wa'.alloc _) _ 104 _ 0 _ sm rfl) rfl hsm.out.2.1 HLc.out.hs ?_;intro v' w5 ho3 hg3 hv3;obtain⟨g',cap',rfl,_,_⟩:=ho3.form sm;have oc:=hg3.cell HLc.out.c6 (fun e=>by have:=(HLc.out.tri.o6.lt H e.symm).1;omega);have of3:=(nv (a:=⟨H,6,Q⟩) (hg3.block H HLc.out.hs (fun e=>by have:=(HLc.out.tri.o6.lt H e.symm).1;omega))).trans (HLc.out.fz 6))
       | (go_simp;go_at_call 233;refine(CA.out _ ?_).mono ?_;(exact aD br);rintro e wa' ⟨g,c,rfl,hpo,hba⟩;have oa:=aB (aC (aD br) hba) c6;have ob:=(fun o=>aB (aA br o) oa);have ob2:=(fun o o'=>aB (aA (aA br o) o') oa);have Hwc:Hid (Below _ V3 ((wa'.alloc (U #[Y I 0] 22)).alloc (U #[J (M ⟨g,0,Q⟩) sh c] 104))):=aA (aA (aC (aD br) hba) _) _;have HLc:Hid (HL w ((wa'.alloc (U #[Y I 0] 22)).alloc (U #[J (M ⟨g,0,Q⟩) sh c] 104)) H w.heap.size sh l (M ⟨b,off,Q⟩) lc (J sa S.st.length sc) (J ra S.rd.length rc) (J wa S.wr.length tc) (J va S.vs.length vc) v5' v6 v7 (L5++[(g5,c5')]) L6 L7):=hH3.out.below Hwc.out;go_wp2_with fail)
       | (go_simp;go_at_call 231;refine(uO _ _ _ _).mono ?_;rintro e wb' ⟨rfl,rfl⟩;go_wp2_with fail))
      all_goals (
       go_wp2_with fail
       go_meet;obtain⟨m1,m2,m3⟩:=bool_row hpo (bN _ _) (aA (aA br _) _);exact⟨_,g,c,HL.push6 hH3.out Hwc.out g c ho3 hg3 hv3 (by have:=hH3.out.hs;have:V3.heap.size<=g:=m1;omega) m2 m1 (fun j hj=>by rw[<-HP6.out j];exact m3 j hj),((Kept.refl H H v6 V3).on (cC Hwc.out Q) (fun j e=>by cases e)).on hg3 (fun j e=>.inr (.inr e)) |>.on (aP w5 H 6 _) (fun j e=>by injection e with e;exact .inl e.symm)⟩)
     case rest=>
      obtain⟨v6',g6,c6',hH4,hK4⟩:=hcut;obtain⟨V4,hren⟩:=nm (wc);subst hren;have y0:=hK4.out.cell y0 fY.out.1 fY.out.1 (fun e=>(fY.out.2.2.2 Yy (.inr <| .inl e)).1 rfl);have y1:=hK4.out.cell y1 fY.out.1 fY.out.1 (fun e=>(fY.out.2.2.2 Yy (.inr <| .inl e)).1 rfl);have zc0:=hK4.out.cell zc0 fY.out.2.1 fY.out.2.1 (fun e=>(fY.out.2.2.2 Z (.inr <| .inl e)).2.1 rfl);have zc1:=hK4.out.cell zc1 fY.out.2.1 fY.out.2.1 (fun e=>(fY.out.2.2.2 Z (.inr <| .inl e)).2.1 rfl);have zc2:=hK4.out.cell zc2 fY.out.2.1 fY.out.2.1 (fun e=>(fY.out.2.2.2 Z (.inr <| .inl e)).2.1 rfl);have x0':=hK4.out.cell x0' fY.out.2.2.1 fY.out.2.2.1 (fun e=>(fY.out.2.2.2 X (.inr <| .inl e)).2.2 rfl);have x1':=hK4.out.cell x1' fY.out.2.2.1 fY.out.2.2.1 (fun e=>(fY.out.2.2.2 X (.inr <| .inl e)).2.2 rfl);have x2':=hK4.out.cell x2' fY.out.2.2.1 fY.out.2.2.1 (fun e=>(fY.out.2.2.2 X (.inr <| .inl e)).2.2 rfl);have c7:=hH4.out.c7;have CL:Hid (∀w',Below _ V4 w'->Calls _ 235 _ w' fun e w''=>∃a cap,e=rt (tu #[J a (pP x).length cap,Y I 0])/\(IsLks w'' a (pP x)/\∀ad,a=M ad->_<=_)/\Below _ w' w''):=fun w' hb=>locks_okA x.ra x.ga x.sa x.rc x.gc x.sc x.rs x.gs x.ss w' (HX.out.below (aC hH4.out.bl hb)).t HCx.out (bI _ _ _ (bR HCx.out).1).2.2.1
      have LP:=Hi (lk_pos HCx.out);clear hK4 hH3 CA c6 HP6 y0 y1 zc0 zc1 zc2 ONE;generalize hln:(pP x).length=LN at *;have HLN:=Hi hln;clear hln
      go_upto_region 10 with fail
      go_region_law (first
       | (refine bO (by rfl) _ _ 222 265 (by rfl) i131 _ underlying222 hi131 hz131 hs131 hb131 rfl (H+1) v7 L7.length _ (by rfl) HLc.out.tri.o7 ⟨_,0,none⟩ 1 (.slice a LN c) (by rfl) (aF (wa'.alloc _) _ 265 _ 0 _ sm rfl) rfl hsm.out.2.2 HLc.out.hs ?_;intro v' w5 ho3 hg3 hv3;obtain⟨g',cap',rfl,_,_⟩:=ho3.form sm;have oc:=hg3.cell HLc.out.c7 (fun e=>by have:=(HLc.out.tri.o7.lt H e.symm).1;omega);have of3:=(nv (a:=⟨H,7,Q⟩) (hg3.block H HLc.out.hs (fun e=>by have:=(HLc.out.tri.o7.lt H e.symm).1;omega))).trans (HLc.out.fz 7))
       | (go_simp;go_at_call 235;refine(CL.out _ ?_).mono ?_;(exact aD br);rintro e wa' ⟨a,c,rfl,hpo,hba⟩;have oa:=aB (aC (aD br) hba) c7;have ob:=(fun o=>aB (aA br o) oa);have ob2:=(fun o o'=>aB (aA (aA br o) o') oa);have Hwc:Hid (Below _ V4 ((wa'.alloc (U #[Y I 0] 22)).alloc (U #[J a LN c] 265))):=aA (aA (aC (aD br) hba) _) _;have HLc:Hid (HL w ((wa'.alloc (U #[Y I 0] 22)).alloc (U #[J a LN c] 265)) H w.heap.size sh l (M ⟨b,off,Q⟩) lc (J sa S.st.length sc) (J ra S.rd.length rc) (J wa S.wr.length tc) (J va S.vs.length vc) v5' v6' v7 (L5++[(g5,c5')]) (L6++[(g6,c6')]) L7):=hH4.out.below Hwc.out;go_wp2_with fail)
       | (go_simp;go_at_call 234;refine(gotLocksB _ _ _ _).mono ?_;rintro e wb' ⟨rfl,rfl⟩;go_wp2_with fail))
      all_goals (
       have n1:IsLks ((wa'.alloc (U #[Y I 0] 22)).alloc (U #[J a LN c] 265)) a _:=hpo.1.below (aA (aA br _) _);obtain⟨bb,oo,ea,hlt5,_,_⟩:=n1 0 (by rw[HLN.out];exact LP.out);have hH5:=Hi (HL.push7 hH4.out Hwc.out a c (by rw[HP7.out,HLN.out];exact ho3) hg3 hv3 (by rw[HP7.out];exact n1) (fun ad e=>⟨hpo.2 ad e,by rw[ea]at e;injection e with e;rw[<-e];exact hlt5⟩));have hLn:Hid ((L5++[(g5,c5')]).length=k+1/\(L6++[(g6,c6')]).length=k+1/\(L7++[(a,(pP (gX l L7.length)).length,c)]).length=k+1):=by have:=hLen.out;refine⟨?_,?_,?_⟩ <;> (rw[nj,lz];omega)
       clear hH4 CL c7 HP7 x0' x1' x2' ho3 hg3 hv3 hpo hba oa ob ob2 oc of3 Hwc HLc n1 ea hlt5;generalize (w5.setCell ⟨H,7,Q⟩ (J (M ⟨g',0,Q⟩) (L7.length+1) cap'))=WF at *;go_wp2;go_roundw
       case rel=>exact⟨k+1,v5',v6',_,_,_,_,by omega,by go_num,hH5,hLn⟩
       case measure=>simp[intOf];omega)
  ·have hkk:k=l.length:=om;have i1:¬(k:Int)<(l.length:Int):=om;obtain⟨a5,k5,hv5,br5⟩:=hHL.out.tri.br5;obtain⟨a6,k6,hv6,br6⟩:=hHL.out.tri.br6;obtain⟨a7,k7,hv7,lr7⟩:=hHL.out.tri.lr7 (by have:=hLen.out.2.2;omega);have m5:L5.length=l.length:=by have:=hLen.out.1;omega
   have m6:L6.length=l.length:=by have:=hLen.out.2.1;omega
   have m7:L7.length=l.length:=by have:=hLen.out.2.2;omega
   have HALL:Hid (Hall wr H sh l S ⟨w.heap.size,la,sa,ra,wa,va,a5,a6,a7,lc,sc,rc,tc,vc,k5,k6,k7⟩):=
    ⟨hHL.out.c0,by have:=hHL.out.c1;rw[H8.out]at this;exact this,by have:=hHL.out.c2;rw[FORM.out.rd]at this;exact this,by have:=hHL.out.c3;rw[FORM.out.wr]at this;exact this,by have:=hHL.out.c4;rw[FORM.out.vs]at this;exact this,by have:=hHL.out.c5;rw[hv5,m5]at this;exact this,by have:=hHL.out.c6;rw[hv6,m6]at this;exact this,by have:=hHL.out.c7;rw[hv7,m7]at this;exact this,hHL.out.p0,hHL.out.p1,HL0.out.below hHL.out.bl,H8.out,HST.out.st.below hHL.out.bl,(HST.out.rd.below hHL.out.bl).rows FORM.out.rd FORM.out.rn hs0,(HST.out.wr.below hHL.out.bl).rows FORM.out.wr FORM.out.wn hs0,(HST.out.vs.below hHL.out.bl).rows FORM.out.vs FORM.out.vn,by rw[m5]at br5;exact br5,by rw[m6]at br6;exact br6,lr7,hs0,hs4,hl8⟩
   have FIN:Hid (_<=H/\H<_/\_/\_<H/\Below _ w wr):=⟨hHL.out.hw,hHL.out.hs,hHL.out.fz,hHL.out.hp,hHL.out.bl⟩;clear hHL br5 br6 lr7 hv5 hv6 hv7 m5 m6 m7;have CT:=Hi (wD HALL.out)
   cases hT:cV sh l S with
   | true=>
    have CT1:Hid (Calls prog 236 #[pd (M ⟨H,0,Q⟩)] wr fun e w'=>e=rt (Y I 0)/\w'=wr):=by have:=CT.out;rw[hT]at this;exact this
    have HT:=Hi hT;clear CT hT
    go_wp2_with fail
    refine CT1.out.mono ?_;rintro e w6 ⟨rfl,hw6⟩;subst hw6;clear CT1
    go_wp2_with fail
    refine(aQ [0] _ 1 _ sm rfl (dS _ _ _ rfl)).mono ?_;rintro e w7 ⟨rfl,hw7⟩;have b7:Hid (Below w6.heap.size w6 w7):=by rw[hw7];exact aA br _
    clear hw7;go_wp2;go_ret;exact⟨.inl ⟨HT.out,H,_,rfl,HALL.out.below b7.out,FIN.out.1,nd FIN.out.2.1 b7.out.size,fun j=>(b7.out.frozen (p:=⟨H,j,Q⟩) FIN.out.2.1).trans (FIN.out.2.2.1 j),nr,FIN.out.2.2.2.1,rfl⟩,aC FIN.out.2.2.2.2 b7.out⟩
   | false=>
    have CT1:Hid (Calls prog 236 #[pd (M ⟨H,0,Q⟩)] wr fun e w'=>e=rt (Y I 1)/\w'=wr):=by have:=CT.out;rw[hT]at this;exact this
    have HT:=Hi hT;clear CT hT
    go_wp2_with fail
    refine CT1.out.mono ?_;rintro e w6 ⟨rfl,hw6⟩;subst hw6;clear CT1
    go_wp2_with fail
    refine(dR [1] _ 1 _ sm dc (dS _ _ _ rfl)).mono ?_;rintro e w7 ⟨rfl,hw7⟩;refine⟨rfl,.inr ⟨HT.out,rfl⟩,?_⟩;rw[hw7];exact aA FIN.out.2.2.2.2 _
end
theorem VZ (h:p:=by
 go_wp2_with fail
 refine CH.out.mono ?_;rintro e w1 ⟨rfl,hb⟩;exact⟨rfl,rfl,hb⟩):p:=h
section
theorem stE_plan {l:List TxA} {S:SA} (h:cZ m l S=0):aN m l=0:=by
 unfold cZ at h;by_cases c:aN m l=0
 ·exact c
 ·rw[if_neg c]at h;exact h
theorem aZ {l:List TxA} {S:SA} (h:cZ m l S=0):∃sh:Nat,m=sh/\0<sh/\sh<=4/\eN l=0/\aN m l=0/\gL sh l S=true/\cV sh l S=true:=by
 have hp:=stE_plan h;have hz:=aX hp;refine⟨m.toNat,by omega,by omega,by omega,hz.2.2,hp,?_⟩;unfold cZ at h;rw[if_pos hp]at h
 cases h1:gL m.toNat l S <;> cases h2:cV m.toNat l S <;> simp_all
theorem stE_bad {sh:Nat} {l:List TxA} {S:SA} (hp:aN (sh:Int) l=0) (h:gL sh l S=false∨cV sh l S=false):cZ sh l S=1:=by
 unfold cZ;rw[if_pos hp];have e:((sh:Int)).toNat=sh:=om;rw[e];rcases h with h | h <;> rw[h] <;> simp
theorem news_steps {w:World} {ad:Addr} {L:List (Nat×Nat×Nat)} (h:IsSteps w (M ad) L):∀j u,(bF L)[j]?=M u->w.cell? (ad.add j)=M u:=by
 intro j u hj;have hlt:j<L.length*3:=by rw[<-qW];exact(List.getElem?_eq_some_iff.1 hj).1
 have hi:j / 3<L.length:=om;have hr:j%3<3:=l7 _ dc;have ej:j=j / 3*3+j%3:=om;obtain⟨b,off,ha,hb,c0,c1,c2⟩:=h (j / 3) hi;obtain⟨g0,g1,g2⟩:=lB L (j / 3) hi;injection ha with ha
 subst ha;rw[ej]at hj;rw[bZ,ej];generalize j / 3=i at *;generalize j%3=r at *
 match r,hr with
 | 0,_=>rw[Nat.add_zero,g0]at hj;injection hj with hj;subst hj;simpa using c0
 | 1,_=>rw[g1]at hj;injection hj with hj;subst hj;simpa[Nat.add_assoc]using c1
 | 2,_=>rw[g2]at hj;injection hj with hj;subst hj;simpa[Nat.add_assoc]using c2
variable (la:Option Addr) (lc:Nat) (l:List TxA) (sa ra wa va:Option Addr) (sc rc tc vc:Nat) (S:SA)
theorem vU (sh:Nat) (w:World) (hl:IsTxs w la l) (hs:Sta w sa ra wa va S) (hE:cZ sh l S=0) :
  Calls prog 194 #[ag #[Y I sh,J la l.length lc],ag #[J sa S.st.length sc,J ra S.rd.length rc,J wa S.wr.length tc,J va S.vs.length vc]] w fun e w'=>∃h A,e=rt (pd (M ⟨h,0,Q⟩))/\Hall w' h sh l S A/\w.heap.size<=h/\h<w'.heap.size/\(∀j,w'.frozen? ⟨h,j,Q⟩=false)/\w.heap.size<=A.p/\A.p<h/\A.la=la/\Below w.heap.size w w':=by
 obtain⟨sh',e,_,_,_,hp,hf,ht⟩:=aZ hE;have e':sh'=sh:=om;subst e';refine(aAz la lc l sa ra wa va sc rc tc vc S sh' w hl hs hp (cH.1 hf).st hf).mono ?_;rintro e w' ⟨⟨_,h,A,rfl,H,h1,h2,h3,h4,h5,h6⟩ | ⟨h,_⟩,hb⟩
 ·exact⟨h,A,rfl,H,h1,h2,h3,h4,h5,h6,hb⟩
 ·rw[ht]at h;cases h
theorem xQ (m:Int) (w:World) (hl:IsTxs w la l) (hs:Sta w sa ra wa va S) (hE:¬cZ m l S=0) :
  Kp 194 #[ag #[Y I m,J la l.length lc],ag #[J sa S.st.length sc,J ra S.rd.length rc,J wa S.wr.length tc,J va S.vs.length vc]] w (cZ m l S):=by
 by_cases hp:aN m l=0
 ·obtain⟨sh,rfl⟩:∃sh:Nat,m=sh:=⟨m.toNat,by have:=aX hp;omega⟩;by_cases h8:S.st.length=8
  ·cases hf:gL sh l S with
   | false=>
    rw[stE_bad hp (.inl hf)];exact hallOf_pan2 la lc l sa ra wa va sc rc tc vc S sh w hl hs hp h8 hf
   | true=>
    cases ht:cV sh l S with
    | false=>
     rw[stE_bad hp (.inr ht)];refine(aAz la lc l sa ra wa va sc rc tc vc S sh w hl hs hp h8 hf).mono ?_;rintro e w' ⟨⟨h,_⟩ | ⟨_,rfl⟩,hb⟩
     ·rw[ht]at h;cases h
     ·exact⟨rfl,hb⟩
    | true=>
     refine absurd ?_ hE;unfold cZ;have e:((sh:Int)).toNat=sh:=om;rw[if_pos hp,e,hf,ht];rfl
  ·have hf:gL sh l S=false:=form_bad fun F=>h8 F.st
   have e2:cP S.st=1:=if_neg h8;have e3:aH [aN (sh:Int) l,cP S.st]=1:=by rw[hp,e2];rfl
   rw[stE_bad hp (.inl hf)];have hh:=uL la lc l sa ra wa va sc rc tc vc S sh w hl (by rw[e3];decide);rw[e3]at hh;exact hh
 ·have e1:cZ m l S=aN m l:=if_neg hp;have e3:aH [aN m l,cP S.st]=aN m l:=by unfold aH;rw[if_neg hp]
  rw[e1];have hh:=uL la lc l sa ra wa va sc rc tc vc S m w hl (by rw[e3];exact hp);rw[e3]at hh;exact hh
theorem over1_pan (m:Int) (p q:Nat) (w:World) (p0:w.cell? ⟨p,0,Q⟩=Y I m) (p1:w.cell? ⟨p,1,Q⟩=J la l.length lc) (q0:w.cell? ⟨q,0,Q⟩=J sa S.st.length sc) (q1:w.cell? ⟨q,1,Q⟩=J ra S.rd.length rc) (q2:w.cell? ⟨q,2,Q⟩=J wa S.wr.length tc) (q3:w.cell? ⟨q,3,Q⟩=J va S.vs.length vc) (hl:IsTxs w la l) (hs:Sta w sa ra wa va S) (hE:¬cZ m l S=0) :
  Kp 210 #[pd (M ⟨p,0,Q⟩),pd (M ⟨q,0,Q⟩)] w (cZ m l S):=by
 have CH:=Hi (xQ la lc l sa ra wa va sc rc tc vc S m w hl hs hE);clear hl hs hE;go_enter func210,ntmps210;exact VZ
theorem can1_pan (m:Int) (p q:Nat) (w:World) (p0:w.cell? ⟨p,0,Q⟩=Y I m) (p1:w.cell? ⟨p,1,Q⟩=J la l.length lc) (q0:w.cell? ⟨q,0,Q⟩=J sa S.st.length sc) (q1:w.cell? ⟨q,1,Q⟩=J ra S.rd.length rc) (q2:w.cell? ⟨q,2,Q⟩=J wa S.wr.length tc) (q3:w.cell? ⟨q,3,Q⟩=J va S.vs.length vc) (hl:IsTxs w la l) (hs:Sta w sa ra wa va S) (hE:¬cZ m l S=0) :
  Kp 213 #[pd (M ⟨p,0,Q⟩),pd (M ⟨q,0,Q⟩)] w (cZ m l S):=by
 have CH:=Hi (xQ la lc l sa ra wa va sc rc tc vc S m w hl hs hE);clear hl hs hE;go_enter func213,ntmps213;exact VZ
theorem uH (sh:Nat) (l:List TxA) (S:SA) (n:Nat):kX sh l S (n+1)=(kX sh l S n && (List.range sh).all (bM sh l S n)):=mC _ n
theorem over1_ok (sh:Nat) (p q:Nat) (w:World) (p0:w.cell? ⟨p,0,Q⟩=Y I sh) (p1:w.cell? ⟨p,1,Q⟩=J la l.length lc) (q0:w.cell? ⟨q,0,Q⟩=J sa S.st.length sc) (q1:w.cell? ⟨q,1,Q⟩=J ra S.rd.length rc) (q2:w.cell? ⟨q,2,Q⟩=J wa S.wr.length tc) (q3:w.cell? ⟨q,3,Q⟩=J va S.vs.length vc) (hl:IsTxs w la l) (hs:Sta w sa ra wa va S) (hE:cZ sh l S=0) :
  Kr 210 #[pd (M ⟨p,0,Q⟩),pd (M ⟨q,0,Q⟩)] w (bo (dB sh l S)):=by
 have CH:=Hi (vU la lc l sa ra wa va sc rc tc vc S sh w hl hs hE);have HF:Hid (dB sh l S=kX sh l S l.length):=rfl;have HS:=Hi (uH sh l S);have HB:Hid (∀n k,n<l.length->k<sh->bM sh l S n k=false->dB sh l S=false):=fun n k hn hk e=>gD hn (gD hk e)
 have H0:Hid (kX sh l S 0=true):=rfl;clear hl hs hE;generalize dB sh l S=R at *;generalize hot:kX sh l S=ot at *;clear hot;go_enter func210,ntmps210
 go_wp2_with fail
 refine CH.out.mono ?_;rintro e w1 ⟨h,A,rfl,hH,_,_,_,_,_,_,hb⟩;have B1:=Hi hb;have HH:=Hi hH;have x0:=hH.h0;have z0:=hH.p0;have z1:=hH.p1;have hl8:=hH.l8;have hs4:=hH.s4;clear hb p0 p1 q0 q1 q2 q3 hH CH;go_wp2
 go_loop [17] (fun i=>∃n:Nat,n<=l.length/\i=Y I n/\Hid (ot n=true)) (fun i=>l.length - (intOf i).toNat)
 case atStart=>exact⟨0,nz,rfl,H0⟩
 case round=>
  obtain⟨n,hn',rfl,hall⟩:=hrel;by_cases hlt:n<l.length
  ·have i1:(n:Int)<(l.length:Int):=om;have HN:Hid ((List.range sh).all _=true->ot _=true):=fun e=>by rw[HS.out,hall.out,e];rfl
   clear hall;go_wp2
   go_loop [27] (fun i=>∃k:Nat,k<=sh/\i=Y I k/\Hid ((List.range k).all (bM sh l S n)=true)) (fun i=>sh - (intOf i).toNat)
   case atStart=>exact⟨0,nz,rfl,rfl⟩
   case round=>
    obtain⟨k,hk',rfl,hall⟩:=hrel;by_cases hlt2:k<sh
    ·have j1:(k:Int)<(sh:Int):=om;have HT:Hid ((List.range (k+1)).all (bM sh l S n)=bM sh l S n k):=by show _=_;rw[mC,hall.out,wk]
     have HBk:=Hi (HB.out n k hlt hlt2);have CG:=Hi (gone_any HH.out hlt hlt2);clear hall;generalize hg:bM sh l S n k=G at HT HBk CG;clear hg
     cases G
     ·have HR:=Hi (HBk.out rfl);clear HT HBk
      go_wp2_with fail
      refine CG.out.mono ?_;rintro e w2 ⟨rfl,hw2⟩;subst hw2;clear CG;exact zk
     ·clear HBk
      go_wp2_with fail
      refine CG.out.mono ?_;rintro e w2 ⟨rfl,hw2⟩;subst hw2;clear CG;go_wp2;go_round
      case rel=>exact⟨k+1,by omega,by go_num,HT.out⟩
      case measure=>simp[intOf];omega
    ·have hkk:k=sh:=om;have j1:¬(k:Int)<(sh:Int):=om;have HT:=Hi (HN.out (by have:=hall.out;rw[hkk]at this;exact this));clear hall HN;go_wp2;go_round
     case rel=>exact⟨n+1,by omega,by go_num,HT⟩
     case measure=>simp[intOf];omega
  ·have hnn:n=l.length:=om;have i1:¬(n:Int)<(l.length:Int):=om;have HR:Hid (R=true):=by have:=hall.out;rw[hnn]at this;exact HF.out.trans this
   clear hall;exact zk
theorem can1_ok (sh:Nat) (p q:Nat) (w:World) (p0:w.cell? ⟨p,0,Q⟩=Y I sh) (p1:w.cell? ⟨p,1,Q⟩=J la l.length lc) (q0:w.cell? ⟨q,0,Q⟩=J sa S.st.length sc) (q1:w.cell? ⟨q,1,Q⟩=J ra S.rd.length rc) (q2:w.cell? ⟨q,2,Q⟩=J wa S.wr.length tc) (q3:w.cell? ⟨q,3,Q⟩=J va S.vs.length vc) (hl:IsTxs w la l) (hs:Sta w sa ra wa va S) (hE:cZ sh l S=0) :
  Calls prog 213 #[pd (M ⟨p,0,Q⟩),pd (M ⟨q,0,Q⟩)] w fun e w'=>∃v,e=rt v/\w'.ownsRow w.heap.size 33 3 v (dF sh l S).length (bF (dF sh l S))/\Below w.heap.size w w':=by
 obtain⟨i0,hi,hz0,hz1,hz2⟩:=info_parts info33;have CH:=Hi (vU la lc l sa ra wa va sc rc tc vc S sh w hl hs hE);clear hl hs hE;have HC:Hid (dF sh l S=mT sh l S 1++mT sh l S 2):=rfl;go_enter func213,ntmps213
 go_wp2_with fail
 refine CH.out.mono ?_;rintro e w1 ⟨h,A,rfl,hH,_,_,_,_,_,_,hb⟩;have B1:=Hi hb;have hl8:=hH.l8;have hs4:=hH.s4;have CAN:Hid (∀w',Below w1.heap.size w1 w'->∀kd,kd=1∨kd=2->Calls prog 214 _ w' fun e w''=>∃v,e=rt v/\w''.ownsRow w'.heap.size 33 3 v (mT sh l S kd).length _/\Below w'.heap.size w' w''):=fun w' hb kd hk=>can_own (hH.below hb) kd hk
 have len1:(mT sh l S 1).length<=40:=nh (jV sh l S 1 l.length) (nh (l5 hl8 hs4) dc);have len2:(mT sh l S 2).length<=40:=nh (jV sh l S 2 l.length) (nh (l5 hl8 hs4) dc);clear hb p0 p1 q0 q1 q2 q3 hH CH
 go_wp2_with fail
 refine(CAN.out w1 br 1 (.inl rfl)).mono ?_;rintro e w2 ⟨v1,rfl,ho1,hb2⟩;have HB2:=Hi hb2;have HO1:=Hi ho1;clear hb2 ho1
 go_wp2_with fail
 refine(CAN.out w2 HB2.out 2 (.inr rfl)).mono ?_;rintro e w3 ⟨v2,rfl,ho2,hb3⟩;have HO3:=Hi (lL (bY HO1.out hb3) B1.out.size);have B3:=Hi (aC B1.out (aC HB2.out hb3));have hsz:=B3.out.size;obtain⟨a2,c2,rfl,hs2⟩:=lX ho2 rfl;have HS2:=Hi hs2
 have HN2:Hid (a2=Q->mT sh l S 2=[]):=fun e=>by
  cases hc:mT sh l S 2 with
  | nil=>rfl
  | cons x t=>
   obtain⟨b,off,ea,_⟩:=hs2 0 (by rw[hc];simp);rw[e]at ea;cases ea
 have HC2:Hid (a2=Q->c2=0):=fun e=>by
  rcases ho2.2 with ⟨hh,_⟩ | ⟨g,cap,cur,hh,_⟩
  ·injection hh
  ·injection hh with q;rw[e]at q;cases q
 clear hs2 ho2 hb3 HO1 HB2 CAN;generalize mT sh l S 1=K1 at *;generalize mT sh l S 2=K2 at *
 have FIN:Hid (∀(v':Value) (w4:World),w4.ownsRow w.heap.size 33 3 v' _ _->w4.ownsRow w.heap.size 33 3 v' (dF sh l S).length (bF (dF sh l S))):=fun v' w4 h=>by
  rw[HC.out,yI,nj];exact h
 cases a2 with
 | none=>
  have e2:=HN2.out rfl;subst e2;have R:=Hi (FIN.out v1 w3 (by have:=HO3.out;simpa[bF]using this));have e3:=HC2.out rfl;subst e3;clear FIN HC HC2 HS2 HN2
  go_wp2_with (first | (at_builtin;refine wpList_append_own_none rfl _ _ 30 rfl w.heap.size 33 i0 3 underlying30 hi _ _ _ rfl HO3.out rfl ?_) | go_in)
  clear HO3;go_wp2;go_ret;exact⟨_,rfl,R.out,B3.out⟩
 | some ad=>
  have hnews:=news_steps HS2.out;clear HS2 HN2
  go_wp2_with (first | (at_builtin;(refine wpList_append_own _ rfl _ _ 30 rfl w.heap.size 33 i0 (ag #[Y I 0,Y I 0,Y I 0]) 3 24 underlying30 hi hz0 hz1 hz2 rfl dc _ _ _ rfl HO3.out ad K2.length c2 (bF K2) rfl (qW K2) hnews (yH K2) (by unfold maxLen;omega) om hsz ?_);intro v' w4 hown' hgrow _) | go_in)
  have R:=Hi (FIN.out v' w4 hown');have RB:=Hi (B3.out.grown hgrow hsz (fun j hj=>(HO3.out.lt j hj).1));clear hown' hgrow HO3 FIN hnews HC;go_wp2;go_ret;exact⟨_,rfl,R.out,RB.out⟩
end
theorem sQ (p:Addr) (x y:Int) (older:List PanicEntry) (w:World) (hc:w.cell? p=M (Y I y)) (hz:w.frozen? p=false) :
  CallsD prog 164 #[pd (M p)] (.panicking ({v:=fc 22 (Y I x),recovered:=false}::older)) w fun e u' w'=>
   e=rt (tu #[])/\u'=.panicking ({v:=fc 22 (Y I x),recovered:=true}::older)/\w'=w.setCell p (Y I x):=by
 exact xj
theorem catchBo_idle (p:Addr) (w:World) :
  CallsD prog 164 #[pd (M p)] .returning w fun e u' w'=>e=rt (tu #[])/\u'=.returning/\w'=w:=by
 exact x9
theorem caughtBo_ret (F:FuncId) (cap:Array Value) (hF:∀w,Sem.run prog (callFunc F cap) w=.ok (.enter F cap) w) (P:Value->World->Prop) (w:World) (hP:∀v w',P v w'->P v (w'.setCell ⟨w.heap.size,0,Q⟩ (Y I 0)))
  (h:Calls prog F cap (w.alloc (U #[Y I 0] 22)) fun e w'=>∃v,e=rt v/\P v w'/\Below (w.heap.size+1) (w.alloc (U #[Y I 0] 22)) w') :
  Calls prog 137 #[.func (.func F) #[] cap] w fun e w'=>∃v,e=rt (tu #[v,Y I 0])/\P v w'/\Below w.heap.size w w':=by
 have H:=Hi h;have HP:=Hi hP;have HF:=Hi hF;clear h hP hF;go_enter_defers func137,ntmps137
 go_wp2_with fail
 rw[HF.out,Oper.upon_enter];refine H.out.mono ?_;clear H;rintro e w1 ⟨v,rfl,hv,hb⟩;have hc:w1.cell? ⟨w.heap.size,0,Q⟩=Y I 0:=by rw[hb.cell sm];simp
 have hf:w1.frozen? ⟨w.heap.size,0,Q⟩=false:=by rw[hb.frozen sm];simp
 have Hb:=Hi hb;have HV:=Hi (HP.out v w1 hv);clear hb hv HP;go_wp2;refine leaves_cons (f:=164) (args:=#[pd (M ⟨w.heap.size,0,Q⟩)]) sm (by simp[go_sem]) ?_;refine(catchBo_idle ⟨w.heap.size,0,Q⟩ _).mono ?_;rintro e u' w'' ⟨rfl,rfl,rfl⟩;simp[Leaves,settle,results,results137,go_sem,hc];exact vu
theorem caughtBo_pan (F:FuncId) (cap:Array Value) (hF:∀w,Sem.run prog (callFunc F cap) w=.ok (.enter F cap) w) (x:Int) (w:World)
  (h:Calls prog F cap (w.alloc (U #[Y I 0] 22)) fun e w'=>e=pg [{v:=fc 22 (Y I x),recovered:=false}]/\Below (w.heap.size+1) (w.alloc (U #[Y I 0] 22)) w') :
  Kr 137 #[.func (.func F) #[] cap] w (tu #[bo false,Y I x]):=by
 have H:=Hi h;have HF:=Hi hF;clear h hF;go_enter_defers func137,ntmps137
 go_wp2_with fail
 rw[HF.out,Oper.upon_enter];refine H.out.mono ?_;clear H;rintro e w1 ⟨rfl,hb⟩;have hc:w1.cell? ⟨w.heap.size,0,Q⟩=Y I 0:=by rw[hb.cell sm];simp
 have hf:w1.frozen? ⟨w.heap.size,0,Q⟩=false:=by rw[hb.frozen sm];simp
 refine leaves_cons (f:=164) (args:=#[pd (M ⟨w.heap.size,0,Q⟩)]) sm (by simp[go_sem]) ?_;refine(sQ ⟨w.heap.size,0,Q⟩ x 0 [] _ hc hf).mono ?_;exact Vx
structure Q4 where
 sa:Option Addr
 ra:Option Addr
 wa:Option Addr
 va:Option Addr
 sn:Nat
 rn:Nat
 wn:Nat
 vn:Nat
 sc:Nat
 rc:Nat
 tc:Nat
 vc:Nat
theorem sI (p:Addr) (x y:Int) (older:List PanicEntry) (w:World) (hc:w.cell? p=M (Y I y)) (hz:w.frozen? p=false) :
  CallsD prog 255 #[pd (M p)] (.panicking ({v:=fc 22 (Y I x),recovered:=false}::older)) w fun e u' w'=>
   e=rt (tu #[])/\u'=.panicking ({v:=fc 22 (Y I x),recovered:=true}::older)/\w'=w.setCell p (Y I x):=by
 refine callsD_of_wpS func255 rfl fun c₀ cs hu=>?_
 apply wpS_seq;apply wpS_region;simp[wpOpsS,go_sem,recoverD,hu,ntmps255,Exit.thenS];apply wpS_seq;apply wpS_region;simp[wpOpsS,go_sem,Exit.thenS];refine wpS_cond (t:=true) (by simp[Act.eval,Array.replicate]) ?_;simp only[if_true];apply wpS_region;simp[wpOpsS,go_sem,cQ,hc,hz,bodyPostS,results,results255]
theorem catchSp_idle (p:Addr) (w:World) :
  CallsD prog 255 #[pd (M p)] .returning w fun e u' w'=>e=rt (tu #[])/\u'=.returning/\w'=w:=by
 refine callsD_of_wpS func255 rfl fun c₀ cs hu=>?_
 apply wpS_seq;apply wpS_region;simp[wpOpsS,go_sem,recoverD,hu,ntmps255,Exit.thenS];apply wpS_seq;apply wpS_region;simp[wpOpsS,go_sem,Exit.thenS];refine wpS_cond (t:=false) (by simp[Act.eval,Array.replicate]) ?_;simp only[Bool.false_eq_true,if_false];refine wpS_of_wp (wp_skip ?_)
 cases c₀
 simp_all [bodyPostS,results,results255]
theorem caughtSp_ret (F:FuncId) (cap:Array Value) (hF:∀w,Sem.run prog (callFunc F cap) w=.ok (.enter F cap) w) (P:Value->World->Prop) (w:World) (hP:∀v w',P v w'->P v (w'.setCell ⟨w.heap.size,0,Q⟩ (Y I 0)))
  (h:Calls prog F cap (w.alloc (U #[Y I 0] 22)) fun e w'=>∃v,e=rt v/\P v w'/\Below (w.heap.size+1) (w.alloc (U #[Y I 0] 22)) w') :
  Calls prog 212 #[.func (.func F) #[] cap] w fun e w'=>∃v,e=rt (tu #[v,Y I 0])/\P v w'/\Below w.heap.size w w':=by
 have H:=Hi h;have HP:=Hi hP;have HF:=Hi hF;clear h hP hF;go_enter_defers func212,ntmps212
 go_wp2_with fail
 rw[HF.out,Oper.upon_enter];refine H.out.mono ?_;clear H;rintro e w1 ⟨v,rfl,hv,hb⟩;have hc:w1.cell? ⟨w.heap.size,0,Q⟩=Y I 0:=by rw[hb.cell sm];simp
 have hf:w1.frozen? ⟨w.heap.size,0,Q⟩=false:=by rw[hb.frozen sm];simp
 have Hb:=Hi hb;have HV:=Hi (HP.out v w1 hv);clear hb hv HP;go_wp2;refine leaves_cons (f:=255) (args:=#[pd (M ⟨w.heap.size,0,Q⟩)]) sm (by simp[go_sem]) ?_;refine(catchSp_idle ⟨w.heap.size,0,Q⟩ _).mono ?_;rintro e u' w'' ⟨rfl,rfl,rfl⟩;simp[Leaves,settle,results,results212,go_sem,hc];exact vu
theorem caughtSp_pan (F:FuncId) (cap:Array Value) (hF:∀w,Sem.run prog (callFunc F cap) w=.ok (.enter F cap) w) (x:Int) (w:World)
  (h:Calls prog F cap (w.alloc (U #[Y I 0] 22)) fun e w'=>e=pg [{v:=fc 22 (Y I x),recovered:=false}]/\Below (w.heap.size+1) (w.alloc (U #[Y I 0] 22)) w') :
  Kr 212 #[.func (.func F) #[] cap] w (tu #[J Q 0 0,Y I x]):=by
 have H:=Hi h;have HF:=Hi hF;clear h hF;go_enter_defers func212,ntmps212
 go_wp2_with fail
 rw[HF.out,Oper.upon_enter];refine H.out.mono ?_;clear H;rintro e w1 ⟨rfl,hb⟩;have hc:w1.cell? ⟨w.heap.size,0,Q⟩=Y I 0:=by rw[hb.cell sm];simp
 have hf:w1.frozen? ⟨w.heap.size,0,Q⟩=false:=by rw[hb.frozen sm];simp
 refine leaves_cons (f:=255) (args:=#[pd (M ⟨w.heap.size,0,Q⟩)]) sm (by simp[go_sem]) ?_;refine(sI ⟨w.heap.size,0,Q⟩ x 0 [] _ hc hf).mono ?_;rintro e u' w'' ⟨rfl,rfl,rfl⟩;simp[Leaves,settle,results,results212,go_sem,hc];exact uq
theorem sM (p:Addr) (x y:Int) (older:List PanicEntry) (w:World) (hc:w.cell? p=M (Y I y)) (hz:w.frozen? p=false) :
  CallsD prog 216 #[pd (M p)] (.panicking ({v:=fc 22 (Y I x),recovered:=false}::older)) w fun e u' w'=>
   e=rt (tu #[])/\u'=.panicking ({v:=fc 22 (Y I x),recovered:=true}::older)/\w'=w.setCell p (Y I x):=by
 refine callsD_of_wpS func216 rfl fun c₀ cs hu=>?_
 apply wpS_seq;apply wpS_region;simp[wpOpsS,go_sem,recoverD,hu,ntmps216,Exit.thenS];apply wpS_seq;apply wpS_region;simp[wpOpsS,go_sem,Exit.thenS];refine wpS_cond (t:=true) (by simp[Act.eval,Array.replicate]) ?_;simp only[if_true];apply wpS_region;simp[wpOpsS,go_sem,cQ,hc,hz,bodyPostS,results,results216]
theorem catchRl_idle (p:Addr) (w:World) :
  CallsD prog 216 #[pd (M p)] .returning w fun e u' w'=>e=rt (tu #[])/\u'=.returning/\w'=w:=by
 refine callsD_of_wpS func216 rfl fun c₀ cs hu=>?_
 apply wpS_seq;apply wpS_region;simp[wpOpsS,go_sem,recoverD,hu,ntmps216,Exit.thenS];apply wpS_seq;apply wpS_region;simp[wpOpsS,go_sem,Exit.thenS];refine wpS_cond (t:=false) (by simp[Act.eval,Array.replicate]) ?_;simp only[Bool.false_eq_true,if_false];refine wpS_of_wp (wp_skip ?_)
 cases c₀
 simp_all [bodyPostS,results,results216]
theorem caughtRl_ret (F:FuncId) (cap:Array Value) (hF:∀w,Sem.run prog (callFunc F cap) w=.ok (.enter F cap) w) (P:Value->World->Prop) (w:World) (hP:∀v w',P v w'->P v (w'.setCell ⟨w.heap.size,0,Q⟩ (Y I 0)))
  (h:Calls prog F cap (w.alloc (U #[Y I 0] 22)) fun e w'=>∃v,e=rt v/\P v w'/\Below (w.heap.size+1) (w.alloc (U #[Y I 0] 22)) w') :
  Calls prog 182 #[.func (.func F) #[] cap] w fun e w'=>∃v,e=rt (tu #[v,Y I 0])/\P v w'/\Below w.heap.size w w':=by
 have H:=Hi h;have HP:=Hi hP;have HF:=Hi hF;clear h hP hF;go_enter_defers func182,ntmps182
 go_wp2_with fail
 rw[HF.out,Oper.upon_enter];refine H.out.mono ?_;clear H;rintro e w1 ⟨v,rfl,hv,hb⟩;have hc:w1.cell? ⟨w.heap.size,0,Q⟩=Y I 0:=by rw[hb.cell sm];simp
 have hf:w1.frozen? ⟨w.heap.size,0,Q⟩=false:=by rw[hb.frozen sm];simp
 have Hb:=Hi hb;have HV:=Hi (HP.out v w1 hv);clear hb hv HP;go_wp2;refine leaves_cons (f:=216) (args:=#[pd (M ⟨w.heap.size,0,Q⟩)]) sm (by simp[go_sem]) ?_;refine(catchRl_idle ⟨w.heap.size,0,Q⟩ _).mono ?_;rintro e u' w'' ⟨rfl,rfl,rfl⟩;simp[Leaves,settle,results,results182,go_sem,hc];exact vu
theorem caughtRl_pan (F:FuncId) (cap:Array Value) (hF:∀w,Sem.run prog (callFunc F cap) w=.ok (.enter F cap) w) (x:Int) (w:World)
  (h:Calls prog F cap (w.alloc (U #[Y I 0] 22)) fun e w'=>e=pg [{v:=fc 22 (Y I x),recovered:=false}]/\Below (w.heap.size+1) (w.alloc (U #[Y I 0] 22)) w') :
  Kr 182 #[.func (.func F) #[] cap] w (tu #[J Q 0 0,Y I x]):=by
 have H:=Hi h;have HF:=Hi hF;clear h hF;go_enter_defers func182,ntmps182
 go_wp2_with fail
 rw[HF.out,Oper.upon_enter];refine H.out.mono ?_;clear H;rintro e w1 ⟨rfl,hb⟩;have hc:w1.cell? ⟨w.heap.size,0,Q⟩=Y I 0:=by rw[hb.cell sm];simp
 have hf:w1.frozen? ⟨w.heap.size,0,Q⟩=false:=by rw[hb.frozen sm];simp
 refine leaves_cons (f:=216) (args:=#[pd (M ⟨w.heap.size,0,Q⟩)]) sm (by simp[go_sem]) ?_;refine(sM ⟨w.heap.size,0,Q⟩ x 0 [] _ hc hf).mono ?_;rintro e u' w'' ⟨rfl,rfl,rfl⟩;simp[Leaves,settle,results,results182,go_sem,hc];exact uq
theorem sL (p:Addr) (x y:Int) (older:List PanicEntry) (w:World) (hc:w.cell? p=M (Y I y)) (hz:w.frozen? p=false) :
  CallsD prog 114 #[pd (M p)] (.panicking ({v:=fc 22 (Y I x),recovered:=false}::older)) w fun e u' w'=>
   e=rt (tu #[])/\u'=.panicking ({v:=fc 22 (Y I x),recovered:=true}::older)/\w'=w.setCell p (Y I x):=by
 refine callsD_of_wpS func114 rfl fun c₀ cs hu=>?_
 apply wpS_seq;apply wpS_region;simp[wpOpsS,go_sem,recoverD,hu,ntmps114,Exit.thenS];apply wpS_seq;apply wpS_region;simp[wpOpsS,go_sem,Exit.thenS];refine wpS_cond (t:=true) (by simp[Act.eval,Array.replicate]) ?_;simp only[if_true];apply wpS_region;simp[wpOpsS,go_sem,cQ,hc,hz,bodyPostS,results,results114]
theorem catchSa_idle (p:Addr) (w:World) :
  CallsD prog 114 #[pd (M p)] .returning w fun e u' w'=>e=rt (tu #[])/\u'=.returning/\w'=w:=by
 refine callsD_of_wpS func114 rfl fun c₀ cs hu=>?_
 apply wpS_seq;apply wpS_region;simp[wpOpsS,go_sem,recoverD,hu,ntmps114,Exit.thenS];apply wpS_seq;apply wpS_region;simp[wpOpsS,go_sem,Exit.thenS];refine wpS_cond (t:=false) (by simp[Act.eval,Array.replicate]) ?_;simp only[Bool.false_eq_true,if_false];refine wpS_of_wp (wp_skip ?_)
 cases c₀
 simp_all [bodyPostS,results,results114]
theorem sG (F:FuncId) (cap:Array Value) (hF:∀w,Sem.run prog (callFunc F cap) w=.ok (.enter F cap) w) (P:Q4->World->Prop) (w:World) (hP:∀q w' i u j,(j=w.heap.size∨j=w.heap.size+1)->P q w'->P q (w'.setCell ⟨j,i,Q⟩ u))
  (h:Calls prog F cap ((w.alloc (U #[J Q 0 0,J Q 0 0,J Q 0 0,J Q 0 0] 45)).alloc (U #[Y I 0] 22)) fun e w'=>∃q:Q4,e=rt (ag #[J q.sa q.sn q.sc,J q.ra q.rn q.rc,J q.wa q.wn q.tc,J q.va q.vn q.vc])/\P q w'/\Below ((w.alloc (U #[J Q 0 0,J Q 0 0,J Q 0 0,J Q 0 0] 45)).alloc (U #[Y I 0] 22)).heap.size ((w.alloc (U #[J Q 0 0,J Q 0 0,J Q 0 0,J Q 0 0] 45)).alloc (U #[Y I 0] 22)) w') :
  Calls prog 76 #[.func (.func F) #[] cap] w fun e w'=>∃q:Q4,e=rt (tu #[ag #[J q.sa q.sn q.sc,J q.ra q.rn q.rc,J q.wa q.wn q.tc,J q.va q.vn q.vc],Y I 0])/\P q w'/\Below w.heap.size w w':=by
 have H:=Hi h;have HP:=Hi hP;have HF:=Hi hF;clear h hP hF;go_enter_defers func76,ntmps76
 go_wp2_with fail
 rw[HF.out,Oper.upon_enter];refine H.out.mono ?_;clear H;rintro e w1 ⟨q,rfl,hq,hb⟩;have e0:w1.cell? ⟨w.heap.size+1,0,Q⟩=Y I 0:=aB hb (aF _ _ 22 _ 0 _ sm rfl);have ef:∀j,w1.frozen? _=false:=fun j=>(hb.frozen (p:=⟨w.heap.size+1,j,Q⟩) sm).trans sm
 have c0:w1.cell? _=J Q 0 0:=aB hb (aB (aA br _) (aF w _ 45 _ 0 _ rfl rfl));have c1:w1.cell? _=J Q 0 0:=aB hb (aB (aA br _) (aF w _ 45 _ 1 _ rfl rfl));have c2:w1.cell? _=J Q 0 0:=aB hb (aB (aA br _) (aF w _ 45 _ 2 _ rfl rfl));have c3:w1.cell? _=J Q 0 0:=aB hb (aB (aA br _) (aF w _ 45 _ 3 _ rfl rfl));have cf:∀j,w1.frozen? _=false:=fun j=>(hb.frozen (p:=⟨w.heap.size,j,Q⟩) (by simp;omega)).trans (((aA (n7 (w.alloc (U #[J Q 0 0,J Q 0 0,J Q 0 0,J Q 0 0] 45)).heap.size (w.alloc (U #[J Q 0 0,J Q 0 0,J Q 0 0,J Q 0 0] 45))) (U #[Y I 0] 22)).frozen (p:=⟨w.heap.size,j,Q⟩) sm).trans sm)
 have HV:=Hi hq;have B1:=Hi (aC (aA (aA br _) _) hb);clear hb hq;go_wp2;refine leaves_cons (f:=114) (args:=#[pd (M ⟨w.heap.size+1,0,Q⟩)]) sm (by simp[go_sem]) ?_;refine(catchSa_idle ⟨w.heap.size+1,0,Q⟩ _).mono ?_;rintro e u' w'' ⟨rfl,rfl,rfl⟩;simp[Leaves,settle,results,results76,go_sem,e0,c0,c1,c2,c3];refine⟨q,by simp,?_,?_⟩
 ·exact HP.out _ _ 0 _ _ (.inr rfl) (HP.out _ _ 3 _ _ (.inl rfl) (HP.out _ _ 2 _ _ (.inl rfl) (HP.out _ _ 1 _ _ (.inl rfl) (HP.out _ _ 0 _ _ (.inl rfl) HV.out))))
 ·exact aG (aG (aG (aG (aG B1.out nr _) nr _) nr _) nr _) sm _
theorem nM (F:FuncId) (cap:Array Value) (hF:∀w,Sem.run prog (callFunc F cap) w=.ok (.enter F cap) w) (x:Int) (w:World)
  (h:Calls prog F cap ((w.alloc (U #[J Q 0 0,J Q 0 0,J Q 0 0,J Q 0 0] 45)).alloc (U #[Y I 0] 22)) fun e w'=>e=pg [{v:=fc 22 (Y I x),recovered:=false}]/\Below ((w.alloc (U #[J Q 0 0,J Q 0 0,J Q 0 0,J Q 0 0] 45)).alloc (U #[Y I 0] 22)).heap.size ((w.alloc (U #[J Q 0 0,J Q 0 0,J Q 0 0,J Q 0 0] 45)).alloc (U #[Y I 0] 22)) w') :
  Kr 76 #[.func (.func F) #[] cap] w (tu #[ag #[J Q 0 0,J Q 0 0,J Q 0 0,J Q 0 0],Y I x]):=by
 have H:=Hi h;have HF:=Hi hF;clear h hF;go_enter_defers func76,ntmps76
 go_wp2_with fail
 rw[HF.out,Oper.upon_enter];refine H.out.mono ?_;clear H;rintro e w1 ⟨rfl,hb⟩;have e0:w1.cell? ⟨w.heap.size+1,0,Q⟩=Y I 0:=aB hb (aF _ _ 22 _ 0 _ sm rfl);have ef:w1.frozen? _=false:=(hb.frozen (p:=⟨w.heap.size+1,0,Q⟩) sm).trans sm;have c0:w1.cell? _=J Q 0 0:=aB hb (aB (aA br _) (aF w _ 45 _ 0 _ rfl rfl));have c1:w1.cell? _=J Q 0 0:=aB hb (aB (aA br _) (aF w _ 45 _ 1 _ rfl rfl));have c2:w1.cell? _=J Q 0 0:=aB hb (aB (aA br _) (aF w _ 45 _ 2 _ rfl rfl));have c3:w1.cell? _=J Q 0 0:=aB hb (aB (aA br _) (aF w _ 45 _ 3 _ rfl rfl));have B1:=aC (aA (aA br _) _) hb;clear hb;refine leaves_cons (f:=114) (args:=#[pd (M ⟨w.heap.size+1,0,Q⟩)]) sm (by simp[go_sem]) ?_;refine(sL ⟨w.heap.size+1,0,Q⟩ x 0 [] _ e0 ef).mono ?_;rintro e u' w'' ⟨rfl,rfl,rfl⟩;simp[Leaves,settle,results,results76,go_sem,e0,c0,c1,c2,c3];exact aG B1 sm _
theorem VJ (h:p:=by
 rintro e w' ⟨rfl,hb⟩;exact⟨Q,0,rfl,fun _ hi=>absurd hi (nl _),hb⟩):p:=h
section
theorem sY (hb:Below (W.alloc o).heap.size (W.alloc o) w'):Below (W.heap.size+1) (W.alloc o) w':=by simpa using hb
theorem pan_up {F:FuncId} {cap:Array Value} {v:Ending} (h:Calls prog F cap (W.alloc o) fun e w'=>e=v/\Below (W.alloc o).heap.size (W.alloc o) w'):Calls prog F cap (W.alloc o) fun e w'=>e=v/\Below (W.heap.size+1) (W.alloc o) w':=h.mono fun _ _ ⟨h1,h2⟩=>⟨h1,sY h2⟩
def lY (m:Int) (l:List TxA) (S:SA):Bool:=if cZ m l S=0 then dB m.toNat l S else false
def cK (m:Int) (l:List TxA) (S:SA):List (Nat×Nat×Nat):=if cZ m l S=0 then dF m.toNat l S else []
variable (la:Option Addr) (lc:Nat) (l:List TxA) (sa ra wa va:Option Addr) (sc rc tc vc:Nat) (S:SA)
theorem yU (m:Int) (w:World) (hl:IsTxs w la l) (hs:Sta w sa ra wa va S) :
  Kr 178 #[ag #[Y I m,J la l.length lc],ag #[J sa S.st.length sc,J ra S.rd.length rc,J wa S.wr.length tc,J va S.vs.length vc]] w (tu #[bo (lY m l S),Y I (cZ m l S)]):=by
 have hg:Below w.heap.size w (((w.alloc (U #[Y I m,J la l.length lc] 29)).alloc (U #[J sa S.st.length sc,J ra S.rd.length rc,J wa S.wr.length tc,J va S.vs.length vc] 45)).alloc (U #[Y I 0] 22)):=aA (aA (aA br _) _) _;have hU:Hid (Below w.heap.size w ((w.alloc (U #[Y I m,J la l.length lc] 29)).alloc (U #[J sa S.st.length sc,J ra S.rd.length rc,J wa S.wr.length tc,J va S.vs.length vc] 45))):=aA (aA br _) _;have p0:(((w.alloc (U #[Y I m,J la l.length lc] 29)).alloc (U #[J sa S.st.length sc,J ra S.rd.length rc,J wa S.wr.length tc,J va S.vs.length vc] 45)).alloc (U #[Y I 0] 22)).cell? _=Y I m:=aB (aA (aA br _) _) (aF w _ 29 _ 0 _ rfl rfl);have p1:(((w.alloc (U #[Y I m,J la l.length lc] 29)).alloc (U #[J sa S.st.length sc,J ra S.rd.length rc,J wa S.wr.length tc,J va S.vs.length vc] 45)).alloc (U #[Y I 0] 22)).cell? _=J la l.length lc:=aB (aA (aA br _) _) (aF w _ 29 _ 1 _ rfl rfl);have q0:(((w.alloc (U #[Y I m,J la l.length lc] 29)).alloc (U #[J sa S.st.length sc,J ra S.rd.length rc,J wa S.wr.length tc,J va S.vs.length vc] 45)).alloc (U #[Y I 0] 22)).cell? ⟨w.heap.size+1,0,Q⟩=J sa S.st.length sc:=aB (aA br _) (aF _ _ 45 _ 0 _ sm rfl);have q1:(((w.alloc (U #[Y I m,J la l.length lc] 29)).alloc (U #[J sa S.st.length sc,J ra S.rd.length rc,J wa S.wr.length tc,J va S.vs.length vc] 45)).alloc (U #[Y I 0] 22)).cell? ⟨w.heap.size+1,1,Q⟩=J ra S.rd.length rc:=aB (aA br _) (aF _ _ 45 _ 1 _ sm rfl);have q2:(((w.alloc (U #[Y I m,J la l.length lc] 29)).alloc (U #[J sa S.st.length sc,J ra S.rd.length rc,J wa S.wr.length tc,J va S.vs.length vc] 45)).alloc (U #[Y I 0] 22)).cell? ⟨w.heap.size+1,2,Q⟩=J wa S.wr.length tc:=aB (aA br _) (aF _ _ 45 _ 2 _ sm rfl);have q3:(((w.alloc (U #[Y I m,J la l.length lc] 29)).alloc (U #[J sa S.st.length sc,J ra S.rd.length rc,J wa S.wr.length tc,J va S.vs.length vc] 45)).alloc (U #[Y I 0] 22)).cell? ⟨w.heap.size+1,3,Q⟩=J va S.vs.length vc:=aB (aA br _) (aF _ _ 45 _ 3 _ sm rfl)
 have CC:Hid (letI Z:=(w.alloc (U #[Y I m,J la l.length lc] 29)).alloc (U #[J sa S.st.length sc,J ra S.rd.length rc,J wa S.wr.length tc,J va S.vs.length vc] 45);Calls prog 137 #[.func (.func 210) #[] #[pd (M ⟨w.heap.size,0,Q⟩),pd (M ⟨w.heap.size+1,0,Q⟩)]] Z fun e w'=>e=rt (tu #[bo (lY m l S),Y I (cZ m l S)])/\Below Z.heap.size Z w'):=by
  by_cases hE:cZ m l S=0
  ·have e1:lY m l S=dB m.toNat l S:=if_pos hE;obtain⟨sh,rfl,_⟩:=aZ hE;rw[e1,hE];refine(caughtBo_ret 210 _ (fun _=>rfl) (fun v _=>v=bo (dB sh l S)) _ (fun v w' h=>h) ((over1_ok la lc l sa ra wa va sc rc tc vc S sh _ _ _ p0 p1 q0 q1 q2 q3 (hl.below hg) (hs.below hg) hE).mono ?_)).mono ?_
   ·rintro e w' ⟨rfl,hb⟩;exact⟨_,rfl,rfl,sY hb⟩
   ·rintro e w' ⟨v,rfl,h,hb⟩;rw[h];exact⟨rfl,hb⟩
  ·have e1:lY m l S=false:=if_neg hE;rw[e1];exact caughtBo_pan 210 _ (fun _=>rfl) _ _ (pan_up (over1_pan la lc l sa ra wa va sc rc tc vc S m _ _ _ p0 p1 q0 q1 q2 q3 (hl.below hg) (hs.below hg) hE))
 have HG:=hU;clear hg hU p0 p1 q0 q1 q2 q3 hl hs;go_enter func178,ntmps178
 go_wp2_with fail
 refine CC.out.mono ?_;clear CC;rintro e w1 ⟨rfl,hb⟩;have B1:=Hi (aC HG.out hb);clear hb;exact Up
theorem stepsCan_any (m:Int) (w:World) (hl:IsTxs w la l) (hs:Sta w sa ra wa va S) :
  Calls prog 180 #[ag #[Y I m,J la l.length lc],ag #[J sa S.st.length sc,J ra S.rd.length rc,J wa S.wr.length tc,J va S.vs.length vc]] w fun e w'=>∃a c,e=rt (tu #[J a (cK m l S).length c,Y I (cZ m l S)])/\IsSteps w' a (cK m l S)/\Below w.heap.size w w':=by
 have hg:Below w.heap.size w (((w.alloc (U #[Y I m,J la l.length lc] 29)).alloc (U #[J sa S.st.length sc,J ra S.rd.length rc,J wa S.wr.length tc,J va S.vs.length vc] 45)).alloc (U #[Y I 0] 22)):=aA (aA (aA br _) _) _;have hU:Hid (Below w.heap.size w ((w.alloc (U #[Y I m,J la l.length lc] 29)).alloc (U #[J sa S.st.length sc,J ra S.rd.length rc,J wa S.wr.length tc,J va S.vs.length vc] 45))):=aA (aA br _) _;have p0:(((w.alloc (U #[Y I m,J la l.length lc] 29)).alloc (U #[J sa S.st.length sc,J ra S.rd.length rc,J wa S.wr.length tc,J va S.vs.length vc] 45)).alloc (U #[Y I 0] 22)).cell? _=Y I m:=aB (aA (aA br _) _) (aF w _ 29 _ 0 _ rfl rfl);have p1:(((w.alloc (U #[Y I m,J la l.length lc] 29)).alloc (U #[J sa S.st.length sc,J ra S.rd.length rc,J wa S.wr.length tc,J va S.vs.length vc] 45)).alloc (U #[Y I 0] 22)).cell? _=J la l.length lc:=aB (aA (aA br _) _) (aF w _ 29 _ 1 _ rfl rfl);have q0:(((w.alloc (U #[Y I m,J la l.length lc] 29)).alloc (U #[J sa S.st.length sc,J ra S.rd.length rc,J wa S.wr.length tc,J va S.vs.length vc] 45)).alloc (U #[Y I 0] 22)).cell? ⟨w.heap.size+1,0,Q⟩=J sa S.st.length sc:=aB (aA br _) (aF _ _ 45 _ 0 _ sm rfl);have q1:(((w.alloc (U #[Y I m,J la l.length lc] 29)).alloc (U #[J sa S.st.length sc,J ra S.rd.length rc,J wa S.wr.length tc,J va S.vs.length vc] 45)).alloc (U #[Y I 0] 22)).cell? ⟨w.heap.size+1,1,Q⟩=J ra S.rd.length rc:=aB (aA br _) (aF _ _ 45 _ 1 _ sm rfl);have q2:(((w.alloc (U #[Y I m,J la l.length lc] 29)).alloc (U #[J sa S.st.length sc,J ra S.rd.length rc,J wa S.wr.length tc,J va S.vs.length vc] 45)).alloc (U #[Y I 0] 22)).cell? ⟨w.heap.size+1,2,Q⟩=J wa S.wr.length tc:=aB (aA br _) (aF _ _ 45 _ 2 _ sm rfl);have q3:(((w.alloc (U #[Y I m,J la l.length lc] 29)).alloc (U #[J sa S.st.length sc,J ra S.rd.length rc,J wa S.wr.length tc,J va S.vs.length vc] 45)).alloc (U #[Y I 0] 22)).cell? ⟨w.heap.size+1,3,Q⟩=J va S.vs.length vc:=aB (aA br _) (aF _ _ 45 _ 3 _ sm rfl)
 have CC:Hid (letI Z:=(w.alloc (U #[Y I m,J la l.length lc] 29)).alloc (U #[J sa S.st.length sc,J ra S.rd.length rc,J wa S.wr.length tc,J va S.vs.length vc] 45);Calls prog 212 #[.func (.func 213) #[] #[pd (M ⟨w.heap.size,0,Q⟩),pd (M ⟨w.heap.size+1,0,Q⟩)]] Z fun e w'=>∃a c,e=rt (tu #[J a (cK m l S).length c,Y I (cZ m l S)])/\IsSteps w' a (cK m l S)/\Below Z.heap.size Z w'):=by
  by_cases hE:cZ m l S=0
  ·have e1:cK m l S=dF m.toNat l S:=if_pos hE;obtain⟨sh,rfl,_⟩:=aZ hE;rw[e1,hE];refine(caughtSp_ret 213 _ (fun _=>rfl) (fun v w'=>w'.ownsRow (((w.alloc (U #[Y I sh,J la l.length lc] 29)).alloc (U #[J sa S.st.length sc,J ra S.rd.length rc,J wa S.wr.length tc,J va S.vs.length vc] 45)).heap.size+1) 33 3 v (dF sh l S).length (bF (dF sh l S))) _ (fun v w' h=>fU h (aP w' _ 0 _) (fun j e q=>by have:=(h.lt j e).1;injection q with q;omega)) ((can1_ok la lc l sa ra wa va sc rc tc vc S sh _ _ _ p0 p1 q0 q1 q2 q3 (hl.below hg) (hs.below hg) hE).mono ?_)).mono ?_
   ·rintro e w' ⟨v,rfl,ho,hb⟩;exact⟨_,rfl,by simpa using ho,sY hb⟩
   ·rintro e w' ⟨v,rfl,ho,hb⟩;obtain⟨a,c,rfl,h⟩:=lX ho rfl;exact⟨a,c,rfl,h,hb⟩
  ·have e1:cK m l S=[]:=if_neg hE;rw[e1];refine(caughtSp_pan 213 _ (fun _=>rfl) _ _ (pan_up (can1_pan la lc l sa ra wa va sc rc tc vc S m _ _ _ p0 p1 q0 q1 q2 q3 (hl.below hg) (hs.below hg) hE))).mono ?_;exact VJ
 have HG:=hU;clear hg hU p0 p1 q0 q1 q2 q3 hl hs;go_enter func180,ntmps180
 go_wp2_with fail
 refine CC.out.mono ?_;clear CC;rintro e w1 ⟨a,c,rfl,h,hb⟩;have B1:=Hi (aC HG.out hb);have H1:=Hi h;clear hb h;go_wp2;go_ret2;exact⟨a,c,rfl,H1.out,B1.out⟩
end
end Go.Proofs.YtcgpkonfneofdaaGreatDoor
