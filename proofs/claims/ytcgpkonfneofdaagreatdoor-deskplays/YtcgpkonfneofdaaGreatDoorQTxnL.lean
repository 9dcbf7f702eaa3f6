/- Conditions: those that each theorem states. -/
import Derived.Test.YtcgpkonfneofdaaGreatDoorQTxnK
import Derived.Laws.AppendOwnNone
set_option maxRecDepth 100000
set_option maxHeartbeats 8000000
namespace Go.Proofs.YtcgpkonfneofdaaGreatDoor
open Go.RowKit Go.Proofs.Tryz
open Go.Value renaming slice->J,int->Y,bool->bo,pointer->pd,agg->ag,tuple->tu,string->sg,iface->fc
open Go.IntKind renaming i64->I
open Go.Obj renaming cells->U
open Go.Ending renaming returned->rt,panicked->pg
open Option renaming some->M,none->Q
variable {p:Prop} {w' w:World}
theorem xl (h:p:=by
 go_split_ands;have hX:Below wr.heap.size wr _:=(by assumption);have t0:=aB hX q0;have tf:∀j,World.frozen? _ ⟨R,j,Q⟩=false:=fun j=>(hX.frozen (p:=⟨R,j,Q⟩) hRr).trans (qf j)
 clear hX;go_wp2;go_roundw
 case rel=>
  refine⟨k+1,by omega,by go_num,?_⟩;rw[HD.out];exact rset q0 q1 qf hnx _ (aD (aA (aA br _) _))
 case measure=>simp[intOf];omega):p:=h
theorem yr (h:p:=by
 have RB1:=l9 (aC hnx (aA (aD (aA (aA br _) _)) _)) hgrow (by simp;omega) (fun j hj=>(hown.lt j hj).1);clear hown' hgrow hown hnx;go_roundw
 case rel=>exact⟨k+1,by omega,by go_num,R1,RB1⟩
 case measure=>simp[intOf];omega):p:=h
section
theorem yL (zs:List Int):∀(l:List Gd),dU zs l=l.all (gR zs)
 | []=>rfl
 | g::t=>by
  unfold dU;rw[yL zs t,List.all_cons];by_cases h:gR zs g=true
  ·rw[if_pos h,h,wk]
  ·rw[if_neg h];simp at h;rw[h,Bool.false_and]
theorem pX (zs:List Int) (l:List Gd) (k:Nat) (h:k<l.length):(l.take (k+1)).all (gR zs)=((l.take k).all (gR zs) && gR zs (l.getD k g0)):=by
 rw[lp h,List.all_append];exact Xa
theorem ext6b {W:World} {p0 p1 p2 p3 p4 p5:Addr} {v0 v1 v2 v3 v4 v5:Value} (hb:Below W.heap.size W w') (q0:W.cell? p0=M v0) (q1:W.cell? p1=M v1) (q2:W.cell? p2=M v2) (q3:W.cell? p3=M v3) (q4:W.cell? p4=M v4) (q5:W.cell? p5=M v5) :
  Below W.heap.size W w'/\w'.cell? p0=M v0/\w'.cell? p1=M v1/\w'.cell? p2=M v2/\w'.cell? p3=M v3/\w'.cell? p4=M v4/\w'.cell? p5=M v5:=⟨hb,aB hb q0,aB hb q1,aB hb q2,aB hb q3,aB hb q4,aB hb q5⟩
theorem rset {wr W2:World} {R:Nat} {v x y:Value} (q0:wr.cell? ⟨R,0,Q⟩=M x) (q1:wr.cell? ⟨R,1,Q⟩=M y) (qf:∀j,wr.frozen? ⟨R,j,Q⟩=false) (hnx:Below R W2 wr) (w':World) (hb:Below (wr.setCell ⟨R,0,Q⟩ v).heap.size (wr.setCell ⟨R,0,Q⟩ v) w') :
  w'.cell? ⟨R,0,Q⟩=M v/\w'.cell? ⟨R,1,Q⟩=M y/\(∀j,w'.frozen? ⟨R,j,Q⟩=false)/\Below R W2 w':=by
 have hR:R<_:=np wr _ q0;have s0:(wr.setCell ⟨R,0,Q⟩ v).cell? ⟨R,0,Q⟩=M v:=by simp[go_sem,q0]
 have s1:(wr.setCell ⟨R,0,Q⟩ v).cell? ⟨R,1,Q⟩=M y:=by simp[go_sem,q1]
 have sf:∀j,(wr.setCell ⟨R,0,Q⟩ v).frozen? ⟨R,j,Q⟩=false:=fun j=>by simp[go_sem,qf]
 have hs:R<(wr.setCell ⟨R,0,Q⟩ v).heap.size:=by simpa using hR
 exact⟨aB hb s0,aB hb s1,fun j=>(hb.frozen (p:=⟨R,j,Q⟩) hs).trans (sf j),(hnx.setCell nr _).trans (hb.mono (wi hs))⟩
theorem IsAt.belowHi {lo hi:Nat} {a:Option Addr} {zs:List Int} (h:IsAt lo hi w a zs) (hb:Below hi w w'):IsAt lo hi w' a zs:=fun i hi'=>by
 obtain⟨b,off,ha,h1,h2,hc⟩:=h i hi';exact⟨b,off,ha,h1,h2,(hb.cell (p:=⟨b,off+i,Q⟩) h2).trans hc⟩
theorem aAl (w:World) (s base:Nat) (hs:s=w.heap.size) (hb:base<=s):(w.alloc (U #[] 3)).ownsRow base 3 1 (J (M ⟨s,0,Q⟩) 0 0) 0 []:=by
 subst hs;exact lv w #[] 0 hb dc rfl
theorem news_of_ints {zs:List Int} {ad:Addr} (hz:IsInts w (M ad) zs):∀(W:World),Below w.heap.size w W->∀j u,(zs.map (Y I))[j]?=M u->W.cell? (ad.add j)=M u:=by
 intro W hW j u hj
 have hlt:j<zs.length:=by
  exact xg
 obtain⟨b,off,ha,hb,hc⟩:=hz j hlt;injection ha with ha
 subst ha;rw[bZ,hW.cell (p:=⟨b,off+j,Q⟩) hb,hc];simp[hlt]at hj;simp[List.getD,hlt,hj]
variable (ra ga sa:Option Addr) (rc gc sc:Nat) (rs:List Int) (gs:List Gd) (ss:List St) (za:Option Addr) (zc:Nat) (zs:List Int)
theorem runOf_some (ad:Addr) (w:World) (ht:IsTx w ra ga sa rs gs ss) (hz:IsInts w (M ad) zs) (h4:zs.length<=4) (hlen:zs.length=rs.length) (hg0:aH (gs.map (dZ rs.length))=0) (hs0:aH (ss.map (dY rs.length))=0) (h3:ss.length<=3) (hg2:gs.length<=2) :
  Calls prog 95 #[ag #[J ra rs.length rc,J ga gs.length gc,J sa ss.length sc],J (M ad) zs.length zc] w fun e w'=>∃va vc ma mc,e=rt (tu #[ag #[bo (dU zs gs),J va zs.length vc],J ma (aS zs gs ss).length mc])/\IsAt w.heap.size w'.heap.size w' va zs/\IsAt w.heap.size w'.heap.size w' ma (aS zs gs ss)/\Below w.heap.size w w':=by
 obtain⟨i0,hi,hz0,hz1,hz2⟩:=info_parts info3;have HT:=Hi ht;have HZ:=Hi hz;have HG:=Hi hg0;have HS:=Hi hs0;have HL:=Hi hlen;have hnews:=news_of_ints hz;have OWN0:=aAl ((w.alloc (U #[J ra rs.length rc,J ga gs.length gc,J sa ss.length sc] 95)).alloc (U #[bo false,J Q 0 0] 148)) (w.heap.size+1+1) (w.heap.size+2) sm om;have HN0:=hnews (((w.alloc (U #[J ra rs.length rc,J ga gs.length gc,J sa ss.length sc] 95)).alloc (U #[bo false,J Q 0 0] 148)).alloc (U #[] 3)) gb;have HB0:w.heap.size+2<=(((w.alloc (U #[J ra rs.length rc,J ga gs.length gc,J sa ss.length sc] 95)).alloc (U #[bo false,J Q 0 0] 148)).alloc (U #[] 3)).heap.size:=sm;clear ht hz hg0 hs0 hlen hnews;go_enter func95,ntmps95
 go_wp2_with (first
  | (at_builtin;(refine wpList_append_own _ rfl _ _ 41 rfl (w.heap.size+2) 3 i0 (Y I 0) 1 8 underlying41 hi hz0 hz1 hz2 rfl dc _ 0 [] rfl OWN0 ad zs.length zc (zs.map (Y I)) rfl sm HN0 (ints_oneCell I zs) (by unfold maxLen;omega) om HB0 ?_);intro v' w2 hown' hgrow _;obtain⟨va,vc,hv,hva⟩:=gC (zs:=zs) hown';rw[hv];clear hv hown'))
 have BW:Below _ w w2:=l9 (w:=((w.alloc (U #[J ra rs.length rc,J ga gs.length gc,J sa ss.length sc] 95)).alloc (U #[bo false,J Q 0 0] 148)).alloc (U #[] 3)) gb hgrow (by simp;omega) (fun j hj=>by have hj':M (_+1+1)=M j:=hj;injection hj' with hj';omega);have BW1:Below (w.heap.size+2) ((w.alloc (U #[J ra rs.length rc,J ga gs.length gc,J sa ss.length sc] 95)).alloc (U #[bo false,J Q 0 0] 148)) w2:=l9 (w:=((w.alloc (U #[J ra rs.length rc,J ga gs.length gc,J sa ss.length sc] 95)).alloc (U #[bo false,J Q 0 0] 148)).alloc (U #[] 3)) (br.alloc sm _) hgrow sm (fun j hj=>by have hj':M (_+1+1)=M j:=hj;injection hj' with hj';omega);have b0:w2.cell? _=J ra rs.length rc:=(BW1.cell (p:=⟨w.heap.size,0,Q⟩) sm).trans ((ni _ _ _ sm).trans sm);have b1:w2.cell? _=J ga gs.length gc:=(BW1.cell (p:=⟨w.heap.size,1,Q⟩) sm).trans ((ni _ _ _ sm).trans sm);have b2:w2.cell? _=J sa ss.length sc:=(BW1.cell (p:=⟨w.heap.size,2,Q⟩) sm).trans ((ni _ _ _ sm).trans sm);have e0:w2.cell? _=bo false:=(BW1.cell (p:=⟨w.heap.size+1,0,Q⟩) sm).trans sm;have e1:w2.cell? _=J Q 0 0:=(BW1.cell (p:=⟨w.heap.size+1,1,Q⟩) sm).trans sm;have ef:∀j,w2.frozen? _=false:=fun j=>(BW1.frozen (p:=⟨w.heap.size+1,j,Q⟩) sm).trans sm
 have hw2:_+1<_:=np w2 _ e0;obtain⟨R,hR⟩:=nm (w2.heap.size);have Uuu:Below _ w2 (w2.alloc (U #[bo true,J va zs.length vc] 148)):=aA br _;have r0:(w2.alloc (U #[bo true,J va zs.length vc] 148)).cell? ⟨R,0,Q⟩=bo true:=by rw[hR];simp
 have r1:(w2.alloc (U #[bo true,J va zs.length vc] 148)).cell? ⟨R,1,Q⟩=J va zs.length vc:=by rw[hR];simp
 have rf:∀j,(w2.alloc (U #[bo true,J va zs.length vc] 148)).frozen? ⟨R,j,Q⟩=false:=fun j=>by rw[hR];simp
 have hvaR:IsAt (w.heap.size+2) R (w2.alloc (U #[bo true,J va zs.length vc] 148)) va zs:=by rw[hR];exact hva.below Uuu
 have BWW:=Hi (aC BW Uuu);have k0:=aB Uuu b0;have k1:=aB Uuu b1;have k2:=aB Uuu b2;have l0:=aB Uuu e0;have l1:=aB Uuu e1;have lf:=fun j=>(Uuu.frozen (p:=⟨w.heap.size+1,j,Q⟩) hw2).trans (ef j)
 have hwR:w.heap.size+1<R:=om;clear hgrow BW BW1 b0 b1 b2 e0 e1 ef Uuu hva OWN0 HN0 HB0 hw2
 go_wp2_with fail
 rw[<-hR];clear hR;generalize (w2.alloc (U #[bo true,J va zs.length vc] 148))=W2 at *
 go_loopw [7,8,9] (fun i _ _ wr=>∃k:Nat,k<=gs.length/\i=Y I k/\wr.cell? ⟨R,0,Q⟩=bo ((gs.take k).all (gR zs))/\wr.cell? ⟨R,1,Q⟩=J va zs.length vc/\(∀j,wr.frozen? ⟨R,j,Q⟩=false)/\Below R W2 wr) (fun i _ _ _=>gs.length - (intOf i).toNat)
 case atStart=>exact⟨0,nz,rfl,r0,r1,rf,br⟩
 case round=>
  obtain⟨k,hk,rfl,q0,q1,qf,hnx⟩:=hrel;clear r0 r1 rf;have hRr:R<_:=np wr _ q0;have j0:=(hnx.cell (p:=⟨w.heap.size,0,Q⟩) (by show w.heap.size<R;omega)).trans k0;have j1:=(hnx.cell (p:=⟨w.heap.size,1,Q⟩) (by show w.heap.size<R;omega)).trans k1;have j2:=(hnx.cell (p:=⟨w.heap.size,2,Q⟩) (by show w.heap.size<R;omega)).trans k2;have hup:=Hi (BWW.out.trans (hnx.mono om));by_cases hlt:k<gs.length
  ·obtain⟨b,off,hga,hb,c0,c1,c2,c3,c4⟩:=HT.out.g k hlt;subst hga;have d0:=aB hup.out c0;have d1:=aB hup.out c1;have d2:=aB hup.out c2;have d3:=aB hup.out c3;have d4:=aB hup.out c4;have qg:=j1;have hs:=Hi (pX zs gs k hlt);have hE:=jQ _ gs g0 HG.out k hlt;have hIr:=Hi (HZ.out.below hup.out);have i1:(0:Int)<=(k:Int):=om;have i2:(k:Int)<(gs.length:Int):=om;clear c0 c1 c2 c3 c4 k0 k1 k2 l0 l1 lf hvaR;generalize (gs.getD k g0)=s at *;obtain⟨kd,ak,an,bk,bn⟩:=s;simp only at d0 d1 d2 d3 d4;obtain⟨xA,xB,xC⟩:=tO hE;rw[<-HL.out]at xB xC;have hB:=Hi xB;have hC:=Hi xC;clear hE xA xB xC;by_cases hD:(gs.take k).all (gR zs)=true
   focus
    have HD:Hid ((gs.take (k+1)).all (gR zs)=(iN kd (dN ak an zs) (dN bk bn zs))):=by
     have h1:=hs.out;rw[hD,wk]at h1;exact h1
   rotate_left
   focus
    have hD:(gs.take k).all (gR zs)=false:=by simpa using hD
    have HD:Hid ((gs.take (k+1)).all (gR zs)=false):=by
     have h1:=hs.out;rw[hD,Bool.false_and]at h1;exact h1
   rotate_left
   all_goals
    rw[hD]at q0;clear hD hs
    go_wp2_with fail
    go_region_held3 (fun w'=>Below wr.heap.size wr w'/\w'.cell? ⟨w.heap.size,1,Q⟩=J (M ⟨b,off,Q⟩) gs.length gc/\w'.cell? ⟨b,off+k*5,Q⟩=Y I kd/\w'.cell? ⟨b,off+k*5+1,Q⟩=Y I ak/\w'.cell? ⟨b,off+k*5+2,Q⟩=Y I an/\w'.cell? ⟨b,off+k*5+3,Q⟩=Y I bk/\w'.cell? ⟨b,off+k*5+4,Q⟩=Y I bn) ((go_split_ands;refine ext6b ?_ qg d0 d1 d2 d3 d4;repeat (first | assumption | exact br | refine aD ?_ | refine aA ?_ _ | refine aC ?_ (by assumption))))
     (first
      | (go_at_call_of 134 (ag #[Y I ak,Y I an]);refine(eZ ak an zs (M ad) zc _ ?_ hB.out).mono ?_;(refine hIr.out.below ?_;go_split_ands;repeat (first | assumption | exact br | refine aD ?_ | refine aA ?_ _ | refine aC ?_ (by assumption)));rintro e w' ⟨rfl,rfl⟩)
      | (go_at_call_of 134 (ag #[Y I bk,Y I bn]);refine(eZ bk bn zs (M ad) zc _ ?_ hC.out).mono ?_;(refine hIr.out.below ?_;go_split_ands;repeat (first | assumption | exact br | refine aD ?_ | refine aA ?_ _ | refine aC ?_ (by assumption)));rintro e w' ⟨rfl,rfl⟩)
      | (go_at_call 133;refine(iC kd (dN ak an zs) (dN bk bn zs) _).mono ?_;rintro e w' ⟨rfl,rfl⟩))
    exact xl
  ·have hA0:(gs.take k).all (gR zs)=dU zs gs:=by rw[le om,yL]
   rw[hA0]at q0;have m0:=(hnx.cell (p:=⟨w.heap.size+1,0,Q⟩) hwR).trans l0;have m1:=(hnx.cell (p:=⟨w.heap.size+1,1,Q⟩) hwR).trans l1;have mf:=fun j=>(hnx.frozen (p:=⟨w.heap.size+1,j,Q⟩) hwR).trans (lf j)
   have hvr:=Hi (hvaR.belowHi hnx);clear k0 k1 k2 l0 l1 lf hvaR hA0 hnx;by_cases hA:dU zs gs=true
   ·have hm:aS zs gs ss=eY zs ss:=by unfold aS;rw[if_pos hA]
    have HM:=Hi hm;have HA:=Hi hA;rw[hA]at q0;have hal:Hid ((eY zs ss).length=ss.length):=by simp[eY,Hid]
    clear hA hm
    go_wp2_with fail
    obtain⟨W3,hW3⟩:∃X,X=wr:=⟨wr,rfl⟩;subst hW3
    go_loopw [10,11,12,13] (fun v i _ _ wx=>∃k:Nat,k<=ss.length/\i=Y I k/\wx.ownsRow W3.heap.size 3 1 v k (((eY zs ss).take k).map (Y I))/\Below W3.heap.size W3 wx) (fun _ i _ _ _=>ss.length - (intOf i).toNat)
    case atStart=>exact⟨0,nz,rfl,n8 _ _ _ _,br⟩
    case round=>
     clear hk hlt;obtain⟨k,hk,rfl,hown,hnx⟩:=hrel;have z2:=aB hnx j2;have hup2:=Hi (aC hup.out hnx);have hsz:=hnx.size;by_cases hlt:k<ss.length
     ·obtain⟨b,off,hsa,hb,c0,c1,c2,c3,c4,c5⟩:=HT.out.s k hlt;subst hsa;have qs:=z2;have d1:=aB hup2.out c1;have d2:=aB hup2.out c2;have d3:=aB hup2.out c3;have d4:=aB hup2.out c4;have d5:=aB hup2.out c5;have hIr:=Hi (HZ.out.below hup2.out);have HTV:=Hi (tE zs ss k hlt);have hE:=jQ _ ss s0 HS.out k hlt;have i1:(0:Int)<=(k:Int):=om;have i2:(k:Int)<(ss.length:Int):=om;clear c0 c1 c2 c3 c4 c5 q0 q1 qf m0 m1 mf j0 j1 j2;generalize (ss.getD k s0)=s at *;obtain⟨key,op,ak,an,bk,bn⟩:=s;simp only at d1 d2 d3 d4 d5;obtain⟨xA,xB,xC⟩:=tF hE;rw[<-HL.out]at xB xC;have hB:=Hi xB;have hC:=Hi xC;clear hE xA xB xC
      go_wp2_with fail
      go_region_held3 (fun w'=>Below wr.heap.size wr w'/\w'.cell? ⟨w.heap.size,2,Q⟩=J (M ⟨b,off,Q⟩) ss.length sc/\w'.cell? ⟨b,off+k*6+1,Q⟩=Y I op/\w'.cell? ⟨b,off+k*6+2,Q⟩=Y I ak/\w'.cell? ⟨b,off+k*6+3,Q⟩=Y I an/\w'.cell? ⟨b,off+k*6+4,Q⟩=Y I bk/\w'.cell? ⟨b,off+k*6+5,Q⟩=Y I bn) ((go_split_ands;refine ext6b ?_ qs d1 d2 d3 d4 d5;repeat (first | assumption | exact br | refine aD ?_ | refine aA ?_ _ | refine aC ?_ (by assumption))))
       (first
        | (go_at_call_of 134 (ag #[Y I ak,Y I an]);refine(eZ ak an zs (M ad) zc _ ?_ hB.out).mono ?_;(refine hIr.out.below ?_;go_split_ands;repeat (first | assumption | exact br | refine aD ?_ | refine aA ?_ _ | refine aC ?_ (by assumption)));rintro e w' ⟨rfl,rfl⟩)
        | (go_at_call_of 134 (ag #[Y I bk,Y I bn]);refine(eZ bk bn zs (M ad) zc _ ?_ hC.out).mono ?_;(refine hIr.out.below ?_;go_split_ands;repeat (first | assumption | exact br | refine aD ?_ | refine aA ?_ _ | refine aC ?_ (by assumption)));rintro e w' ⟨rfl,rfl⟩)
        | (go_at_call 135;refine(gE op (dN ak an zs) (dN bk bn zs) _).mono ?_;rintro e w' ⟨rfl,rfl⟩))
      go_wp2_with (first | (at_builtin;(refine wpList_append_own _ rfl _ _ 41 rfl W3.heap.size 3 i0 (Y I 0) 1 8 underlying41 hi hz0 hz1 hz2 rfl dc _ _ _ rfl (bY hown (aA (aD (aA (aA br _) _)) _)) _ 1 1 [Y I (fK op (dN ak an zs) (dN bk bn zs))] rfl rfl (lP _ _ _ sm) (ints_oneCell I [_]) (by unfold maxLen;omega) om (by simp;omega) ?_);intro v' w1 hown' hgrow _) | go_in)
      have R1:w1.ownsRow W3.heap.size 3 1 v' (k+1) (((eY zs ss).take (k+1)).map (Y I)):=by rw[HTV.out,ny];exact hown'
      exact yr
     ·have hkk:k=ss.length:=om;rw[hkk,le (by rw[hal.out];exact nr)]at hown;obtain⟨ma,mc,hv,hma⟩:=gC hown;rw[hv];have n0:=aB hnx m0;have n1:=aB hnx m1;have hq3:=np W3 _ m0;have nf:=fun j=>(hnx.frozen (p:=⟨w.heap.size+1,j,Q⟩) hq3).trans (mf j)
      have x0:=aB hnx q0;have x1:=aB hnx q1;have hvr2:=Hi (hvr.out.below hnx);clear hv hown q0 q1 qf m0 m1 mf j0 j1 j2;go_wp2;refine bodyPost_ret (v:=tu #[ag #[bo true,J va zs.length vc],J ma (eY zs ss).length mc]) (by simp[results,results95,go_sem,n0,n1]) rfl ⟨va,vc,ma,⟨mc,by rw[HM.out,HA.out]⟩,?_,?_,?_⟩
      ·have h1:=(hvr2.out.set ⟨w.heap.size+1,0,Q⟩ (bo true) (.inl sm)).set ⟨w.heap.size+1,1,Q⟩ (J va zs.length vc) (.inl sm);exact h1.widen om (by simp;omega)
      ·rw[HM.out];have h1:=(hma.set ⟨w.heap.size+1,0,Q⟩ (bo true) (.inl hq3)).set ⟨w.heap.size+1,1,Q⟩ (J va zs.length vc) (.inl hq3);exact h1.widen hup.out.size sm
      ·exact aG (aG hup2.out sm _) sm _
   ·have hm:aS zs gs ss=[]:=by unfold aS;rw[if_neg hA]
    have hA':dU zs gs=false:=by simpa using hA
    have HM:=Hi hm;have HA:=Hi hA';rw[hA']at q0;clear hA hA' hm;go_wp2;refine bodyPost_ret (v:=tu #[ag #[bo false,J va zs.length vc],J Q 0 0]) (by simp[results,results95,go_sem,m0,m1]) rfl ⟨va,vc,Q,0,by rw[HM.out,HA.out];rfl,?_,by rw[HM.out];exact fun i hi=>absurd hi sm,?_⟩
    ·have h1:=(hvr.out.set ⟨w.heap.size+1,0,Q⟩ (bo false) (.inl sm)).set ⟨w.heap.size+1,1,Q⟩ (J va zs.length vc) (.inl sm);exact h1.widen om (by simp;omega)
    ·exact aG (aG hup.out sm _) sm _
theorem runOf_none (w:World) (ht:IsTx w ra ga sa rs gs ss) (hlen:([]:List Int).length=rs.length) (hg0:aH (gs.map (dZ rs.length))=0) (hs0:aH (ss.map (dY rs.length))=0) (h3:ss.length<=3) (hg2:gs.length<=2) :
  Calls prog 95 #[ag #[J ra rs.length rc,J ga gs.length gc,J sa ss.length sc],J Q 0 0] w fun e w'=>∃va vc ma mc,e=rt (tu #[ag #[bo (dU ([]:List Int) gs),J va 0 vc],J ma (aS ([]:List Int) gs ss).length mc])/\IsAt w.heap.size w'.heap.size w' va ([]:List Int)/\IsAt w.heap.size w'.heap.size w' ma (aS ([]:List Int) gs ss)/\Below w.heap.size w w':=by
 obtain⟨i0,hi,hz0,hz1,hz2⟩:=info_parts info3;have HT:=Hi ht;have HZ:Hid (IsInts w Q ([]:List Int)):=fun i hi=>absurd hi sm
 have HG:=Hi hg0;have HS:=Hi hs0;have HL:=Hi hlen;have OWN0:=aAl ((w.alloc (U #[J ra rs.length rc,J ga gs.length gc,J sa ss.length sc] 95)).alloc (U #[bo false,J Q 0 0] 148)) (w.heap.size+1+1) (w.heap.size+2) sm om;clear ht hg0 hs0 hlen;go_enter func95,ntmps95
 go_wp2_with (first
  | (at_builtin;refine wpList_append_own_none rfl _ _ 41 rfl (w.heap.size+2) 3 i0 1 underlying41 hi _ 0 [] rfl OWN0 rfl ?_))
 obtain⟨w2,hw2e⟩:=nm ((((w.alloc (U #[J ra rs.length rc,J ga gs.length gc,J sa ss.length sc] 95)).alloc (U #[bo false,J Q 0 0] 148)).alloc (U #[] 3)));have hgrow:(((w.alloc (U #[J ra rs.length rc,J ga gs.length gc,J sa ss.length sc] 95)).alloc (U #[bo false,J Q 0 0] 148)).alloc (U #[] 3)).grownBy w2 (M (w.heap.size+1+1)):=by rw[hw2e];exact⟨rfl,rfl,rfl,nr,fun _ _ _=>rfl⟩
 have HS2:Hid (w2.heap.size=w.heap.size+1+1+1):=by show w2.heap.size=_;rw[hw2e];simp
 rw[<-hw2e];clear hw2e;generalize (M (⟨w.heap.size+1+1,0,Q⟩:Addr))=va;have hva:IsAt (w.heap.size+2) w2.heap.size w2 va []:=fun i hi=>absurd hi sm
 have BW:Below _ w w2:=l9 (w:=((w.alloc (U #[J ra rs.length rc,J ga gs.length gc,J sa ss.length sc] 95)).alloc (U #[bo false,J Q 0 0] 148)).alloc (U #[] 3)) gb hgrow (by simp;omega) (fun j hj=>by have hj':=hj;injection hj' with hj';omega);have BW1:Below (w.heap.size+2) ((w.alloc (U #[J ra rs.length rc,J ga gs.length gc,J sa ss.length sc] 95)).alloc (U #[bo false,J Q 0 0] 148)) w2:=l9 (w:=((w.alloc (U #[J ra rs.length rc,J ga gs.length gc,J sa ss.length sc] 95)).alloc (U #[bo false,J Q 0 0] 148)).alloc (U #[] 3)) (br.alloc sm _) hgrow sm (fun j hj=>by have hj':=hj;injection hj' with hj';omega);have b0:w2.cell? _=J ra rs.length rc:=(BW1.cell (p:=⟨w.heap.size,0,Q⟩) sm).trans ((ni _ _ _ sm).trans sm);have b1:w2.cell? _=J ga gs.length gc:=(BW1.cell (p:=⟨w.heap.size,1,Q⟩) sm).trans ((ni _ _ _ sm).trans sm);have b2:w2.cell? _=J sa ss.length sc:=(BW1.cell (p:=⟨w.heap.size,2,Q⟩) sm).trans ((ni _ _ _ sm).trans sm);have e0:w2.cell? _=bo false:=(BW1.cell (p:=⟨w.heap.size+1,0,Q⟩) sm).trans sm;have e1:w2.cell? _=J Q 0 0:=(BW1.cell (p:=⟨w.heap.size+1,1,Q⟩) sm).trans sm;have ef:∀j,w2.frozen? _=false:=fun j=>(BW1.frozen (p:=⟨w.heap.size+1,j,Q⟩) sm).trans sm
 have hw2:_+1<_:=np w2 _ e0;obtain⟨R,hR⟩:=nm (w2.heap.size);have Uuu:Below _ w2 (w2.alloc (U #[bo true,J va 0 0] 148)):=aA br _;have r0:(w2.alloc (U #[bo true,J va 0 0] 148)).cell? ⟨R,0,Q⟩=bo true:=by rw[hR];simp
 have r1:(w2.alloc (U #[bo true,J va 0 0] 148)).cell? ⟨R,1,Q⟩=J va 0 0:=by rw[hR];simp
 have rf:∀j,(w2.alloc (U #[bo true,J va 0 0] 148)).frozen? ⟨R,j,Q⟩=false:=fun j=>by rw[hR];simp
 have hvaR:IsAt (w.heap.size+2) R (w2.alloc (U #[bo true,J va 0 0] 148)) va ([]:List Int):=by rw[hR];exact hva.below Uuu
 have BWW:=Hi (aC BW Uuu);have k0:=aB Uuu b0;have k1:=aB Uuu b1;have k2:=aB Uuu b2;have l0:=aB Uuu e0;have l1:=aB Uuu e1;have lf:=fun j=>(Uuu.frozen (p:=⟨w.heap.size+1,j,Q⟩) hw2).trans (ef j)
 have hwR:w.heap.size+1<R:=om;clear hgrow BW BW1 b0 b1 b2 e0 e1 ef Uuu hva OWN0 hw2
 go_wp2_with fail
 rw[show w.heap.size+1+1+1=R from by rw[hR,HS2.out]];clear hR;generalize (w2.alloc (U #[bo true,J va 0 0] 148))=W2 at *
 go_loopw [7,8,9] (fun i _ _ wr=>∃k:Nat,k<=gs.length/\i=Y I k/\wr.cell? ⟨R,0,Q⟩=bo ((gs.take k).all (gR ([]:List Int)))/\wr.cell? ⟨R,1,Q⟩=J va 0 0/\(∀j,wr.frozen? ⟨R,j,Q⟩=false)/\Below R W2 wr) (fun i _ _ _=>gs.length - (intOf i).toNat)
 case atStart=>exact⟨0,nz,rfl,r0,r1,rf,br⟩
 case round=>
  obtain⟨k,hk,rfl,q0,q1,qf,hnx⟩:=hrel;clear r0 r1 rf;have hRr:R<_:=np wr _ q0;have j0:=(hnx.cell (p:=⟨w.heap.size,0,Q⟩) (by show w.heap.size<R;omega)).trans k0;have j1:=(hnx.cell (p:=⟨w.heap.size,1,Q⟩) (by show w.heap.size<R;omega)).trans k1;have j2:=(hnx.cell (p:=⟨w.heap.size,2,Q⟩) (by show w.heap.size<R;omega)).trans k2;have hup:=Hi (BWW.out.trans (hnx.mono om));by_cases hlt:k<gs.length
  ·obtain⟨b,off,hga,hb,c0,c1,c2,c3,c4⟩:=HT.out.g k hlt;subst hga;have d0:=aB hup.out c0;have d1:=aB hup.out c1;have d2:=aB hup.out c2;have d3:=aB hup.out c3;have d4:=aB hup.out c4;have qg:=j1;have hs:=Hi (pX ([]:List Int) gs k hlt);have hE:=jQ _ gs g0 HG.out k hlt;have hIr:=Hi (HZ.out.below hup.out);have i1:(0:Int)<=(k:Int):=om;have i2:(k:Int)<(gs.length:Int):=om;clear c0 c1 c2 c3 c4 k0 k1 k2 l0 l1 lf hvaR;generalize (gs.getD k g0)=s at *;obtain⟨kd,ak,an,bk,bn⟩:=s;simp only at d0 d1 d2 d3 d4;obtain⟨xA,xB,xC⟩:=tO hE;rw[<-HL.out]at xB xC;have hB:=Hi xB;have hC:=Hi xC;clear hE xA xB xC;by_cases hD:(gs.take k).all (gR ([]:List Int))=true
   focus
    have HD:Hid ((gs.take (k+1)).all (gR ([]:List Int))=(iN kd (dN ak an ([]:List Int)) (dN bk bn ([]:List Int)))):=by
     have h1:=hs.out;rw[hD,wk]at h1;exact h1
   rotate_left
   focus
    have hD:(gs.take k).all (gR ([]:List Int))=false:=by simpa using hD
    have HD:Hid ((gs.take (k+1)).all (gR ([]:List Int))=false):=by
     have h1:=hs.out;rw[hD,Bool.false_and]at h1;exact h1
   rotate_left
   all_goals
    rw[hD]at q0;clear hD hs
    go_wp2_with fail
    go_region_held3 (fun w'=>Below wr.heap.size wr w'/\w'.cell? ⟨w.heap.size,1,Q⟩=J (M ⟨b,off,Q⟩) gs.length gc/\w'.cell? ⟨b,off+k*5,Q⟩=Y I kd/\w'.cell? ⟨b,off+k*5+1,Q⟩=Y I ak/\w'.cell? ⟨b,off+k*5+2,Q⟩=Y I an/\w'.cell? ⟨b,off+k*5+3,Q⟩=Y I bk/\w'.cell? ⟨b,off+k*5+4,Q⟩=Y I bn) ((go_split_ands;refine ext6b ?_ qg d0 d1 d2 d3 d4;repeat (first | assumption | exact br | refine aD ?_ | refine aA ?_ _ | refine aC ?_ (by assumption))))
     (first
      | (go_at_call_of 134 (ag #[Y I ak,Y I an]);refine(eZ ak an ([]:List Int) Q 0 _ ?_ hB.out).mono ?_;(refine hIr.out.below ?_;go_split_ands;repeat (first | assumption | exact br | refine aD ?_ | refine aA ?_ _ | refine aC ?_ (by assumption)));rintro e w' ⟨rfl,rfl⟩)
      | (go_at_call_of 134 (ag #[Y I bk,Y I bn]);refine(eZ bk bn ([]:List Int) Q 0 _ ?_ hC.out).mono ?_;(refine hIr.out.below ?_;go_split_ands;repeat (first | assumption | exact br | refine aD ?_ | refine aA ?_ _ | refine aC ?_ (by assumption)));rintro e w' ⟨rfl,rfl⟩)
      | (go_at_call 133;refine(iC kd (dN ak an ([]:List Int)) (dN bk bn ([]:List Int)) _).mono ?_;rintro e w' ⟨rfl,rfl⟩))
    exact xl
  ·have hA0:(gs.take k).all (gR ([]:List Int))=dU ([]:List Int) gs:=by rw[le om,yL]
   rw[hA0]at q0;have m0:=(hnx.cell (p:=⟨w.heap.size+1,0,Q⟩) hwR).trans l0;have m1:=(hnx.cell (p:=⟨w.heap.size+1,1,Q⟩) hwR).trans l1;have mf:=fun j=>(hnx.frozen (p:=⟨w.heap.size+1,j,Q⟩) hwR).trans (lf j)
   have hvr:=Hi (hvaR.belowHi hnx);clear k0 k1 k2 l0 l1 lf hvaR hA0 hnx;by_cases hA:dU ([]:List Int) gs=true
   ·have hm:aS ([]:List Int) gs ss=eY ([]:List Int) ss:=by unfold aS;rw[if_pos hA]
    have HM:=Hi hm;have HA:=Hi hA;rw[hA]at q0;have hal:Hid ((eY ([]:List Int) ss).length=ss.length):=by simp[eY,Hid]
    clear hA hm
    go_wp2_with fail
    obtain⟨W3,hW3⟩:∃X,X=wr:=⟨wr,rfl⟩;subst hW3
    go_loopw [10,11,12,13] (fun v i _ _ wx=>∃k:Nat,k<=ss.length/\i=Y I k/\wx.ownsRow W3.heap.size 3 1 v k (((eY ([]:List Int) ss).take k).map (Y I))/\Below W3.heap.size W3 wx) (fun _ i _ _ _=>ss.length - (intOf i).toNat)
    case atStart=>exact⟨0,nz,rfl,n8 _ _ _ _,br⟩
    case round=>
     clear hk hlt;obtain⟨k,hk,rfl,hown,hnx⟩:=hrel;have z2:=aB hnx j2;have hup2:=Hi (aC hup.out hnx);have hsz:=hnx.size;by_cases hlt:k<ss.length
     ·obtain⟨b,off,hsa,hb,c0,c1,c2,c3,c4,c5⟩:=HT.out.s k hlt;subst hsa;have qs:=z2;have d1:=aB hup2.out c1;have d2:=aB hup2.out c2;have d3:=aB hup2.out c3;have d4:=aB hup2.out c4;have d5:=aB hup2.out c5;have hIr:=Hi (HZ.out.below hup2.out);have HTV:=Hi (tE ([]:List Int) ss k hlt);have hE:=jQ _ ss s0 HS.out k hlt;have i1:(0:Int)<=(k:Int):=om;have i2:(k:Int)<(ss.length:Int):=om;clear c0 c1 c2 c3 c4 c5 q0 q1 qf m0 m1 mf j0 j1 j2;generalize (ss.getD k s0)=s at *;obtain⟨key,op,ak,an,bk,bn⟩:=s;simp only at d1 d2 d3 d4 d5;obtain⟨xA,xB,xC⟩:=tF hE;rw[<-HL.out]at xB xC;have hB:=Hi xB;have hC:=Hi xC;clear hE xA xB xC
      go_wp2_with fail
      go_region_held3 (fun w'=>Below wr.heap.size wr w'/\w'.cell? ⟨w.heap.size,2,Q⟩=J (M ⟨b,off,Q⟩) ss.length sc/\w'.cell? ⟨b,off+k*6+1,Q⟩=Y I op/\w'.cell? ⟨b,off+k*6+2,Q⟩=Y I ak/\w'.cell? ⟨b,off+k*6+3,Q⟩=Y I an/\w'.cell? ⟨b,off+k*6+4,Q⟩=Y I bk/\w'.cell? ⟨b,off+k*6+5,Q⟩=Y I bn) ((go_split_ands;refine ext6b ?_ qs d1 d2 d3 d4 d5;repeat (first | assumption | exact br | refine aD ?_ | refine aA ?_ _ | refine aC ?_ (by assumption))))
       (first
        | (go_at_call_of 134 (ag #[Y I ak,Y I an]);refine(eZ ak an ([]:List Int) Q 0 _ ?_ hB.out).mono ?_;(refine hIr.out.below ?_;go_split_ands;repeat (first | assumption | exact br | refine aD ?_ | refine aA ?_ _ | refine aC ?_ (by assumption)));rintro e w' ⟨rfl,rfl⟩)
        | (go_at_call_of 134 (ag #[Y I bk,Y I bn]);refine(eZ bk bn ([]:List Int) Q 0 _ ?_ hC.out).mono ?_;(refine hIr.out.below ?_;go_split_ands;repeat (first | assumption | exact br | refine aD ?_ | refine aA ?_ _ | refine aC ?_ (by assumption)));rintro e w' ⟨rfl,rfl⟩)
        | (go_at_call 135;refine(gE op (dN ak an ([]:List Int)) (dN bk bn ([]:List Int)) _).mono ?_;rintro e w' ⟨rfl,rfl⟩))
      go_wp2_with (first | (at_builtin;(refine wpList_append_own _ rfl _ _ 41 rfl W3.heap.size 3 i0 (Y I 0) 1 8 underlying41 hi hz0 hz1 hz2 rfl dc _ _ _ rfl (bY hown (aA (aD (aA (aA br _) _)) _)) _ 1 1 [Y I (fK op (dN ak an ([]:List Int)) (dN bk bn ([]:List Int)))] rfl rfl (lP _ _ _ sm) (ints_oneCell I [_]) (by unfold maxLen;omega) om (by simp;omega) ?_);intro v' w1 hown' hgrow _) | go_in)
      have R1:w1.ownsRow W3.heap.size 3 1 v' (k+1) (((eY ([]:List Int) ss).take (k+1)).map (Y I)):=by rw[HTV.out,ny];exact hown'
      exact yr
     ·have hkk:k=ss.length:=om;rw[hkk,le (by rw[hal.out];exact nr)]at hown;obtain⟨ma,mc,hv,hma⟩:=gC hown;rw[hv];have n0:=aB hnx m0;have n1:=aB hnx m1;have hq3:=np W3 _ m0;have nf:=fun j=>(hnx.frozen (p:=⟨w.heap.size+1,j,Q⟩) hq3).trans (mf j)
      have x0:=aB hnx q0;have x1:=aB hnx q1;have hvr2:=Hi (hvr.out.below hnx);clear hv hown q0 q1 qf m0 m1 mf j0 j1 j2;go_wp2;refine bodyPost_ret (v:=tu #[ag #[bo true,J va 0 0],J ma (eY ([]:List Int) ss).length mc]) (by simp[results,results95,go_sem,n0,n1]) rfl ⟨va,0,ma,⟨mc,by rw[HM.out,HA.out]⟩,?_,?_,?_⟩
      ·have h1:=(hvr2.out.set ⟨w.heap.size+1,0,Q⟩ (bo true) (.inl sm)).set ⟨w.heap.size+1,1,Q⟩ (J va 0 0) (.inl sm);exact h1.widen om (by simp;omega)
      ·rw[HM.out];have h1:=(hma.set ⟨w.heap.size+1,0,Q⟩ (bo true) (.inl hq3)).set ⟨w.heap.size+1,1,Q⟩ (J va 0 0) (.inl hq3);exact h1.widen hup.out.size sm
      ·exact aG (aG hup2.out sm _) sm _
   ·have hm:aS ([]:List Int) gs ss=[]:=by unfold aS;rw[if_neg hA]
    have hA':dU ([]:List Int) gs=false:=by simpa using hA
    have HM:=Hi hm;have HA:=Hi hA';rw[hA']at q0;clear hA hA' hm;go_wp2;refine bodyPost_ret (v:=tu #[ag #[bo false,J va 0 0],J Q 0 0]) (by simp[results,results95,go_sem,m0,m1]) rfl ⟨va,0,Q,0,by rw[HM.out,HA.out];rfl,?_,by rw[HM.out];exact fun i hi=>absurd hi sm,?_⟩
    ·have h1:=(hvr.out.set ⟨w.heap.size+1,0,Q⟩ (bo false) (.inl sm)).set ⟨w.heap.size+1,1,Q⟩ (J va 0 0) (.inl sm);exact h1.widen om (by simp;omega)
    ·exact aG (aG hup.out sm _) sm _
theorem tG (w:World) (ht:IsTx w ra ga sa rs gs ss) (hz:IsInts w za zs) (hn:za=Q->zc=0) (h4:zs.length<=4) (hlen:zs.length=rs.length) (hg0:aH (gs.map (dZ rs.length))=0) (hs0:aH (ss.map (dY rs.length))=0) (h3:ss.length<=3) (hg2:gs.length<=2) :
  Calls prog 95 #[ag #[J ra rs.length rc,J ga gs.length gc,J sa ss.length sc],J za zs.length zc] w fun e w'=>∃va vc ma mc,e=rt (tu #[ag #[bo (dU zs gs),J va zs.length vc],J ma (aS zs gs ss).length mc])/\IsAt w.heap.size w'.heap.size w' va zs/\IsAt w.heap.size w'.heap.size w' ma (aS zs gs ss)/\Below w.heap.size w w':=by
 cases za with
 | none=>
  have hzs:zs=[]:=by
   exact VU
  subst hzs;rw[hn rfl];exact runOf_none ra ga sa rc gc sc rs gs ss w ht hlen hg0 hs0 h3 hg2
 | some ad=>exact runOf_some ra ga sa rc gc sc rs gs ss zc zs ad w ht hz h4 hlen hg0 hs0 h3 hg2
end
end Go.Proofs.YtcgpkonfneofdaaGreatDoor
