/- Conditions: those that each theorem states. -/
import Derived.Test.YtcgpkonfneofdaaGreatDoorQHallO
set_option maxRecDepth 100000
set_option maxHeartbeats 8000000
namespace Go.Proofs.YtcgpkonfneofdaaGreatDoor
open Go.RowKit Go.Proofs.Tryz
open Go.Value renaming slice->J,int->Y,bool->bo,pointer->pd,agg->ag,tuple->tu,string->sg,iface->fc
open Go.IntKind renaming i64->I
open Go.Obj renaming cells->U
open Go.Ending renaming returned->rt,panicked->pg
open Option renaming some->M,none->Q
variable {p:Prop} {sh n kd:Nat}
theorem uh (h:p:=by
 clear CP hbs hb1 p0 p1 q1 z5 e4;rw[HL.out];go_wp2
 go_loop [8] (fun i=>∃k:Nat,k<=sh/\i=Y I k/\Hid ((List.range k).all (fun k=>!iF sh (gX l n) k || cR S.rd n k)=true)) (fun i=>sh - (intOf i).toNat)
 case atStart=>exact⟨0,nz,rfl,rfl⟩
 case round=>
  obtain⟨k,hk,rfl,hall⟩:=hrel;by_cases hlt:k<sh
  ·obtain⟨b1,o1,ea,_,d1⟩:=HB.out k (by rw[HL.out];exact hlt);subst ea;rw[HM.out k]at d1;have d4:=Z5.out k hlt
   have hstep:Hid ((List.range (k+1)).all (fun k=>!iF sh (gX l n) k || cR S.rd n k)=(!iF sh (gX l n) k || cR S.rd n k)):=by
    show _=_;rw[mC,hall.out,wk]
   have hstop:Hid (_=false->R=false):=fun e=>by rw[HA.out];exact gD hlt e
   have i1:(k:Int)<(sh:Int):=om;generalize iF sh (gX l n) k=P at *;generalize cR S.rd n k=Qq at *;clear hall
   cases P
   ·exact US
   ·cases Qq
    ·have HR:=Hi (hstop.out rfl);clear hstop hstep;exact zk
    ·exact US
  ·have hkk:k=sh:=om;subst hkk;have HR:Hid (R=true):=by show _=_;rw[HA.out];exact hall.out
   have i1:¬(k:Int)<(k:Int):=om;exact zk):p:=h
theorem US (h:p:=by
 go_wp2;go_round
 case rel=>exact⟨k+1,by omega,by go_num,by show _=_;rw[hstep.out];rfl⟩
 case measure=>simp[intOf];omega):p:=h
theorem Va (h:p:=by
 clear HR;go_wp2;go_ret;exact⟨by rw[HR'.out];rfl,BF.out⟩):p:=h
section
variable (la:Option Addr) (lc:Nat) (l:List TxA) (sa ra wa va:Option Addr) (sc rc tc vc:Nat) (S:SA)
theorem xZ (sh n:Nat) (w:World) (hl:IsTxs w la l) (hs:Sta w sa ra wa va S) (hp:yO sh l n=0) (hF:Form sh l S) (hn:n<l.length) (_h8:l.length<=8) (h0:0<sh) (h4:sh<=4) :
  Kr 128 #[ag #[Y I sh,J la l.length lc],ag #[J sa S.st.length sc,J ra S.rd.length rc,J wa S.wr.length tc,J va S.vs.length vc],Y I n] w (bo (dT sh l S n)):=by
 obtain⟨W,hWe⟩:=nm (((w.alloc (U #[Y I sh,J la l.length lc] 29)).alloc (U #[J sa S.st.length sc,J ra S.rd.length rc,J wa S.wr.length tc,J va S.vs.length vc] 45)));have hW:Hid (Below w.heap.size w W):=by subst hWe;exact aA (aA br _) _
 have p0:W.cell? ⟨w.heap.size,0,Q⟩=Y I sh:=by subst hWe;exact aB (aA br _) (aF w _ 29 _ 0 _ rfl rfl)
 have p1:W.cell? ⟨w.heap.size,1,Q⟩=J la l.length lc:=by subst hWe;exact aB (aA br _) (aF w _ 29 _ 1 _ rfl rfl)
 have q1:W.cell? ⟨w.heap.size+1,1,Q⟩=J ra S.rd.length rc:=by subst hWe;exact aF _ _ 45 _ 1 _ sm rfl
 have CP:=Hi (fS la lc l sh n _ (hl.below hW.out) hp);have HS:=Hi (hs.below hW.out);have HM:Hid (∀k,(aY sh (aT (aO l n))).getD k false=iF sh (gX l n) k):=fun _=>rfl
 have HL:Hid ((aY sh (aT (aO l n))).length=sh):=bN _ _;have HF:=Hi hF;have HA:Hid (dT sh l S n=(List.range sh).all _):=rfl;clear hl hs hF hp;generalize dT sh l S n=R at *;have HWe:Hid (W=_):=hWe;clear hWe;go_enter func128,ntmps128
 go_upto_region 1 with fail
 rw[<-HWe.out];clear HWe
 go_wp2_with fail
 refine CP.out.mono ?_;rintro e w1 ⟨a,c,rfl,hbs,hb1⟩;have B1:=Hi (aC hW.out hb1);have HB:=Hi hbs;have x0:=aB hb1 p0;have y1:=aB hb1 q1;obtain⟨b4,o4,b5,o5,c5,e4,_,_,z4,z5⟩:=(HS.out.below hb1).rd.rows HF.out.rd HF.out.rn h0 n hn;have Z5:=Hi z5;rw[e4,HF.out.rd]at y1;exact uh
theorem uR (sh n k:Nat) (w:World) (hl:IsTxs w la l) (hs:Sta w sa ra wa va S) (hp:yO sh l n=0) (hF:Form sh l S) (hn:n<l.length) (hk:k<sh) (h4:sh<=4) :
  Kr 94 #[ag #[Y I sh,J la l.length lc],ag #[J sa S.st.length sc,J ra S.rd.length rc,J wa S.wr.length tc,J va S.vs.length vc],Y I n,Y I k] w (bo (bM sh l S n k)):=by
 have h0:0<sh:=om;obtain⟨W,hWe⟩:=nm (((w.alloc (U #[Y I sh,J la l.length lc] 29)).alloc (U #[J sa S.st.length sc,J ra S.rd.length rc,J wa S.wr.length tc,J va S.vs.length vc] 45)));have hW:Hid (Below w.heap.size w W):=by subst hWe;exact aA (aA br _) _
 have p0:W.cell? ⟨w.heap.size,0,Q⟩=Y I sh:=by subst hWe;exact aB (aA br _) (aF w _ 29 _ 0 _ rfl rfl)
 have p1:W.cell? ⟨w.heap.size,1,Q⟩=J la l.length lc:=by subst hWe;exact aB (aA br _) (aF w _ 29 _ 1 _ rfl rfl)
 have q1:W.cell? ⟨w.heap.size+1,1,Q⟩=J ra S.rd.length rc:=by subst hWe;exact aF _ _ 45 _ 1 _ sm rfl
 have q2:W.cell? ⟨w.heap.size+1,2,Q⟩=J wa S.wr.length tc:=by subst hWe;exact aF _ _ 45 _ 2 _ sm rfl
 have CP:=Hi (fS la lc l sh n _ (hl.below hW.out) hp);have CA:Hid (∀w1,Below W.heap.size W w1->Calls prog 91 #[ag #[Y I sh,J la l.length lc],Y I n] w1 fun e w'=>∃a c,e=rt (J a (aY sh (aR (aO l n))).length c)/\IsBools w' a (aY sh (aR (aO l n)))/\Below w1.heap.size w1 w'):=fun w1 hb=>gJ la lc l sh n _ ((hl.below hW.out).below hb) hp
 have HS:=Hi (hs.below hW.out);have HM:Hid ((aY sh (aT (aO l n))).getD k false=iF sh (gX l n) k):=rfl;have HM2:Hid ((aY sh (aR (aO l n))).getD k false=mW sh (gX l n) k):=rfl;have HL:Hid ((aY sh (aT (aO l n))).length=sh):=bN _ _;have HL2:Hid ((aY sh (aR (aO l n))).length=sh):=bN _ _;have HF:=Hi hF
 have HR:Hid (bM sh l S n k=if iF sh (gX l n) k=true then (if mW sh (gX l n) k=true then cR S.wr n k else cR S.rd n k) else true):=by
  show _=_;unfold bM
  cases iF sh (gX l n) k <;> cases mW sh (gX l n) k <;> rfl
 clear hl hs hF hp;generalize bM sh l S n k=R at *;have HWe:Hid (W=_):=hWe;clear hWe;go_enter func94,ntmps94
 go_upto_region 1 with fail
 rw[<-HWe.out];clear HWe
 go_wp2_with fail
 refine CP.out.mono ?_;rintro e w1 ⟨a,c,rfl,hbs,hb1⟩;have B1:=Hi hb1;obtain⟨b1,o1,ea,_,d1⟩:=hbs k (by rw[HL.out];exact hk);subst ea;rw[HM.out]at d1;rw[HL.out];have x0:=aB hb1 p0;have x1:=aB hb1 p1;clear CP hbs hb1;generalize iF sh (gX l n) k=P at *
 cases P
 ·have HR':Hid (R=true):=by show _=_;rw[HR.out];rfl
  have BF:=Hi (aC hW.out B1.out);exact Va
 ·go_wp2_with fail
  refine(CA.out _ B1.out).mono ?_;rintro e w2 ⟨a,c,rfl,hbs,hb2⟩;have B2:=Hi (aC B1.out hb2);obtain⟨b3,o3,ea,_,d3⟩:=hbs k (by rw[HL2.out];exact hk);subst ea;rw[HM2.out]at d3;rw[HL2.out];have y1:=aB B2.out q1;have y2:=aB B2.out q2;obtain⟨b4,o4,b5,o5,c5,e4,_,_,z4,z5⟩:=(HS.out.below B2.out).rd.rows HF.out.rd HF.out.rn h0 n hn;obtain⟨b6,o6,b7,o7,c7,e6,_,_,z6,z7⟩:=(HS.out.below B2.out).wr.rows HF.out.wr HF.out.wn h0 n hn;have z5:=z5 k hk;have z7:=z7 k hk;rw[e4,HF.out.rd]at y1;rw[e6,HF.out.wr]at y2;have BF:=Hi (aC hW.out B2.out);clear CA hbs hb2 e4 e6 d1 x0 x1;generalize mW sh (gX l n) k=Qq at *
  cases Qq
  ·have HR':Hid (R=cR S.rd n k):=by show _=_;rw[HR.out];rfl
   exact Va
  ·have HR':Hid (R=cR S.wr n k):=by show _=_;rw[HR.out];rfl
   exact Va
end
theorem U8 (h:p:=by
 go_wp2;go_ret;exact⟨rfl,BF.out⟩):p:=h
section
theorem Hid.of (h:p):Hid p:=h
theorem xG {l:List TxA} (hp:aN (sh:Int) l=0) (hn:n<l.length):yO sh l n=0:=by
 have e:nQ (n:Int) l.length=0:=by
  unfold nQ;rw[if_neg om]
 unfold yO;rw[hp,e];rfl
variable (la:Option Addr) (lc:Nat) (l:List TxA) (sa ra wa va:Option Addr) (sc rc tc vc:Nat) (S:SA)
theorem docOver_any (sh:Nat) (w:World) (hl:IsTxs w la l) (hs:Sta w sa ra wa va S) (hp:aN (sh:Int) l=0) (hF:Form sh l S) :
  Kr 55 #[ag #[Y I sh,J la l.length lc],ag #[J sa S.st.length sc,J ra S.rd.length rc,J wa S.wr.length tc,J va S.vs.length vc]] w (bo (dB sh l S)):=by
 have hz:=aX hp;have hl8:=cJ hz.2.2;have h4:sh<=4:=om;obtain⟨W,hWe⟩:=nm (((w.alloc (U #[Y I sh,J la l.length lc] 29)).alloc (U #[J sa S.st.length sc,J ra S.rd.length rc,J wa S.wr.length tc,J va S.vs.length vc] 45)));have hW:Hid (Below w.heap.size w W):=by subst hWe;exact aA (aA br _) _
 have p0:W.cell? ⟨w.heap.size,0,Q⟩=Y I sh:=by subst hWe;exact aB (aA br _) (aF w _ 29 _ 0 _ rfl rfl)
 have p1:W.cell? ⟨w.heap.size,1,Q⟩=J la l.length lc:=by subst hWe;exact aB (aA br _) (aF w _ 29 _ 1 _ rfl rfl)
 have q0:W.cell? ⟨w.heap.size+1,0,Q⟩=J sa S.st.length sc:=by subst hWe;exact aF _ _ 45 _ 0 _ sm rfl
 have q1:W.cell? ⟨w.heap.size+1,1,Q⟩=J ra S.rd.length rc:=by subst hWe;exact aF _ _ 45 _ 1 _ sm rfl
 have q2:W.cell? ⟨w.heap.size+1,2,Q⟩=J wa S.wr.length tc:=by subst hWe;exact aF _ _ 45 _ 2 _ sm rfl
 have q3:W.cell? ⟨w.heap.size+1,3,Q⟩=J va S.vs.length vc:=by subst hWe;exact aF _ _ 45 _ 3 _ sm rfl
 have KEEP:Hid (∀w',Below W.heap.size W w'->w'.cell? ⟨w.heap.size,0,Q⟩=Y I sh/\w'.cell? ⟨w.heap.size,1,Q⟩=J la l.length lc/\w'.cell? ⟨w.heap.size+1,0,Q⟩=J sa S.st.length sc/\w'.cell? ⟨w.heap.size+1,1,Q⟩=J ra S.rd.length rc/\w'.cell? ⟨w.heap.size+1,2,Q⟩=J wa S.wr.length tc/\w'.cell? ⟨w.heap.size+1,3,Q⟩=J va S.vs.length vc):=fun w' hb=>⟨aB hb p0,aB hb p1,aB hb q0,aB hb q1,aB hb q2,aB hb q3⟩
 have CG:=Hi (fun w' n k hb hn hk=>uR la lc l sa ra wa va sc rc tc vc S sh n k w' ((hl.below hW.out).below hb) ((hs.below hW.out).below hb) (xG hp hn) hF hn hk h4);have HF:Hid (dB sh l S=kX sh l S l.length):=rfl;have HS:=Hi (uH sh l S);have HB:Hid (∀n k,n<l.length->k<sh->bM sh l S n k=false->dB sh l S=false):=fun n k hn hk e=>gD hn (gD hk e)
 have H0:Hid (kX sh l S 0=true):=rfl;clear hl hs hp hF hz p0 p1 q0 q1 q2 q3;generalize dB sh l S=R at *;generalize hot:kX sh l S=ot at *;clear hot;have HWe:Hid (W=_):=hWe;clear hWe;go_enter func55,ntmps55
 go_upto_region 1 with fail
 rw[<-HWe.out];clear HWe;go_wp2
 go_loopw [5,6] (fun i _ wr=>∃n:Nat,n<=l.length/\i=Y I n/\Hid (ot n=true)/\Hid (Below W.heap.size W wr)) (fun i _ _=>l.length - (intOf i).toNat)
 case atStart=>exact⟨0,nz,rfl,H0,br⟩
 case round=>
  obtain⟨n,hn,rfl,hall,hB⟩:=hrel;obtain⟨p0,p1,q0,q1,q2,q3⟩:=KEEP.out wr hB.out;by_cases hlt:n<l.length
  ·have i1:(n:Int)<(l.length:Int):=om;have HN:Hid ((List.range sh).all _=true->ot _=true):=fun e=>by rw[HS.out,hall.out,e];rfl
   clear hall;go_wp2;clear p0 p1 q0 q1 q2 q3
   go_loopw [6] (fun j wq=>∃k:Nat,k<=sh/\j=Y I k/\Hid ((List.range k).all (bM sh l S n)=true)/\Hid (Below W.heap.size W wq)) (fun j _=>sh - (intOf j).toNat)
   case atStart=>exact⟨0,nz,rfl,rfl,hB⟩
   case round=>
    clear hB;obtain⟨k,hk,rfl,hal,hB⟩:=hrel;obtain⟨p0,p1,q0,q1,q2,q3⟩:=KEEP.out _ hB.out;by_cases hlt2:k<sh
    ·have j1:(k:Int)<(sh:Int):=om;have HT:Hid ((List.range (k+1)).all (bM sh l S n)=bM sh l S n k):=by show _=_;rw[mC,hal.out,wk]
     have HBk:=Hi (HB.out n k hlt hlt2);have CGh:=Hid.of (CG.out _ n k hB.out hlt hlt2);clear hal;generalize hg:bM sh l S n k=G at HT HBk CGh;clear hg
     cases G
     ·have HR:=Hi (HBk.out rfl);clear HT HBk
      go_wp2_with fail
      refine CGh.out.mono ?_;rintro e w2 ⟨rfl,hw2⟩;have BF:=Hi (aC hW.out (aC hB.out hw2));clear CGh hw2 p0 p1 q0 q1 q2 q3;go_wp2;go_ret;exact⟨by rw[HR.out];rfl,BF.out⟩
     ·clear HBk
      go_wp2_with fail
      refine CGh.out.mono ?_;rintro e w2 ⟨rfl,hw2⟩;have BF:=Hi (aC hB.out hw2);clear CGh hw2 p0 p1 q0 q1 q2 q3;go_wp2;go_roundw
      case rel=>exact⟨k+1,by omega,by go_num,HT.out,BF⟩
      case measure=>simp[intOf];omega
    ·have hkk:k=sh:=om;have j1:¬(k:Int)<(sh:Int):=om;have HT:=Hi (HN.out (by have:=hal.out;rw[hkk]at this;exact this));clear hal HN;go_wp2;go_roundw
     case rel=>exact⟨n+1,by omega,by go_num,HT,hB⟩
     case measure=>simp[intOf];omega
  ·have hnn:n=l.length:=om;have i1:¬(n:Int)<(l.length:Int):=om;have HR:Hid (R=true):=by have:=hall.out;rw[hnn]at this;exact HF.out.trans this
   have BF:=Hi (aC hW.out hB.out);clear hall;go_wp2;go_ret;exact⟨by rw[HR.out];rfl,BF.out⟩
end
theorem y6 (h:p:=by
 go_wp2;go_roundw
 case rel=>exact⟨k+1,by omega,by go_num,HR,hB⟩
 case measure=>simp[intOf];omega):p:=h
theorem zd (h:p:=by
 have RB:=Hi (aC G1.out hB.out);clear p0 p1 p2 q0 q1 q2 HAk HT HXr HYr;go_wp2;go_ret;exact⟨by rw[HR.out];rfl,RB.out⟩):p:=h
theorem VW (h:p:=by
 clear p0 p1 p2 q0 q1 q2 HAk HT HXr HYr;exact y6):p:=h
section
variable (x y:TxA)
def clTo (sh:Nat) (x y:TxA) (kk n:Nat):Bool:=(List.range n).any fun c=>c%sh==kk && gH x y c
theorem clTo_step (sh:Nat) (x y:TxA) (kk n:Nat):clTo sh x y kk (n+1)=(clTo sh x y kk n || (n%sh==kk && gH x y n)):=by
 unfold clTo;rw[wu,List.any_append];simp
theorem rd_is (x:TxA) (k:Nat) (b:Bool) (h:rdX x k=b):decide ((k:Int)∈x.rs)=b:=h
theorem wr_is (x:TxA) (k:Nat) (b:Bool) (h:pZ x k=b):decide ((k:Int)∈aJ x.ss)=b:=h
theorem docClash_sh (sh kk:Nat) (h0:0<sh) (hs4:sh<=4) (w:World) (hx:IsX w x) (hy:IsX w y) :
  Kr 131 #[ag #[J x.ra x.rs.length x.rc,J x.ga x.gs.length x.gc,J x.sa x.ss.length x.sc],ag #[J y.ra y.rs.length y.rc,J y.ga y.gs.length y.gc,J y.sa y.ss.length y.sc],Y I sh,Y I kk] w (bo (yR sh x y kk)):=by
 have HS:=Hi (clTo_step sh x y kk);have HA:Hid (∀k,gH x y k=(_ || _)):=fun k=>rfl
 have HF:Hid (yR sh x y kk=clTo sh x y kk 8):=rfl
 have HD:Hid (∀k,clTo sh x y kk k=true->k<=8->yR sh x y kk=true):=fun k h hk=>by
  unfold yR clTo at *;rw[wm]at *;obtain⟨j,hj,hc⟩:=h;exact⟨j,List.mem_range.2 (by have:=List.mem_range.1 hj;omega),hc⟩
 have R1:=Hi (rd_is x);have W1:=Hi (wr_is x);have R2:=Hi (rd_is y);have W2:=Hi (wr_is y);have H0:Hid (clTo sh x y kk 0=false):=rfl;generalize yR sh x y kk=CX at *;generalize hct:clTo sh x y kk=ct at *;generalize hca:gH x y=ca at *;clear hct hca;generalize rdX x=rx at *;generalize pZ x=wx at *;generalize rdX y=ry at *;generalize pZ y=wy at *;obtain⟨ra,ga,sa,rc,gc,sc,rs,gs,ss⟩:=x;obtain⟨ra',ga',sa',rc',gc',sc',rs',gs',ss'⟩:=y;simp only at R1 W1 R2 W2;have HX:Hid (IsTx w ra ga sa rs gs ss):=hx.t;have HY:Hid (IsTx w ra' ga' sa' rs' gs' ss'):=hy.t;clear hx hy;have g1:Below w.heap.size w ((w.alloc (U #[J ra rs.length rc,J ga gs.length gc,J sa ss.length sc] 95)).alloc (U #[J ra' rs'.length rc',J ga' gs'.length gc',J sa' ss'.length sc'] 95)):=aA (aA br _) _;have p0:((w.alloc (U #[J ra rs.length rc,J ga gs.length gc,J sa ss.length sc] 95)).alloc (U #[J ra' rs'.length rc',J ga' gs'.length gc',J sa' ss'.length sc'] 95)).cell? ⟨w.heap.size,0,Q⟩=J ra rs.length rc:=by rw[ni _ _ _ sm];simp
 have p1:((w.alloc (U #[J ra rs.length rc,J ga gs.length gc,J sa ss.length sc] 95)).alloc (U #[J ra' rs'.length rc',J ga' gs'.length gc',J sa' ss'.length sc'] 95)).cell? ⟨w.heap.size,1,Q⟩=J ga gs.length gc:=by rw[ni _ _ _ sm];simp
 have p2:((w.alloc (U #[J ra rs.length rc,J ga gs.length gc,J sa ss.length sc] 95)).alloc (U #[J ra' rs'.length rc',J ga' gs'.length gc',J sa' ss'.length sc'] 95)).cell? ⟨w.heap.size,2,Q⟩=J sa ss.length sc:=by rw[ni _ _ _ sm];simp
 have q0:((w.alloc (U #[J ra rs.length rc,J ga gs.length gc,J sa ss.length sc] 95)).alloc (U #[J ra' rs'.length rc',J ga' gs'.length gc',J sa' ss'.length sc'] 95)).cell? ⟨w.heap.size+1,0,Q⟩=J ra' rs'.length rc':=sm;have q1:((w.alloc (U #[J ra rs.length rc,J ga gs.length gc,J sa ss.length sc] 95)).alloc (U #[J ra' rs'.length rc',J ga' gs'.length gc',J sa' ss'.length sc'] 95)).cell? ⟨w.heap.size+1,1,Q⟩=J ga' gs'.length gc':=sm;have q2:((w.alloc (U #[J ra rs.length rc,J ga gs.length gc,J sa ss.length sc] 95)).alloc (U #[J ra' rs'.length rc',J ga' gs'.length gc',J sa' ss'.length sc'] 95)).cell? ⟨w.heap.size+1,2,Q⟩=J sa' ss'.length sc':=sm;go_enter func131,ntmps131;go_wp2;have G1:=Hi g1;clear g1;generalize (w.alloc (U #[J ra rs.length rc,J ga gs.length gc,J sa ss.length sc] 95)).alloc (U #[J ra' rs'.length rc',J ga' gs'.length gc',J sa' ss'.length sc'] 95)=V at *
 go_loopw [9] (fun i wr=>∃k:Nat,k<=8/\i=Y I k/\Hid (ct k=false)/\Hid (Below V.heap.size V wr)) (fun i _=>8 - (intOf i).toNat)
 case atStart=>exact⟨0,nz,rfl,H0,br⟩
 case round=>
  obtain⟨k,hk,rfl,hC,hB⟩:=hrel;by_cases hlt:k<8
  ·have p0:=aB hB.out p0;have p1:=aB hB.out p1;have p2:=aB hB.out p2;have q0:=aB hB.out q0;have q1:=aB hB.out q1;have q2:=aB hB.out q2;by_cases hat:k%sh=kk;rotate_left
   ·have HR:Hid (ct (k+1)=false):=by
     show _=_;rw[HS.out,hC.out];have e:(k%sh==kk)=false:=by simpa using hat
     rw[e];rfl
    have hm:((k:Int)%(sh:Int) != (kk:Int))=true:=by
     rw[bne_iff_ne];intro e;exact hat om
    clear p0 p1 p2 q0 q1 q2 HS HA HF hC HD R1 R2 W1 W2 hat;exact y6
   have HT:Hid (ct (k+1)=ca k):=by
    show _=_;rw[HS.out,hC.out];have e:(k%sh==kk)=true:=by simpa using hat
    rw[e];rfl
   have HAk:=HA.out k
   have hm:((k:Int)%(sh:Int) != (kk:Int))=false:=by
    rw[bne_eq_false_iff_eq];omega
   clear hat;have BW:=Hi (aC G1.out hB.out);have HXr:=Hi (HX.out.below BW.out);have HYr:=Hi (HY.out.below BW.out);clear HS HA HF hC BW
   cases hwx:wx k with
   | true=>
    go_wp2_with fail
    refine(dL ra ga sa rc gc sc rs gs ss k _ HXr.out).mono ?_;rintro e V1 ⟨rfl,hw1⟩;rw[W1.out k _ hwx];have b1:Below wr.heap.size wr V1:=by rw[hw1];exact aA br _
    clear hw1;have p0:=aB b1 p0;have p1:=aB b1 p1;have p2:=aB b1 p2;have q0:=aB b1 q0;have q1:=aB b1 q1;have q2:=aB b1 q2;have HXr:=Hi (HXr.out.below b1);have HYr:=Hi (HYr.out.below b1);have hB:=Hi (aC hB.out b1);clear b1
    cases hry:ry k with
    | true=>
     go_wp2_with fail
     refine(jA ra' ga' sa' rc' gc' sc' rs' gs' ss' k _ HYr.out).mono ?_;rintro e V2 ⟨rfl,hw2⟩;rw[R2.out k _ hry];have b2:Below V1.heap.size V1 V2:=by rw[hw2];exact aA br _
     clear hw2;have p0:=aB b2 p0;have p1:=aB b2 p1;have p2:=aB b2 p2;have q0:=aB b2 q0;have q1:=aB b2 q1;have q2:=aB b2 q2;have HXr:=Hi (HXr.out.below b2);have HYr:=Hi (HYr.out.below b2);have hB:=Hi (aC hB.out b2);clear b2;have HR:=Hi (HD.out (k+1) (by rw[HT.out,HAk];simp[hwx,hry]) om);exact zd
    | false=>
     go_wp2_with fail
     refine(jA ra' ga' sa' rc' gc' sc' rs' gs' ss' k _ HYr.out).mono ?_;rintro e V3 ⟨rfl,hw3⟩;rw[R2.out k _ hry];have b3:Below V1.heap.size V1 V3:=by rw[hw3];exact aA br _
     clear hw3;have p0:=aB b3 p0;have p1:=aB b3 p1;have p2:=aB b3 p2;have q0:=aB b3 q0;have q1:=aB b3 q1;have q2:=aB b3 q2;have HXr:=Hi (HXr.out.below b3);have HYr:=Hi (HYr.out.below b3);have hB:=Hi (aC hB.out b3);clear b3
     cases hwy:wy k with
     | true=>
      go_wp2_with fail
      refine(dL ra' ga' sa' rc' gc' sc' rs' gs' ss' k _ HYr.out).mono ?_;rintro e V4 ⟨rfl,hw4⟩;rw[W2.out k _ hwy];have b4:Below V3.heap.size V3 V4:=by rw[hw4];exact aA br _
      clear hw4;have p0:=aB b4 p0;have p1:=aB b4 p1;have p2:=aB b4 p2;have q0:=aB b4 q0;have q1:=aB b4 q1;have q2:=aB b4 q2;have HXr:=Hi (HXr.out.below b4);have HYr:=Hi (HYr.out.below b4);have hB:=Hi (aC hB.out b4);clear b4;have HR:=Hi (HD.out (k+1) (by rw[HT.out,HAk];simp[hwx,hry,hwy]) om);exact zd
     | false=>
      go_wp2_with fail
      refine(dL ra' ga' sa' rc' gc' sc' rs' gs' ss' k _ HYr.out).mono ?_;rintro e V5 ⟨rfl,hw5⟩;rw[W2.out k _ hwy];have b5:Below V3.heap.size V3 V5:=by rw[hw5];exact aA br _
      clear hw5;have p0:=aB b5 p0;have p1:=aB b5 p1;have p2:=aB b5 p2;have q0:=aB b5 q0;have q1:=aB b5 q1;have q2:=aB b5 q2;have HXr:=Hi (HXr.out.below b5);have HYr:=Hi (HYr.out.below b5);have hB:=Hi (aC hB.out b5);clear b5
      go_wp2_with fail
      refine(dL ra' ga' sa' rc' gc' sc' rs' gs' ss' k _ HYr.out).mono ?_;rintro e V6 ⟨rfl,hw6⟩;rw[W2.out k _ hwy];have b6:Below V5.heap.size V5 V6:=by rw[hw6];exact aA br _
      clear hw6;have p0:=aB b6 p0;have p1:=aB b6 p1;have p2:=aB b6 p2;have q0:=aB b6 q0;have q1:=aB b6 q1;have q2:=aB b6 q2;have HXr:=Hi (HXr.out.below b6);have HYr:=Hi (HYr.out.below b6);have hB:=Hi (aC hB.out b6);clear b6;have HR:Hid (ct (k+1)=false):=by show _=_;rw[HT.out,HAk];simp[hwx,hry,hwy]
      exact VW
   | false=>
    go_wp2_with fail
    refine(dL ra ga sa rc gc sc rs gs ss k _ HXr.out).mono ?_;rintro e V7 ⟨rfl,hw7⟩;rw[W1.out k _ hwx];have b7:Below wr.heap.size wr V7:=by rw[hw7];exact aA br _
    clear hw7;have p0:=aB b7 p0;have p1:=aB b7 p1;have p2:=aB b7 p2;have q0:=aB b7 q0;have q1:=aB b7 q1;have q2:=aB b7 q2;have HXr:=Hi (HXr.out.below b7);have HYr:=Hi (HYr.out.below b7);have hB:=Hi (aC hB.out b7);clear b7
    cases hwy:wy k with
    | true=>
     go_wp2_with fail
     refine(dL ra' ga' sa' rc' gc' sc' rs' gs' ss' k _ HYr.out).mono ?_;rintro e V8 ⟨rfl,hw8⟩;rw[W2.out k _ hwy];have b8:Below V7.heap.size V7 V8:=by rw[hw8];exact aA br _
     clear hw8;have p0:=aB b8 p0;have p1:=aB b8 p1;have p2:=aB b8 p2;have q0:=aB b8 q0;have q1:=aB b8 q1;have q2:=aB b8 q2;have HXr:=Hi (HXr.out.below b8);have HYr:=Hi (HYr.out.below b8);have hB:=Hi (aC hB.out b8);clear b8
     cases hrx:rx k with
     | true=>
      go_wp2_with fail
      refine(jA ra ga sa rc gc sc rs gs ss k _ HXr.out).mono ?_;rintro e V9 ⟨rfl,hw9⟩;rw[R1.out k _ hrx];have b9:Below V8.heap.size V8 V9:=by rw[hw9];exact aA br _
      clear hw9;have p0:=aB b9 p0;have p1:=aB b9 p1;have p2:=aB b9 p2;have q0:=aB b9 q0;have q1:=aB b9 q1;have q2:=aB b9 q2;have HXr:=Hi (HXr.out.below b9);have HYr:=Hi (HYr.out.below b9);have hB:=Hi (aC hB.out b9);clear b9;have HR:=Hi (HD.out (k+1) (by rw[HT.out,HAk];simp[hwx,hwy,hrx]) om);exact zd
     | false=>
      go_wp2_with fail
      refine(jA ra ga sa rc gc sc rs gs ss k _ HXr.out).mono ?_;rintro e V10 ⟨rfl,hw10⟩;rw[R1.out k _ hrx];have b10:Below V8.heap.size V8 V10:=by rw[hw10];exact aA br _
      clear hw10;have p0:=aB b10 p0;have p1:=aB b10 p1;have p2:=aB b10 p2;have q0:=aB b10 q0;have q1:=aB b10 q1;have q2:=aB b10 q2;have HXr:=Hi (HXr.out.below b10);have HYr:=Hi (HYr.out.below b10);have hB:=Hi (aC hB.out b10);clear b10;have HR:Hid (ct (k+1)=false):=by show _=_;rw[HT.out,HAk];simp[hwx,hwy,hrx]
      exact VW
    | false=>
     go_wp2_with fail
     refine(dL ra' ga' sa' rc' gc' sc' rs' gs' ss' k _ HYr.out).mono ?_;rintro e V11 ⟨rfl,hw11⟩;rw[W2.out k _ hwy];have b11:Below V7.heap.size V7 V11:=by rw[hw11];exact aA br _
     clear hw11;have p0:=aB b11 p0;have p1:=aB b11 p1;have p2:=aB b11 p2;have q0:=aB b11 q0;have q1:=aB b11 q1;have q2:=aB b11 q2;have HXr:=Hi (HXr.out.below b11);have HYr:=Hi (HYr.out.below b11);have hB:=Hi (aC hB.out b11);clear b11;have HR:Hid (ct (k+1)=false):=by show _=_;rw[HT.out,HAk];simp[hwx,hwy]
     exact VW
  ·have hkk:k=8:=om
   have HR:Hid (CX=false):=by
    have h:=hC.out;rw[hkk]at h;exact HF.out.trans h
   have RB:=Hi (aC G1.out hB.out);clear p0 p1 p2 q0 q1 q2 HS HA HF hC;go_wp2;go_ret;exact⟨by rw[HR.out];rfl,RB.out⟩
end
theorem ve (h:p:=by
 obtain⟨b3,o3,rfl,_,d3⟩:=hbs k (by rw[hL];exact hk);refine⟨b3,o3,c,by rw[hL],?_,hb2⟩;exact d3.trans (congrArg (fun x=>M (bo x)) HP.out)):p:=h
theorem yh (h:p:=by
 refine(gJ la lc l sh n _ (HL.out.below hb) (hp n hn)).mono ?_;rintro e w2 ⟨a,c,rfl,hbs,hb2⟩;have hL:=bN sh (aR (aO l n));exact ve):p:=h
theorem ze (h:p:=by
 refine tk 20 ?_;refine tk 21 ?_;refine tf 22 ?_;refine tf 23 ?_;refine tf 24 ?_;refine tf 25 ?_;refine tf 26 ?_;refine tk 27 ?_;refine tk 28 ?_;exact VY):p:=h
theorem Uy (h:p:=by
 refine(fS la lc l sh n _ (HL.out.below hb) (hp n hn)).mono ?_;rintro e w2 ⟨a,c,rfl,hbs,hb2⟩;have hL:=bN sh (aT (aO l n));exact ve):p:=h
theorem VY (h:p:=by
 refine wpAnyH_done kr ?_ _;go_wp2;go_ret;exact⟨rfl,aC hW.out BW.out⟩):p:=h
section
variable (la:Option Addr) (lc:Nat) (l:List TxA) (sa ra wa va:Option Addr) (sc rc tc vc:Nat) (S:SA)
theorem rY (sh n k:Nat) (w:World) (hl:IsTxs w la l) (hs:Sta w sa ra wa va S) (hp:∀a,a<l.length->yO sh l a=0) (hF:Form sh l S) (hn:n<l.length) (h8:l.length<=8) (hk:k<sh) (h4:sh<=4) :
  Kr 92 #[ag #[Y I sh,J la l.length lc],ag #[J sa S.st.length sc,J ra S.rd.length rc,J wa S.wr.length tc,J va S.vs.length vc],ag #[Y I 2,Y I n,Y I k]] w (bo (eD sh l S 2 n k)):=by
 have h0:0<sh:=om;obtain⟨W,hWe⟩:=nm ((((w.alloc (U #[Y I sh,J la l.length lc] 29)).alloc (U #[J sa S.st.length sc,J ra S.rd.length rc,J wa S.wr.length tc,J va S.vs.length vc] 45)).alloc (U #[Y I 2,Y I n,Y I k] 33)));have hW:Hid (Below w.heap.size w W):=by subst hWe;exact(aA (aA (aA br _) _) _)
 have p0:W.cell? ⟨w.heap.size,0,Q⟩=Y I sh:=by subst hWe;exact aB (aA (aA br _) _) (aF _ _ 29 _ 0 _ (by first | rfl | simp) rfl)
 have p1:W.cell? ⟨w.heap.size,1,Q⟩=J la l.length lc:=by subst hWe;exact aB (aA (aA br _) _) (aF _ _ 29 _ 1 _ (by first | rfl | simp) rfl)
 have q0:W.cell? ⟨w.heap.size+1,0,Q⟩=J sa S.st.length sc:=by subst hWe;exact aB (aA br _) (aF _ _ 45 _ 0 _ (by first | rfl | simp) rfl)
 have q1:W.cell? ⟨w.heap.size+1,1,Q⟩=J ra S.rd.length rc:=by subst hWe;exact aB (aA br _) (aF _ _ 45 _ 1 _ (by first | rfl | simp) rfl)
 have q2:W.cell? ⟨w.heap.size+1,2,Q⟩=J wa S.wr.length tc:=by subst hWe;exact aB (aA br _) (aF _ _ 45 _ 2 _ (by first | rfl | simp) rfl)
 have q3:W.cell? ⟨w.heap.size+1,3,Q⟩=J va S.vs.length vc:=by subst hWe;exact aB (aA br _) (aF _ _ 45 _ 3 _ (by first | rfl | simp) rfl)
 have r0:W.cell? ⟨w.heap.size+2,0,Q⟩=Y I 2:=by subst hWe;exact aB br (aF _ _ 33 _ 0 _ (by first | rfl | simp) rfl)
 have r1:W.cell? ⟨w.heap.size+2,1,Q⟩=Y I n:=by subst hWe;exact aB br (aF _ _ 33 _ 1 _ (by first | rfl | simp) rfl)
 have r2:W.cell? ⟨w.heap.size+2,2,Q⟩=Y I k:=by subst hWe;exact aB br (aF _ _ 33 _ 2 _ (by first | rfl | simp) rfl)
 have KEEP:Hid (∀w',Below W.heap.size W w'->w'.cell? ⟨w.heap.size,0,Q⟩=Y I sh/\w'.cell? ⟨w.heap.size,1,Q⟩=J la l.length lc/\w'.cell? ⟨w.heap.size+1,0,Q⟩=J sa S.st.length sc/\w'.cell? ⟨w.heap.size+1,1,Q⟩=J ra S.rd.length rc/\w'.cell? ⟨w.heap.size+1,2,Q⟩=J wa S.wr.length tc/\w'.cell? ⟨w.heap.size+1,3,Q⟩=J va S.vs.length vc/\w'.cell? ⟨w.heap.size+2,0,Q⟩=Y I 2/\w'.cell? ⟨w.heap.size+2,1,Q⟩=Y I n/\w'.cell? ⟨w.heap.size+2,2,Q⟩=Y I k):=fun w' hb=>⟨aB hb p0,aB hb p1,aB hb q0,aB hb q1,aB hb q2,aB hb q3,aB hb r0,aB hb r1,aB hb r2⟩
 have HS:=Hi (hs.below hW.out);have HL:=Hi (hl.below hW.out);have HM:Hid (eD sh l S 2 n k=(mW sh _ k && !cR S.wr n k && dT sh l S n)):=rfl;generalize eD sh l S 2 n k=RR at *;clear hl hs p0 p1 q0 q1 q2 q3 r0 r1 r2;have HWe:Hid (W=_):=hWe;clear hWe;go_enter func92,ntmps92
 go_upto_region 1 with fail
 rw[<-HWe.out];clear HWe;obtain⟨p0,p1,q0,q1,q2,q3,r0,r1,r2⟩:=KEEP.out W br
 go_upto_region 2 with fail
 cases eP:mW sh (gX l n) k with
 | false=>
  have HP:=Hi eP;obtain rfl:RR=false:=by rw[HM.out,eP];rfl
  clear HM
  have CA:Hid (∀w1,Below _ W w1->Calls _ 91 _ w1 fun e w'=>∃b3 o3 c3,e=rt (J (M ⟨b3,o3,Q⟩) sh c3)/\w'.cell? ⟨b3,o3+k,Q⟩=M _/\Below _ w1 w'):=fun w1 hb=>by
   exact yh
  have KS:Hid (∀w',Below _ W w'->w'.cell? _=M _/\w'.cell? _=M _/\w'.cell? _=M _/\w'.cell? _=M _/\Hid _):=fun w' hb=>⟨aB hb p0,aB hb p1,aB hb r1,aB hb r2,hb⟩
  clear HP HS HL hF hp KEEP h8 h4 h0 p0 p1 q0 q1 q2 q3 r0 r1 r2;refine wp_region_held_drew (S:=(fun w'=>w'.cell? ⟨w.heap.size,0,Q⟩=Y I sh/\w'.cell? ⟨w.heap.size,1,Q⟩=J la l.length lc/\w'.cell? ⟨w.heap.size+2,1,Q⟩=Y I n/\w'.cell? ⟨w.heap.size+2,2,Q⟩=Y I k/\Hid (Below W.heap.size W w'))) kr ?_ (fun hHeld=>?_)
  ·exact vt
  refine tk 0 ?_;refine tk 1 ?_;refine tk 2 ?_;refine tk 4 ?_;refine tk 5 ?_;refine r1 3 (fun K hK=>?_);go_simp
  go_wp2_with (go_at_call 91;refine(CA.out _ (aD br)).mono ?_;rintro e w1 ⟨b3,o3,c3,rfl,d3,hb1⟩)
  have BW:=Hi (aC (aD br) hb1);clear hHeld;refine hK.out _ _ (KS.out _ BW.out) (fun hHeld=>?_);clear hK K;refine tk 6 ?_;refine r1 7 (fun K hK=>?_);go_simp;skip;clear hHeld;refine hK.out _ _ (KS.out _ BW.out) (fun hHeld=>?_);clear hK K;refine tk 8 ?_;refine tf 9 ?_;refine tf 10 ?_;refine tf 11 ?_;refine tf 12 ?_;refine tf 13 ?_;refine tf 14 ?_;refine tf 15 ?_;refine tf 16 ?_;refine tf 17 ?_;refine tf 18 ?_;refine tf 19 ?_;exact ze
 | true=>
  have HP:=Hi eP
  cases eQ:cR S.wr n k with
  | true=>
   obtain rfl:RR=false:=by rw[HM.out,eP,eQ];rfl
   clear HM
   have CA:Hid (∀w1,Below _ W w1->Calls _ 91 _ w1 fun e w'=>∃b3 o3 c3,e=rt (J (M ⟨b3,o3,Q⟩) sh c3)/\w'.cell? ⟨b3,o3+k,Q⟩=M _/\Below _ w1 w'):=fun w1 hb=>by
    exact yh
   obtain⟨b6,o6,b7,o7,c7,e6,_,_,z6,z7⟩:=HS.out.wr.rows hF.wr hF.wn h0 n hn;have z7:=z7 k hk;rw[eQ]at z7;rw[e6,hF.wr]at q2;have KS:Hid (∀w',Below _ W w'->w'.cell? _=M _/\w'.cell? _=M _/\w'.cell? _=M _/\w'.cell? _=M _/\w'.cell? _=M _/\w'.cell? _=M _/\w'.cell? _=M _/\Hid _):=fun w' hb=>⟨aB hb p0,aB hb p1,aB hb q2,aB hb r1,aB hb r2,aB hb z6,aB hb z7,hb⟩
   clear HP HS HL hF hp KEEP h8 h4 h0 p0 p1 q0 q1 q2 q3 r0 r1 r2 z6 z7 e6;refine wp_region_held_drew (S:=(fun w'=>w'.cell? ⟨w.heap.size,0,Q⟩=Y I sh/\w'.cell? ⟨w.heap.size,1,Q⟩=J la l.length lc/\w'.cell? ⟨w.heap.size+1,2,Q⟩=J (M ⟨b6,o6,Q⟩) l.length tc/\w'.cell? ⟨w.heap.size+2,1,Q⟩=Y I n/\w'.cell? ⟨w.heap.size+2,2,Q⟩=Y I k/\w'.cell? ⟨b6,o6+n,Q⟩=J (M ⟨b7,o7,Q⟩) sh c7/\w'.cell? ⟨b7,o7+k,Q⟩=bo true/\Hid (Below W.heap.size W w'))) kr ?_ (fun hHeld=>?_)
   ·exact vt
   refine tk 0 ?_;refine tk 1 ?_;refine tk 2 ?_;refine tk 4 ?_;refine tk 5 ?_;refine r1 3 (fun K hK=>?_);go_simp
   go_wp2_with (go_at_call 91;refine(CA.out _ (aD br)).mono ?_;rintro e w1 ⟨b3,o3,c3,rfl,d3,hb1⟩)
   have BW:=Hi (aC (aD br) hb1);clear hHeld;refine hK.out _ _ (KS.out _ BW.out) (fun hHeld=>?_);clear hK K;refine tk 6 ?_;refine r1 7 (fun K hK=>?_);go_simp;skip;clear hHeld;refine hK.out _ _ (KS.out _ BW.out) (fun hHeld=>?_);clear hK K;refine tk 8 ?_;refine tk 9 ?_;refine tk 10 ?_;refine tk 11 ?_;refine tk 12 ?_;refine tk 13 ?_;refine tk 14 ?_;refine tk 15 ?_;refine tk 16 ?_;refine tk 17 ?_;refine tk 18 ?_;refine tk 19 ?_;exact ze
  | false=>
   have HRR:Hid (RR=dT sh l S n):=by show _=_;rw[HM.out,eP,eQ];rfl
   clear HM
   have CA:Hid (∀w1,Below _ W w1->Calls _ 91 _ w1 fun e w'=>∃b3 o3 c3,e=rt (J (M ⟨b3,o3,Q⟩) sh c3)/\w'.cell? ⟨b3,o3+k,Q⟩=M _/\Below _ w1 w'):=fun w1 hb=>by
    exact yh
   obtain⟨b6,o6,b7,o7,c7,e6,_,_,z6,z7⟩:=HS.out.wr.rows hF.wr hF.wn h0 n hn;have z7:=z7 k hk;rw[eQ]at z7;rw[e6,hF.wr]at q2;have KS:Hid (∀w',Below W.heap.size W w'->w'.cell? _=M _/\w'.cell? _=M _/\w'.cell? _=M _/\w'.cell? _=M _/\w'.cell? _=M _/\w'.cell? _=M _/\w'.cell? _=M _/\w'.cell? _=M _/\w'.cell? _=M _/\w'.cell? _=bo false/\Hid _):=fun w' hb=>⟨aB hb p0,aB hb p1,aB hb q0,aB hb q1,aB hb q2,aB hb q3,aB hb r1,aB hb r2,aB hb z6,aB hb z7,hb⟩
   have CR:Hid (∀w1,Below _ W w1->Calls _ 128 _ w1 fun e w'=>e=rt (bo RR)/\Below _ w1 w'):=fun w1 hb=>by
    rw[HRR.out];have h:=xZ la lc l sa ra wa va sc rc tc vc S sh n w1 (HL.out.below hb) (HS.out.below hb) (hp n hn) hF hn h8 h0 h4;rw[e6,hF.wr]at h;exact h
   clear HP HS HL hF hp KEEP h8 h4 h0 p0 p1 q0 q1 q2 q3 r0 r1 r2 z6 z7 e6;clear HRR;refine wp_region_held_drew (S:=(fun w'=>w'.cell? ⟨w.heap.size,0,Q⟩=Y I sh/\w'.cell? ⟨w.heap.size,1,Q⟩=J la l.length lc/\w'.cell? ⟨w.heap.size+1,0,Q⟩=J sa S.st.length sc/\w'.cell? ⟨w.heap.size+1,1,Q⟩=J ra S.rd.length rc/\w'.cell? ⟨w.heap.size+1,2,Q⟩=J (M ⟨b6,o6,Q⟩) l.length tc/\w'.cell? ⟨w.heap.size+1,3,Q⟩=J va S.vs.length vc/\w'.cell? ⟨w.heap.size+2,1,Q⟩=Y I n/\w'.cell? ⟨w.heap.size+2,2,Q⟩=Y I k/\w'.cell? ⟨b6,o6+n,Q⟩=J (M ⟨b7,o7,Q⟩) sh c7/\w'.cell? ⟨b7,o7+k,Q⟩=bo false/\Hid (Below W.heap.size W w'))) kr ?_ (fun hHeld=>?_)
   ·exact vt
   refine tk 0 ?_;refine tk 1 ?_;refine tk 2 ?_;refine tk 4 ?_;refine tk 5 ?_;refine r1 3 (fun K hK=>?_);go_simp
   go_wp2_with (go_at_call 91;refine(CA.out _ (aD br)).mono ?_;rintro e w1 ⟨b3,o3,c3,rfl,d3,hb1⟩)
   have BW:=Hi (aC (aD br) hb1);clear hHeld;refine hK.out _ _ (KS.out _ BW.out) (fun hHeld=>?_);clear hK K;refine tk 6 ?_;refine r1 7 (fun K hK=>?_);go_simp;skip;clear hHeld;refine hK.out _ _ (KS.out _ BW.out) (fun hHeld=>?_);clear hK K;refine tk 8 ?_;refine tk 9 ?_;refine tk 10 ?_;refine tk 11 ?_;refine tk 12 ?_;refine tk 13 ?_;refine tk 14 ?_;refine tk 15 ?_;refine tk 16 ?_;refine tk 17 ?_;refine tk 18 ?_;refine tk 19 ?_;refine tk 20 ?_;refine tk 21 ?_;refine tk 22 ?_;refine tk 23 ?_;refine tk 24 ?_;refine tk 25 ?_;refine r1 26 (fun K hK=>?_);go_simp
   go_wp2_with (go_at_call 128;refine(CR.out _ BW.out).mono ?_;rintro e w2 ⟨rfl,hb2⟩)
   have BW2:=Hi (aC BW.out hb2);clear hHeld;refine hK.out _ _ (KS.out _ BW2.out) (fun hHeld=>?_);clear hK K;refine tk 27 ?_;refine tk 28 ?_;refine wpAnyH_done kr ?_ _;go_wp2;go_ret;exact⟨rfl,aC hW.out BW2.out⟩
theorem uQ (sh n k:Nat) (w:World) (hl:IsTxs w la l) (hs:Sta w sa ra wa va S) (hp:∀a,a<l.length->yO sh l a=0) (hF:Form sh l S) (hn:n<l.length) (h8:l.length<=8) (hk:k<sh) (h4:sh<=4) :
  Kr 92 #[ag #[Y I sh,J la l.length lc],ag #[J sa S.st.length sc,J ra S.rd.length rc,J wa S.wr.length tc,J va S.vs.length vc],ag #[Y I 1,Y I n,Y I k]] w (bo (eD sh l S 1 n k)):=by
 have h0:0<sh:=om;obtain⟨W,hWe⟩:=nm ((((w.alloc (U #[Y I sh,J la l.length lc] 29)).alloc (U #[J sa S.st.length sc,J ra S.rd.length rc,J wa S.wr.length tc,J va S.vs.length vc] 45)).alloc (U #[Y I 1,Y I n,Y I k] 33)));have hW:Hid (Below w.heap.size w W):=by subst hWe;exact(aA (aA (aA br _) _) _)
 have p0:W.cell? ⟨w.heap.size,0,Q⟩=Y I sh:=by subst hWe;exact aB (aA (aA br _) _) (aF _ _ 29 _ 0 _ (by first | rfl | simp) rfl)
 have p1:W.cell? ⟨w.heap.size,1,Q⟩=J la l.length lc:=by subst hWe;exact aB (aA (aA br _) _) (aF _ _ 29 _ 1 _ (by first | rfl | simp) rfl)
 have q0:W.cell? ⟨w.heap.size+1,0,Q⟩=J sa S.st.length sc:=by subst hWe;exact aB (aA br _) (aF _ _ 45 _ 0 _ (by first | rfl | simp) rfl)
 have q1:W.cell? ⟨w.heap.size+1,1,Q⟩=J ra S.rd.length rc:=by subst hWe;exact aB (aA br _) (aF _ _ 45 _ 1 _ (by first | rfl | simp) rfl)
 have q2:W.cell? ⟨w.heap.size+1,2,Q⟩=J wa S.wr.length tc:=by subst hWe;exact aB (aA br _) (aF _ _ 45 _ 2 _ (by first | rfl | simp) rfl)
 have q3:W.cell? ⟨w.heap.size+1,3,Q⟩=J va S.vs.length vc:=by subst hWe;exact aB (aA br _) (aF _ _ 45 _ 3 _ (by first | rfl | simp) rfl)
 have r0:W.cell? ⟨w.heap.size+2,0,Q⟩=Y I 1:=by subst hWe;exact aB br (aF _ _ 33 _ 0 _ (by first | rfl | simp) rfl)
 have r1:W.cell? ⟨w.heap.size+2,1,Q⟩=Y I n:=by subst hWe;exact aB br (aF _ _ 33 _ 1 _ (by first | rfl | simp) rfl)
 have r2:W.cell? ⟨w.heap.size+2,2,Q⟩=Y I k:=by subst hWe;exact aB br (aF _ _ 33 _ 2 _ (by first | rfl | simp) rfl)
 have KEEP:Hid (∀w',Below W.heap.size W w'->w'.cell? ⟨w.heap.size,0,Q⟩=Y I sh/\w'.cell? ⟨w.heap.size,1,Q⟩=J la l.length lc/\w'.cell? ⟨w.heap.size+1,0,Q⟩=J sa S.st.length sc/\w'.cell? ⟨w.heap.size+1,1,Q⟩=J ra S.rd.length rc/\w'.cell? ⟨w.heap.size+1,2,Q⟩=J wa S.wr.length tc/\w'.cell? ⟨w.heap.size+1,3,Q⟩=J va S.vs.length vc/\w'.cell? ⟨w.heap.size+2,0,Q⟩=Y I 1/\w'.cell? ⟨w.heap.size+2,1,Q⟩=Y I n/\w'.cell? ⟨w.heap.size+2,2,Q⟩=Y I k):=fun w' hb=>⟨aB hb p0,aB hb p1,aB hb q0,aB hb q1,aB hb q2,aB hb q3,aB hb r0,aB hb r1,aB hb r2⟩
 have HS:=Hi (hs.below hW.out);have HL:=Hi (hl.below hW.out);have HM:Hid (eD sh l S 1 n k=(iF sh _ k && !cR S.rd n k && !mB sh l S n k)):=rfl;generalize eD sh l S 1 n k=RR at *;clear hl hs p0 p1 q0 q1 q2 q3 r0 r1 r2;have HWe:Hid (W=_):=hWe;clear hWe;go_enter func92,ntmps92
 go_upto_region 1 with fail
 rw[<-HWe.out];clear HWe;obtain⟨p0,p1,q0,q1,q2,q3,r0,r1,r2⟩:=KEEP.out W br
 go_upto_region 3 with fail
 cases eP:iF sh (gX l n) k with
 | false=>
  have HP:=Hi eP;obtain rfl:RR=false:=by rw[HM.out,eP];rfl
  clear HM
  have CA:Hid (∀w1,Below _ W w1->Calls _ 90 _ w1 fun e w'=>∃b3 o3 c3,e=rt (J (M ⟨b3,o3,Q⟩) sh c3)/\w'.cell? ⟨b3,o3+k,Q⟩=M _/\Below _ w1 w'):=fun w1 hb=>by
   exact Uy
  have KS:Hid (∀w',Below _ W w'->w'.cell? _=M _/\w'.cell? _=M _/\w'.cell? _=M _/\w'.cell? _=M _/\Hid _):=fun w' hb=>⟨aB hb p0,aB hb p1,aB hb r1,aB hb r2,hb⟩
  clear HP HS HL hF hp KEEP h8 h4 h0 p0 p1 q0 q1 q2 q3 r0 r1 r2;refine wp_region_held_drew (S:=(fun w'=>w'.cell? ⟨w.heap.size,0,Q⟩=Y I sh/\w'.cell? ⟨w.heap.size,1,Q⟩=J la l.length lc/\w'.cell? ⟨w.heap.size+2,1,Q⟩=Y I n/\w'.cell? ⟨w.heap.size+2,2,Q⟩=Y I k/\Hid (Below W.heap.size W w'))) kr ?_ (fun hHeld=>?_)
  ·exact vt
  refine tk 0 ?_;refine tk 1 ?_;refine tk 2 ?_;refine tk 4 ?_;refine tk 5 ?_;refine r1 3 (fun K hK=>?_);go_simp
  go_wp2_with (go_at_call 90;refine(CA.out _ (aD br)).mono ?_;rintro e w1 ⟨b3,o3,c3,rfl,d3,hb1⟩)
  have BW:=Hi (aC (aD br) hb1);clear hHeld;refine hK.out _ _ (KS.out _ BW.out) (fun hHeld=>?_);clear hK K;refine tk 6 ?_;refine r1 7 (fun K hK=>?_);go_simp;skip;clear hHeld;refine hK.out _ _ (KS.out _ BW.out) (fun hHeld=>?_);clear hK K;refine tk 8 ?_;refine tk 9 ?_;refine tf 10 ?_;refine tf 11 ?_;refine tf 12 ?_;refine tf 13 ?_;refine tf 14 ?_;refine tf 15 ?_;refine tf 16 ?_;refine tf 17 ?_;refine tf 18 ?_;refine tf 19 ?_;refine tk 20 ?_;exact VY
 | true=>
  have HP:=Hi eP;obtain⟨Qq,eQ⟩:∃Qq,cR S.rd n k=Qq:=⟨_,rfl⟩;have HM2:Hid (RR=(!Qq && !mB sh l S n k)):=by show _=_;rw[HM.out,eP,eQ];rfl
  clear HM
  have CA:Hid (∀w1,Below _ W w1->Calls _ 90 _ w1 fun e w'=>∃b3 o3 c3,e=rt (J (M ⟨b3,o3,Q⟩) sh c3)/\w'.cell? ⟨b3,o3+k,Q⟩=M _/\Below _ w1 w'):=fun w1 hb=>by
   exact Uy
  obtain⟨b6,o6,b7,o7,c7,e6,_,_,z6,z7⟩:=HS.out.rd.rows hF.rd hF.rn h0 n hn;have z7:=z7 k hk;rw[eQ]at z7;rw[e6,hF.rd]at q1;have KS:Hid (∀w',Below _ W w'->w'.cell? _=M _/\w'.cell? _=M _/\w'.cell? _=M _/\w'.cell? _=M _/\w'.cell? _=M _/\w'.cell? _=M _/\w'.cell? _=bo Qq/\Hid _):=fun w' hb=>⟨aB hb p0,aB hb p1,aB hb q1,aB hb r1,aB hb r2,aB hb z6,aB hb z7,hb⟩
  have RES:Hid (∀w1,Below _ W w1->Below _ w w1):=fun w1 hb=>aC hW.out hb
  go_cut [59] (fun u wx=>u=bo Qq/\Hid (Below W.heap.size W wx))
  case first=>
   clear HP HS HL hF hp KEEP h8 h4 h0 p0 p1 q0 q1 q2 q3 r0 r1 r2 z6 z7 e6;refine wp_region_held_drew (S:=(fun w'=>w'.cell? ⟨w.heap.size,0,Q⟩=Y I sh/\w'.cell? ⟨w.heap.size,1,Q⟩=J la l.length lc/\w'.cell? ⟨w.heap.size+1,1,Q⟩=J (M ⟨b6,o6,Q⟩) l.length rc/\w'.cell? ⟨w.heap.size+2,1,Q⟩=Y I n/\w'.cell? ⟨w.heap.size+2,2,Q⟩=Y I k/\w'.cell? ⟨b6,o6+n,Q⟩=J (M ⟨b7,o7,Q⟩) sh c7/\w'.cell? ⟨b7,o7+k,Q⟩=bo Qq/\Hid (Below W.heap.size W w'))) kr ?_ (fun hHeld=>?_)
   ·exact vt
   refine tk 0 ?_;refine tk 1 ?_;refine tk 2 ?_;refine tk 4 ?_;refine tk 5 ?_;refine r1 3 (fun K hK=>?_);go_simp
   go_wp2_with (go_at_call 90;refine(CA.out _ (aD br)).mono ?_;rintro e w1 ⟨b3,o3,c3,rfl,d3,hb1⟩)
   have BW:=Hi (aC (aD br) hb1);clear hHeld;refine hK.out _ _ (KS.out _ BW.out) (fun hHeld=>?_);clear hK K;refine tk 6 ?_;refine r1 7 (fun K hK=>?_);go_simp;skip;clear hHeld;refine hK.out _ _ (KS.out _ BW.out) (fun hHeld=>?_);clear hK K;refine tk 8 ?_;refine tk 9 ?_;refine tk 10 ?_;refine tk 11 ?_;refine tk 12 ?_;refine tk 13 ?_;refine tk 14 ?_;refine tk 15 ?_;refine tk 16 ?_;refine tk 17 ?_;refine tk 18 ?_;refine tk 19 ?_;refine tk 20 ?_;refine wpAnyH_done kr ?_ _
   go_wp2_with fail
   go_meet;exact⟨rfl,BW⟩
  case rest=>
   obtain⟨rfl,hbc⟩:=hcut;obtain⟨V,hren⟩:=nm (wc);subst hren;have BV:=hbc;clear hbc KS CA p0 p1 q0 q1 q2 q3 r0 r1 r2 z6 z7 e6
   cases Qq with
   | true=>
    obtain rfl:RR=false:=HM2.out;have BF:=Hi (RES.out V BV.out);exact U8
   | false=>
    have CG:Hid (∀a,a<n->∀w1,Below _ W w1->Calls _ 94 _ w1 fun e w'=>e=rt _/\Below _ w1 w'):=fun a ha w1 hb=>uR la lc l sa ra wa va sc rc tc vc S sh a k w1 (HL.out.below hb) (HS.out.below hb) (hp a om) hF om hk h4
    have CL:Hid (∀a,a<n->∀w1,Below W.heap.size W w1->∃b off,la=M _/\w1.cell? _=M _/\w1.cell? _=M _/\w1.cell? _=M _/\w1.cell? _=M _/\w1.cell? _=M _/\w1.cell? _=M _/\∀w2,Below w1.heap.size w1 w2->Kr 131 #[ag #[J (l.getD a x0).ra (l.getD a x0).rs.length (l.getD a x0).rc,J (l.getD a x0).ga (l.getD a x0).gs.length (l.getD a x0).gc,J (l.getD a x0).sa (l.getD a x0).ss.length (l.getD a x0).sc],ag #[J (l.getD n x0).ra (l.getD n x0).rs.length (l.getD n x0).rc,J (l.getD n x0).ga (l.getD n x0).gs.length (l.getD n x0).gc,J (l.getD n x0).sa (l.getD n x0).ss.length (l.getD n x0).sc],Y I sh,Y I k] w2 (bo (yR sh (gX l a) (gX l n) k))):=fun a ha w1 hb=>by
     obtain⟨b,off,e1,_,c0,c1,c2,hx⟩:=(HL.out.below hb) a om;obtain⟨b',off',e2,_,d0,d1,d2,hy⟩:=(HL.out.below hb) n hn;rw[e1]at e2
     cases e2
     exact⟨b,off,e1,c0,c1,c2,d0,d1,d2,fun w2 hb2=>docClash_sh _ _ sh k h0 h4 w2 (hx.below hb2) (hy.below hb2)⟩
    have hn8:n<8:=om
    have HB:Hid (∀a,lW sh l S n k (a+1)=(lW sh l S n k a || (!bM sh l S a k && yR sh (gX l a) (gX l n) k))):=fun a=>by
     show _=_;unfold lW;rw[wu,List.any_append];simp
    have HBS:Hid (∀a,a<n->_=true->mB sh l S n k=true):=fun a ha h=>by
     unfold mB lW;rw[wm];exact⟨a,List.mem_range.2 ha,h⟩
    have HBE:Hid (lW sh l S n k n=false->mB sh l S n k=false):=fun h=>h
    clear HS HL hp hF HP;generalize mB sh l S n k=R at *;have HM3:Hid (RR = !R):=HM2.out;clear HM2;go_wp2
    go_loopw [7] (fun i wr=>∃a:Nat,a<=n/\i=Y I a/\Hid (lW sh l S n k a=false)/\Hid (Below W.heap.size W wr)) (fun i _=>n - (intOf i).toNat)
    case atStart=>exact⟨0,nz,rfl,rfl,BV⟩
    case round=>
     clear BV;obtain⟨a,ha,rfl,hT,BV⟩:=hrel;obtain⟨p0,p1,q0,q1,q2,q3,r0,r1,r2⟩:=KEEP.out wr BV.out;by_cases hlt:a<n
     ·have i1:(a:Int)<(n:Int):=om;have hal:=Nat.lt_trans hlt hn;have hst:=HB.out a;have hsp:=HBS.out a hlt;rw[hT.out,Bool.false_or]at hst;have CG1:=CG.out a hlt;obtain⟨tb,tof,eTl,c0,c1,c2,d0,d1,d2,CL1⟩:=CL.out a hlt wr BV.out;subst eTl;have CLH:=Hi CL1;have CGH:=Hi (fun w1 hb=>CG1 w1 (aC BV.out hb));have HST:=Hi hst;have HSP:=Hi hsp;clear CL1 CG1 hst hsp CG CL HB HBS HBE hT KEEP;generalize bM sh l S a k=G at *;generalize yR sh (gX l a) (gX l n) k=C at *;generalize hxa:l.getD a x0=xa at *;generalize hxn:l.getD n x0=xn at *
      go_upto_region 8 with fail
      have KS:Hid (∀w',Below wr.heap.size wr w'->w'.cell? _=Y I sh/\w'.cell? ⟨w.heap.size,1,Q⟩=M _/\w'.cell? _=J sa S.st.length sc/\w'.cell? _=M _/\w'.cell? _=J wa S.wr.length tc/\w'.cell? _=M _/\w'.cell? _=Y I n/\w'.cell? _=Y I k/\w'.cell? _=M _/\w'.cell? _=M _/\w'.cell? _=M _/\w'.cell? _=M _/\w'.cell? _=M _/\w'.cell? _=M _/\Hid (Below wr.heap.size wr w')):=fun w' hb=>⟨aB hb p0,aB hb p1,aB hb q0,aB hb q1,aB hb q2,aB hb q3,aB hb r1,aB hb r2,aB hb c0,aB hb c1,aB hb c2,aB hb d0,aB hb d1,aB hb d2,hb⟩
      have RES2:Hid (∀w1,Below _ wr w1->Below _ W w1):=fun w1 hb=>aC BV.out hb
      clear p0 p1 q0 q1 q2 q3 r0 r1 r2 c0 c1 c2 d0 d1 d2 BV
      cases G with
      | true=>
       refine wp_region_held_drew (S:=(fun w'=>w'.cell? ⟨w.heap.size,0,Q⟩=Y I sh/\w'.cell? ⟨w.heap.size,1,Q⟩=J (M ⟨tb,tof,Q⟩) l.length lc/\w'.cell? ⟨w.heap.size+1,0,Q⟩=J sa S.st.length sc/\w'.cell? ⟨w.heap.size+1,1,Q⟩=J ra S.rd.length rc/\w'.cell? ⟨w.heap.size+1,2,Q⟩=J wa S.wr.length tc/\w'.cell? ⟨w.heap.size+1,3,Q⟩=J va S.vs.length vc/\w'.cell? ⟨w.heap.size+2,1,Q⟩=Y I n/\w'.cell? ⟨w.heap.size+2,2,Q⟩=Y I k/\w'.cell? ⟨tb,tof+a*3,Q⟩=J xa.ra xa.rs.length xa.rc/\w'.cell? ⟨tb,tof+a*3+1,Q⟩=J xa.ga xa.gs.length xa.gc/\w'.cell? ⟨tb,tof+a*3+2,Q⟩=J xa.sa xa.ss.length xa.sc/\w'.cell? ⟨tb,tof+n*3,Q⟩=J xn.ra xn.rs.length xn.rc/\w'.cell? ⟨tb,tof+n*3+1,Q⟩=J xn.ga xn.gs.length xn.gc/\w'.cell? ⟨tb,tof+n*3+2,Q⟩=J xn.sa xn.ss.length xn.sc/\Hid (Below wr.heap.size wr w'))) kr ?_ (fun hHeld=>?_)
       ·exact vt
       refine tk 0 ?_;refine tk 1 ?_;refine tk 2 ?_;refine tk 3 ?_;refine tk 4 ?_;refine r1 5 (fun K hK=>?_);go_simp
       go_wp2_with (go_at_call 94;refine(CGH.out _ (aD br)).mono ?_;rintro e w1 ⟨rfl,hb1⟩)
       have BW:=Hi (aC (aD br) hb1);clear hHeld;refine hK.out _ _ (KS.out _ BW.out) (fun hHeld=>?_);clear hK K;refine tk 6 ?_;refine tk 7 ?_;refine tf 8 ?_;refine tf 9 ?_;refine tf 10 ?_;refine tf 11 ?_;refine tf 12 ?_;refine tf 13 ?_;refine tf 14 ?_;refine tf 15 ?_;refine tf 16 ?_;refine tf 17 ?_;refine tf 18 ?_;refine tf 19 ?_;refine tf 20 ?_;refine tf 21 ?_;refine tf 22 ?_;refine tf 23 ?_;refine tk 24 ?_;refine wpAnyH_done kr ?_ _;have B1:=Hi (RES2.out _ BW.out);go_wp2;go_roundw
       case rel=>exact⟨a+1,by omega,by go_num,by show _=_;rw[HST.out];rfl,B1⟩
       case measure=>simp[intOf];omega
      | false=>
       go_region_held3 (fun w'=>w'.cell? ⟨w.heap.size,0,Q⟩=Y I sh/\w'.cell? ⟨w.heap.size,1,Q⟩=J (M ⟨tb,tof,Q⟩) l.length lc/\w'.cell? ⟨w.heap.size+1,0,Q⟩=J sa S.st.length sc/\w'.cell? ⟨w.heap.size+1,1,Q⟩=J ra S.rd.length rc/\w'.cell? ⟨w.heap.size+1,2,Q⟩=J wa S.wr.length tc/\w'.cell? ⟨w.heap.size+1,3,Q⟩=J va S.vs.length vc/\w'.cell? ⟨w.heap.size+2,1,Q⟩=Y I n/\w'.cell? ⟨w.heap.size+2,2,Q⟩=Y I k/\w'.cell? ⟨tb,tof+a*3,Q⟩=J xa.ra xa.rs.length xa.rc/\w'.cell? ⟨tb,tof+a*3+1,Q⟩=J xa.ga xa.gs.length xa.gc/\w'.cell? ⟨tb,tof+a*3+2,Q⟩=J xa.sa xa.ss.length xa.sc/\w'.cell? ⟨tb,tof+n*3,Q⟩=J xn.ra xn.rs.length xn.rc/\w'.cell? ⟨tb,tof+n*3+1,Q⟩=J xn.ga xn.gs.length xn.gc/\w'.cell? ⟨tb,tof+n*3+2,Q⟩=J xn.sa xn.ss.length xn.sc/\Hid (Below wr.heap.size wr w')) ((refine KS.out _ ?_;go_split_ands;repeat (first | assumption | exact br | exact Hid.out (by assumption) | refine aD ?_ | refine aA ?_ _ | refine aC ?_ (by assumption))))
        (first
         | (go_at_call 94;refine(CGH.out _ ?_).mono ?_;(go_split_ands;repeat (first | assumption | exact br | exact Hid.out (by assumption) | refine aD ?_ | refine aA ?_ _ | refine aC ?_ (by assumption)));rintro e w1 ⟨rfl,hb1⟩)
         | (go_at_call 131;refine(CLH.out _ ?_).mono ?_;(go_split_ands;repeat (first | assumption | exact br | exact Hid.out (by assumption) | refine aD ?_ | refine aA ?_ _ | refine aC ?_ (by assumption)));rintro e w2 ⟨rfl,hb2⟩))
       all_goals (
        go_split_ands;have B2:=Hi (RES2.out _ (Hid.out (by assumption)));clear RES2 KS CGH CLH
        cases C with
        | true=>
         obtain rfl:RR=false:=by rw[HM3.out,HSP.out rfl];rfl
         have BF:=Hi (RES.out _ B2.out);exact U8
        | false=>
         go_wp2;go_roundw
         case rel=>exact⟨a+1,by omega,by go_num,by show _=_;rw[HST.out];rfl,B2⟩
         case measure=>simp[intOf];omega)
     ·have hE:a=n:=om;subst hE;obtain rfl:RR=true:=by rw[HM3.out,HBE.out hT.out];rfl
      have BF:=Hi (RES.out _ BV.out);have i1:¬(a:Int)<(a:Int):=om;exact U8
end
section
def lC (sh:Nat) (l:List TxA) (S:SA) (kd:Nat):List (Nat×Nat×Nat):=if kd=1 then [] else if kd=2 then mT sh l S 1 else dF sh l S
theorem canP_step (sh:Nat) (l:List TxA) (S:SA) (h:kd=1∨kd=2):lC sh l S (kd+1)=lC sh l S kd++eX sh l S kd l.length:=by
 rcases h with rfl | rfl <;> rfl
theorem canP_len (sh:Nat) (l:List TxA) (S:SA) (h:kd=1∨kd=2):(lC sh l S kd).length<=l.length*sh:=by
 rcases h with rfl | rfl
 ·exact nz
 ·exact jV sh l S 1 l.length
variable (la:Option Addr) (lc:Nat) (l:List TxA) (sa ra wa va:Option Addr) (sc rc tc vc:Nat) (S:SA)
theorem docMay_any (sh kd n k:Nat) (w:World) (hl:IsTxs w la l) (hs:Sta w sa ra wa va S) (hp:∀a,a<l.length->yO sh l a=0) (hF:Form sh l S) (hkd:kd=1∨kd=2) (hn:n<l.length) (h8:l.length<=8) (hk:k<sh) (h4:sh<=4) :
  Kr 92 #[ag #[Y I sh,J la l.length lc],ag #[J sa S.st.length sc,J ra S.rd.length rc,J wa S.wr.length tc,J va S.vs.length vc],ag #[Y I kd,Y I n,Y I k]] w (bo (eD sh l S kd n k)):=by
 rcases hkd with rfl | rfl
 ·exact uQ la lc l sa ra wa va sc rc tc vc S sh n k w hl hs hp hF hn h8 hk h4
 ·exact rY la lc l sa ra wa va sc rc tc vc S sh n k w hl hs hp hF hn h8 hk h4
theorem docCan_any (sh:Nat) (w:World) (hl:IsTxs w la l) (hs:Sta w sa ra wa va S) (hp:∀a,a<l.length->yO sh l a=0) (hF:Form sh l S) (h8:l.length<=8) (h4:sh<=4) :
  Calls prog 57 #[ag #[Y I sh,J la l.length lc],ag #[J sa S.st.length sc,J ra S.rd.length rc,J wa S.wr.length tc,J va S.vs.length vc]] w fun e w'=>∃a c,e=rt (J a (dF sh l S).length c)/\IsSteps w' a (dF sh l S)/\Below w.heap.size w w':=by
 obtain⟨i0,hi,hz0,hz1,hz2⟩:=info_parts info33;obtain⟨W,hWe⟩:=nm (((w.alloc (U #[Y I sh,J la l.length lc] 29)).alloc (U #[J sa S.st.length sc,J ra S.rd.length rc,J wa S.wr.length tc,J va S.vs.length vc] 45)));have hW:Hid (Below w.heap.size w W):=by subst hWe;exact(aA (aA br _) _)
 have p0:W.cell? ⟨w.heap.size,0,Q⟩=Y I sh:=by subst hWe;exact aB (aA br _) (aF _ _ 29 _ 0 _ (by first | rfl | simp) rfl)
 have p1:W.cell? ⟨w.heap.size,1,Q⟩=J la l.length lc:=by subst hWe;exact aB (aA br _) (aF _ _ 29 _ 1 _ (by first | rfl | simp) rfl)
 have q0:W.cell? ⟨w.heap.size+1,0,Q⟩=J sa S.st.length sc:=by subst hWe;exact aB br (aF _ _ 45 _ 0 _ (by first | rfl | simp) rfl)
 have q1:W.cell? ⟨w.heap.size+1,1,Q⟩=J ra S.rd.length rc:=by subst hWe;exact aB br (aF _ _ 45 _ 1 _ (by first | rfl | simp) rfl)
 have q2:W.cell? ⟨w.heap.size+1,2,Q⟩=J wa S.wr.length tc:=by subst hWe;exact aB br (aF _ _ 45 _ 2 _ (by first | rfl | simp) rfl)
 have q3:W.cell? ⟨w.heap.size+1,3,Q⟩=J va S.vs.length vc:=by subst hWe;exact aB br (aF _ _ 45 _ 3 _ (by first | rfl | simp) rfl)
 have KEEP:Hid (∀w',Below W.heap.size W w'->w'.cell? ⟨w.heap.size,0,Q⟩=Y I sh/\w'.cell? ⟨w.heap.size,1,Q⟩=J la l.length lc/\w'.cell? ⟨w.heap.size+1,0,Q⟩=J sa S.st.length sc/\w'.cell? ⟨w.heap.size+1,1,Q⟩=J ra S.rd.length rc/\w'.cell? ⟨w.heap.size+1,2,Q⟩=J wa S.wr.length tc/\w'.cell? ⟨w.heap.size+1,3,Q⟩=J va S.vs.length vc):=fun w' hb=>⟨aB hb p0,aB hb p1,aB hb q0,aB hb q1,aB hb q2,aB hb q3⟩
 have CM:=Hi (fun kd n k hkd hn hk w' hb=>docMay_any la lc l sa ra wa va sc rc tc vc S sh kd n k w' ((hl.below hW.out).below hb) ((hs.below hW.out).below hb) hp hF hkd hn h8 hk h4);clear hl hs hp hF p0 p1 q0 q1 q2 q3;have HWe:Hid (W=_):=hWe;clear hWe;go_enter func57,ntmps57
 go_upto_region 1 with fail
 rw[<-HWe.out];clear HWe;go_wp2
 go_loopw [5,6] (fun v i wr=>∃kd:Nat,1<=kd/\kd<=3/\i=Y I kd/\Hid (wr.ownsRow W.heap.size 33 3 v (lC sh l S kd).length (bF (lC sh l S kd)))/\Hid (Below W.heap.size W wr)) (fun _ i _=>3 - (intOf i).toNat)
 case atStart=>exact⟨1,nr,by omega,rfl,n8 _ _ _ _,br⟩
 case round=>
  obtain⟨kd,hk1,hk3,rfl,hown,hB⟩:=hrel;by_cases hlt:kd<=2
  ·have hkd:kd=1∨kd=2:=om;have hPL:=canP_len sh l S hkd;have HPS:=Hi (canP_step sh l S hkd);have i1:(kd:Int)<=2:=om
   have ho0:Hid (letI Z:=lC sh l S kd++eX sh l S kd 0;wr.ownsRow W.heap.size 33 3 u5 Z.length (bF Z)):=by
    have e:eX sh l S kd 0=[]:=rfl;rw[e,ke];exact hown.out
   clear hown;go_wp2
   go_loopw [5,7] (fun v i wq=>∃n:Nat,n<=l.length/\i=Y I n/\Hid (wq.ownsRow W.heap.size 33 3 v (lC sh l S kd++eX sh l S kd n).length (bF (lC sh l S kd++eX sh l S kd n)))/\Hid (Below W.heap.size W wq)) (fun _ i _=>l.length - (intOf i).toNat)
   case atStart=>exact⟨0,nz,rfl,ho0,hB⟩
   case round=>
    clear ho0 hB;obtain⟨n,hn,rfl,hown,hB⟩:=hrel;obtain⟨p0,p1,q0,q1,q2,q3⟩:=KEEP.out wr hB.out;by_cases hltn:n<l.length
    ·have i2:(n:Int)<(l.length:Int):=om
     have ho0:Hid (letI Z:=lC sh l S kd++eX sh l S kd n++fE sh l S kd n 0;wr.ownsRow W.heap.size 33 3 u5 Z.length (bF Z)):=by
      have e:fE sh l S kd n 0=[]:=rfl;rw[e,ke];exact hown.out
     clear hown;go_wp2;clear p0 p1 q0 q1 q2 q3
     go_loopw [5,8] (fun v i wq=>∃k:Nat,k<=sh/\i=Y I k/\Hid (wq.ownsRow W.heap.size 33 3 v (lC sh l S kd++eX sh l S kd n++fE sh l S kd n k).length (bF (lC sh l S kd++eX sh l S kd n++fE sh l S kd n k)))/\Hid (Below W.heap.size W wq)) (fun _ i _=>sh - (intOf i).toNat)
     case atStart=>exact⟨0,nz,rfl,ho0,hB⟩
     case round=>
      clear ho0 hB;obtain⟨k,hk,rfl,hown,hB⟩:=hrel;obtain⟨p0,p1,q0,q1,q2,q3⟩:=KEEP.out wr hB.out;by_cases hltk:k<sh
      ·have HS:=Hi (aBr sh l S kd n k);have CM1:=Hi (CM.out kd n k hkd hltn hltk)
       have hlen:(lC sh l S kd++eX sh l S kd n++fE sh l S kd n k).length<=100:=by
        have h1:=jV sh l S kd n;have h2:=yJ sh l S kd n k;have h3:n*sh<=8*4:=l5 om om;have h5:l.length*sh<=8*4:=l5 om om;rw[nj,nj];omega
       generalize eD sh l S kd n k=Mm at *;have i3:(k:Int)<(sh:Int):=om;have hU:Hid (Below W.heap.size W (wr.alloc (U #[Y I kd,Y I n,Y I k] 33))):=aA hB.out _;have c0:(wr.alloc (U #[Y I kd,Y I n,Y I k] 33)).cell? ⟨wr.heap.size,0,Q⟩=Y I kd:=sm;have c1:(wr.alloc (U #[Y I kd,Y I n,Y I k] 33)).cell? ⟨wr.heap.size,1,Q⟩=Y I n:=sm;have c2:(wr.alloc (U #[Y I kd,Y I n,Y I k] 33)).cell? ⟨wr.heap.size,2,Q⟩=Y I k:=sm;have ho1:Hid ((wr.alloc (U #[Y I kd,Y I n,Y I k] 33)).ownsRow W.heap.size 33 3 u5 (lC sh l S kd++eX sh l S kd n++fE sh l S kd n k).length _):=hown.out.alloc _;clear hown hB
       go_upto_region 12 with fail
       clear p0 p1 q0 q1 q2 q3;generalize (wr.alloc (U #[Y I kd,Y I n,Y I k] 33))=V at *;obtain⟨p0,p1,q0,q1,q2,q3⟩:=KEEP.out V hU.out
       go_wp2_with fail
       refine(CM1.out _ hU.out).mono ?_;rintro e w1 ⟨rfl,hb1⟩;have d0:=aB hb1 c0;have d1:=aB hb1 c1;have d2:=aB hb1 c2;have ho2:=bY ho1.out hb1;have HB1:=Hi (aC hU.out hb1);have hsz:=HB1.out.size;clear hb1 CM1 hU c0 c1 c2 ho1 p0 p1 q0 q1 q2 q3
       cases hM:Mm with
       | true=>
        rw[hM]at HS
        go_wp2_with (first | (at_builtin;(refine wpList_append_own _ rfl _ _ 30 rfl W.heap.size 33 i0 (ag #[Y I 0,Y I 0,Y I 0]) 3 24 underlying30 hi hz0 hz1 hz2 rfl dc _ _ _ rfl (ho2.alloc _) _ 1 1 [Y I kd,Y I n,Y I k] rfl rfl (news_st _ _ _ _ _ sm) (one_st _ _ _) (by unfold maxLen;omega) om (by simp;omega) ?_);intro v' w3 hown' hgrow _) | go_in)
        have R:Hid (letI Z:=lC sh l S kd++eX sh l S kd n++fE sh l S kd n (k+1);w3.ownsRow W.heap.size 33 3 v' Z.length (bF Z)):=by
         have e:fE sh l S kd n (k+1)=fE sh l S kd n k++[(kd,n,k)]:=by rw[HS.out];simp
         rw[e,<-lu];exact own_st hown'
        have RB:=Hi ((HB1.out.alloc hsz _).grown hgrow (by simp;omega) (fun j hj=>(ho2.lt j hj).1));clear hown' hgrow ho2 HS d0 d1 d2 HB1;exact vp
       | false=>
        rw[hM]at HS
        have R:Hid (letI Z:=lC sh l S kd++eX sh l S kd n++fE sh l S kd n (k+1);w1.ownsRow W.heap.size 33 3 u5 Z.length (bF Z)):=by
         have e:fE sh l S kd n (k+1)=fE sh l S kd n k:=by rw[HS.out];simp
         rw[e];exact ho2
        clear ho2 HS d0 d1 d2;go_wp2;go_roundw
        case rel=>exact⟨k+1,by omega,by go_num,R,HB1⟩
        case measure=>simp[intOf];omega
      ·have hkk:k=sh:=om
       have R:Hid (letI Z:=lC sh l S kd++eX sh l S kd (n+1);wr.ownsRow W.heap.size 33 3 u5 Z.length (bF Z)):=by
        have h:=hown.out;rw[hkk]at h;rw[tV,<-lu];exact h
       have i3:¬(k:Int)<(sh:Int):=om;exact Vf
    ·have hnn:n=l.length:=om
     have R:Hid (wr.ownsRow W.heap.size 33 3 u5 (lC sh l S (kd+1)).length (bF (lC sh l S (kd+1)))):=by
      have h:=hown.out;rw[hnn]at h;show World.ownsRow _ _ _ _ _ _ _;rw[HPS.out];exact h
     have i2:¬(n:Int)<(l.length:Int):=om;clear hown;go_wp2;go_roundw
     case rel=>exact⟨kd+1,by omega,by omega,by go_num,R,hB⟩
     case measure=>simp[intOf];omega
  ·have hkk:kd=3:=om;subst hkk;have R:Hid (wr.ownsRow W.heap.size 33 3 u5 (dF sh l S).length (bF (dF sh l S))):=hown.out;have BF:=Hi (aC hW.out hB.out);clear hown hB;go_wp2;go_ret;obtain⟨a,c,e1,e2⟩:=lX R.out rfl;exact⟨a,c,by rw[e1];rfl,e2,BF.out⟩
end
theorem xu (h:p:=by
 go_wp2_with (go_at_call 97;refine(CI'.out _).mono ?_;rintro e w2 ⟨rfl,rfl⟩)
 go_ret;exact⟨rfl,BF.out⟩):p:=h
theorem zl (h:p:=by
 have BFN:∀N,Hid _:=fun N=>aV BF.out N
 clear HST HNX0 hRC hRF HE2 HS HL G1 G2 G3 KEEP f1 f2 e1 e2 e3 e5 eN1 eN2 eN3 eN4;exact X6):p:=h
theorem UT (h:p:=by
 refine⟨a,c,by rw[hL],fun k hk=>?_,hb2⟩;obtain⟨b3,o3,ea,_,d3⟩:=hbs k (by rw[hL];exact hk);exact⟨b3,o3,ea,d3⟩):p:=h
theorem X6 (h:p:=by
 go_upto_region 9 with fail
 go_quiet (fail)
 go_wp2;go_ret;exact⟨rfl,(BFN _).out⟩):p:=h
section
theorem IsBB.row {w:World} {a:Option Addr} {rows:List (List Bool)} (h:IsBB w a rows) (hn:n<rows.length) (hs:(rows.getD n []).length=sh) (h0:0<sh):∃b4 o4 b5 o5 c5,a=M ⟨b4,o4,Q⟩/\w.cell? ⟨b4,o4+n,Q⟩=J (M ⟨b5,o5,Q⟩) sh c5/\∀k,k<sh->w.cell? ⟨b5,o5+k,Q⟩=bo (cR rows n k):=by
 obtain⟨b,off,a',c',ha,_,hc,hb,_⟩:=h n hn;rw[hs]at hc;obtain⟨b5,o5,rfl,_,_⟩:=hb 0 (by rw[hs];exact h0);refine⟨b,off,b5,o5,c',ha,hc,fun k hk=>?_⟩;obtain⟨b6,o6,e,_,d⟩:=hb k (by rw[hs];exact hk)
 cases e
 exact d
def rowB (sh:Nat) (l:List TxA) (S:SA) (n k:Nat):Bool:=(!cR S.rd n k || iF sh (gX l n) k) && (!cR S.wr n k || (mW sh (gX l n) k && dT sh l S n))
def rowF (sh:Nat) (l:List TxA) (S:SA) (n:Nat):Bool:=decide ((S.rd.getD n []).length=sh) && decide ((S.wr.getD n []).length=sh) && decide ((S.vs.getD n []).length=(gX l n).rs.length)
def xD (sh:Nat) (l:List TxA) (S:SA) (n:Nat):Bool:=rowF sh l S n && (List.range sh).all (rowB sh l S n)
def lens (l:List TxA) (S:SA):Bool:=decide (S.st.length=8) && decide (S.rd.length=l.length) && decide (S.wr.length=l.length) && decide (S.vs.length=l.length)
theorem form_rows (sh:Nat) (l:List TxA) (S:SA):(gL sh l S && cV sh l S)=(lens l S && (List.range l.length).all (xD sh l S)):=by
 have e1:gL sh l S=(lens l S && (List.range _).all (rowF sh l S)):=rfl;have e2:cV sh l S=(List.range _).all (fun n=>(List.range sh).all (rowB sh l S n)):=rfl;rw[e1,e2,Bool.and_assoc];congr 1;rw[Bool.eq_iff_iff];simp only[Bool.and_eq_true,List.all_eq_true];constructor
 ·rintro ⟨h1,h2⟩ n hn;unfold xD;rw[h1 n hn,wk,List.all_eq_true];exact h2 n hn
 ·intro h;constructor
  ·intro n hn;have:=h n hn;unfold xD at this;rw[Bool.and_eq_true]at this;exact this.1
  ·intro n hn;have:=h n hn;unfold xD at this;rw[Bool.and_eq_true,List.all_eq_true]at this;exact this.2
variable (la:Option Addr) (lc:Nat) (l:List TxA) (sa ra wa va:Option Addr) (sc rc tc vc:Nat) (S:SA)
theorem xY (sh n:Nat) (w:World) (hl:IsTxs w la l) (hs:Sta w sa ra wa va S) (hp:yO sh l n=0) (hrl:S.rd.length=l.length) (hrw:(S.rd.getD n []).length=sh) (hn:n<l.length) (h0:0<sh) (h4:sh<=4) (_h8:l.length<=8) :
  Kr 128 #[ag #[Y I sh,J la l.length lc],ag #[J sa S.st.length sc,J ra S.rd.length rc,J wa S.wr.length tc,J va S.vs.length vc],Y I n] w (bo (dT sh l S n)):=by
 have hW:Hid (Below _ w ((w.alloc (U #[Y I sh,J la l.length lc] 29)).alloc (U #[J sa S.st.length sc,J ra S.rd.length rc,J wa S.wr.length tc,J va S.vs.length vc] 45))):=aA (aA br _) _;have p0:((w.alloc (U #[Y I sh,J la l.length lc] 29)).alloc (U #[J sa S.st.length sc,J ra S.rd.length rc,J wa S.wr.length tc,J va S.vs.length vc] 45)).cell? _=Y I sh:=aB (aA br _) (aF w _ 29 _ 0 _ rfl rfl);have p1:((w.alloc (U #[Y I sh,J la _ lc] 29)).alloc (U #[J sa S.st.length sc,J ra S.rd.length rc,J wa S.wr.length tc,J va S.vs.length vc] 45)).cell? _=J la l.length lc:=aB (aA br _) (aF w _ 29 _ 1 _ rfl rfl);have q1:((w.alloc (U #[Y I sh,J la l.length lc] 29)).alloc (U #[J sa S.st.length sc,J ra _ rc,J wa S.wr.length tc,J va S.vs.length vc] 45)).cell? ⟨w.heap.size+1,1,Q⟩=J ra S.rd.length rc:=aF _ _ 45 _ 1 _ sm rfl;have CP:=Hi (fS la lc l sh n _ (hl.below hW.out) hp);have HS:=Hi (hs.below hW.out);have HM:Hid (∀k,(aY sh (aT (aO l n))).getD k false=iF sh (gX l n) k):=fun _=>rfl
 have HL:Hid ((aY sh (aT (aO l n))).length=sh):=bN _ _;have HRL:=Hi hrl;have HRW:=Hi hrw;have HA:Hid (dT sh l S n=(List.range sh).all _):=rfl;clear hl hs hp hrl hrw;generalize dT sh l S n=R at *;go_enter func128,ntmps128
 go_upto_region 1 with fail
 generalize ((w.alloc (U #[Y I sh,J la l.length lc] 29)).alloc (U #[J sa S.st.length sc,J ra S.rd.length rc,J wa S.wr.length tc,J va S.vs.length vc] 45))=W at *
 go_wp2_with fail
 refine CP.out.mono ?_;rintro e w1 ⟨a,c,rfl,hbs,hb1⟩;have B1:=Hi (aC hW.out hb1);have HB:=Hi hbs;have x0:=aB hb1 p0;have y1:=aB hb1 q1;obtain⟨b4,o4,b5,o5,c5,e4,z4,z5⟩:=(HS.out.below hb1).rd.row (n:=n) (by rw[HRL.out];exact hn) HRW.out h0;have Z5:=Hi z5;rw[e4,HRL.out]at y1;exact uh
theorem docCheck_ok (sh:Nat) (w:World) (hl:IsTxs w la l) (hs:Sta w sa ra wa va S) (hp:aN sh l=0) :
  Kr 89 #[ag #[Y I sh,J la l.length lc],ag #[J sa S.st.length sc,J ra S.rd.length rc,J wa S.wr.length tc,J va S.vs.length vc]] w (Y I (cZ sh l S)):=by
 obtain⟨h1,h4',hc⟩:=aX hp;have h0:0<sh:=om;have h4:sh<=4:=om;have h8:=cJ hc;have hpn:∀a,a<l.length->yO sh l a=0:=fun a ha=>xG hp ha
 obtain⟨W,hWe⟩:=nm (((w.alloc (U #[Y I sh,J la l.length lc] 29)).alloc (U #[J sa S.st.length sc,J ra S.rd.length rc,J wa S.wr.length tc,J va S.vs.length vc] 45)));have hW:Hid (Below w.heap.size w W):=by subst hWe;exact aA (aA br _) _
 have p0:W.cell? ⟨w.heap.size,0,Q⟩=Y I sh:=by subst hWe;exact aB (aA br _) (aF _ _ 29 _ 0 _ (by first | rfl | simp) rfl)
 have p1:W.cell? ⟨w.heap.size,1,Q⟩=J la l.length lc:=by subst hWe;exact aB (aA br _) (aF _ _ 29 _ 1 _ (by first | rfl | simp) rfl)
 have q0:W.cell? ⟨w.heap.size+1,0,Q⟩=J sa S.st.length sc:=by subst hWe;exact aB br (aF _ _ 45 _ 0 _ (by first | rfl | simp) rfl)
 have q1:W.cell? ⟨w.heap.size+1,1,Q⟩=J ra S.rd.length rc:=by subst hWe;exact aB br (aF _ _ 45 _ 1 _ (by first | rfl | simp) rfl)
 have q2:W.cell? ⟨w.heap.size+1,2,Q⟩=J wa S.wr.length tc:=by subst hWe;exact aB br (aF _ _ 45 _ 2 _ (by first | rfl | simp) rfl)
 have q3:W.cell? ⟨w.heap.size+1,3,Q⟩=J va S.vs.length vc:=by subst hWe;exact aB br (aF _ _ 45 _ 3 _ (by first | rfl | simp) rfl)
 have KEEP:Hid (∀w',Below W.heap.size W w'->w'.cell? ⟨w.heap.size,0,Q⟩=Y I sh/\w'.cell? ⟨w.heap.size,1,Q⟩=J la l.length lc/\w'.cell? ⟨w.heap.size+1,0,Q⟩=J sa S.st.length sc/\w'.cell? ⟨w.heap.size+1,1,Q⟩=J ra S.rd.length rc/\w'.cell? ⟨w.heap.size+1,2,Q⟩=J wa S.wr.length tc/\w'.cell? ⟨w.heap.size+1,3,Q⟩=J va S.vs.length vc):=fun w' hb=>⟨aB hb p0,aB hb p1,aB hb q0,aB hb q1,aB hb q2,aB hb q3⟩
 have CK:Hid (Kr 48 #[ag #[Y I sh,J la l.length lc]] W (Y I 0)):=by
  have h:=jN la lc l sh W (hl.below hW.out);rw[hp]at h;exact h
 have HS:=Hi (hs.below hW.out);have HL:=Hi (hl.below hW.out)
 have HE:Hid (cZ sh l S=if (lens l S && (List.range l.length).all (xD sh l S))=true then 0 else 1):=by
  show _=_;unfold cZ;rw[if_pos hp];show (if (gL sh l S && cV sh l S)=true then (0:Int) else 1)=_;rw[form_rows]
 clear hl hs hp hc h1 h4' p0 p1 q0 q1 q2 q3;generalize cZ sh l S=R at *;have HWe:Hid (W=_):=hWe;clear hWe;go_enter func89,ntmps89
 go_upto_region 1 with fail
 rw[<-HWe.out];clear HWe;obtain⟨p0,p1,q0,q1,q2,q3⟩:=KEEP.out W br
 go_wp2_with fail
 refine CK.out.mono ?_;rintro e V ⟨rfl,hbV⟩;have BV:=Hi hbV;have BF:=Hi (aC hW.out hbV);clear CK hbV p0 p1 q0 q1 q2 q3;obtain⟨p0,p1,q0,q1,q2,q3⟩:=KEEP.out V BV.out;have CI:=Hi (fun w'=>fW S.st sa sc w');have HL1:Hid (lens l S=false->R=1):=fun h=>by rw[HE.out,h];rfl
 go_upto_region 4 with fail
 by_cases g0:S.st.length=8;rotate_left
 ·obtain rfl:R=1:=HL1.out (by unfold lens;rw[decide_eq_false g0];rfl)
  have CI':Hid (∀w',Calls prog 97 #[J sa S.st.length sc] w' fun e w''=>e=rt (bo false)/\w''=w'):=by
   have h:=CI.out;rw[decide_eq_false g0]at h;exact h
  clear CI HE HL1 g0;exact xu
 have CI':Hid (∀w',Calls prog 97 #[J sa S.st.length sc] w' fun e w''=>e=rt (bo true)/\w''=w'):=by
  have h:=CI.out;rw[decide_eq_true g0]at h;exact h
 clear CI;by_cases g1:S.rd.length=l.length;rotate_left
 ·obtain rfl:R=1:=HL1.out (by unfold lens;rw[decide_eq_false g1];simp);have j1:((S.rd.length:Int) != (l.length:Int))=true:=by rw[bne_iff_ne];omega
  clear HE HL1 g0 g1;exact xu
 by_cases g2:S.wr.length=l.length;rotate_left
 ·obtain rfl:R=1:=HL1.out (by unfold lens;rw[decide_eq_false g2];simp);have j1:((S.rd.length:Int) != (l.length:Int))=false:=by rw[bne_eq_false_iff_eq];omega
  have j2:((S.wr.length:Int) != (l.length:Int))=true:=by rw[bne_iff_ne];omega
  clear HE HL1 g0 g1 g2;exact xu
 by_cases g3:S.vs.length=l.length;rotate_left
 ·obtain rfl:R=1:=HL1.out (by unfold lens;rw[decide_eq_false g3];simp);have j1:((S.rd.length:Int) != (l.length:Int))=false:=by rw[bne_eq_false_iff_eq];omega
  have j2:((S.wr.length:Int) != (l.length:Int))=false:=by rw[bne_eq_false_iff_eq];omega
  have j3:((S.vs.length:Int) != (l.length:Int))=true:=by rw[bne_iff_ne];omega
  clear HE HL1 g0 g1 g2 g3;exact xu
 have j1:((S.rd.length:Int) != (l.length:Int))=false:=by rw[bne_eq_false_iff_eq];omega
 have j2:((S.wr.length:Int) != (l.length:Int))=false:=by rw[bne_eq_false_iff_eq];omega
 have j3:((S.vs.length:Int) != (l.length:Int))=false:=by rw[bne_eq_false_iff_eq];omega
 have HE2:Hid (R=if (List.range l.length).all (xD sh l S)=true then 0 else 1):=by
  show _=_;rw[HE.out];unfold lens;rw[decide_eq_true g0,decide_eq_true g1,decide_eq_true g2,decide_eq_true g3];rfl
 have G1:=Hi g1;have G2:=Hi g2;have G3:=Hi g3;clear HE HL1 g0 g1 g2 g3
 go_upto_region 6 with (go_at_call 97;refine(CI'.out _).mono ?_;rintro e w2 ⟨rfl,rfl⟩)
 clear CI' j1 j2 j3 p0 p1 q0 q1 q2 q3;go_wp2
 go_loopw [6] (fun i wr=>∃n:Nat,n<=l.length/\i=Y I n/\Hid ((List.range n).all (xD sh l S)=true)/\Hid (Below W.heap.size W wr)) (fun i _=>l.length - (intOf i).toNat)
 case atStart=>exact⟨0,nz,rfl,rfl,BV⟩
 case round=>
  clear BV BF;obtain⟨n,hn,rfl,hall,BV⟩:=hrel;obtain⟨p0,p1,q0,q1,q2,q3⟩:=KEEP.out wr BV.out;have BF:=Hi (aC hW.out BV.out);by_cases hlt:n<l.length
  ·have i1:(n:Int)<(l.length:Int):=om;obtain⟨b1,o1,a1,c1,e1,_,r1,_,_⟩:=(HS.out.below BV.out).rd n (by rw[G1.out];exact hlt);obtain⟨b2,o2,a2,c2,e2,_,r2,_,_⟩:=(HS.out.below BV.out).wr n (by rw[G2.out];exact hlt);obtain⟨b3,o3,a3,c3,e3,_,r3,_,_⟩:=(HS.out.below BV.out).vs n (by rw[G3.out];exact hlt);obtain⟨tb,tof,e5,_,t0',t1,t2,_⟩:=(HL.out.below BV.out) n hlt;have HST:Hid (xD sh l S n=false->R=1):=fun h=>by rw[HE2.out,gD hlt h];rfl
   have HNX0:Hid (xD sh l S n=true->(List.range _).all _=true):=fun h=>by rw[mC,hall.out,h];rfl
   have hRC:Hid (xD sh l S n=(rowF sh l S n && (List.range sh).all _)):=rfl;have hRF:Hid (rowF sh l S n=(decide _ && decide _ && decide _)):=rfl;have t0:wr.cell? _=J (gX l n).ra (gX l n).rs.length (gX l n).rc:=t0';clear t0' t1 t2 hall;rw[e1,G1.out]at q1;rw[e2,G2.out]at q2;rw[e3,G3.out]at q3;rw[e5]at p1;obtain⟨N1,eN1⟩:∃x,(S.rd.getD n []).length=x:=⟨_,rfl⟩;obtain⟨N2,eN2⟩:∃x,(S.wr.getD n []).length=x:=⟨_,rfl⟩;obtain⟨N3,eN3⟩:∃x,(S.vs.getD n []).length=x:=⟨_,rfl⟩;obtain⟨N4,eN4⟩:∃x,(gX l n).rs.length=x:=⟨_,rfl⟩;rw[eN1]at r1 hRF;rw[eN2]at r2 hRF;rw[eN3]at r3 hRF;rw[eN4]at t0 hRF;by_cases f1:N1=sh;rotate_left
   ·obtain rfl:R=1:=HST.out (by rw[hRC.out,hRF.out,decide_eq_false f1];rfl);have j1:((N1:Int) != (sh:Int))=true:=by rw[bne_iff_ne];omega
    have BFN:∀N,Hid _:=fun N=>aV BF.out N
    clear HST HNX0 hRC hRF HE2 HS HL G1 G2 G3 KEEP f1 e1 e2 e3 e5 eN1 eN2 eN3 eN4;exact X6
   by_cases f2:N2=sh;rotate_left
   ·obtain rfl:R=1:=HST.out (by rw[hRC.out,hRF.out,decide_eq_false f2];simp);have j1:((N1:Int) != (sh:Int))=false:=by rw[bne_eq_false_iff_eq];omega
    have j2:((N2:Int) != (sh:Int))=true:=by rw[bne_iff_ne];omega
    exact zl
   by_cases f3:N3=N4;rotate_left
   ·obtain rfl:R=1:=HST.out (by rw[hRC.out,hRF.out,decide_eq_false f3];simp);have j1:((N1:Int) != (sh:Int))=false:=by rw[bne_eq_false_iff_eq];omega
    have j2:((N2:Int) != (sh:Int))=false:=by rw[bne_eq_false_iff_eq];omega
    have j3:((N3:Int) != (N4:Int))=true:=by rw[bne_iff_ne];omega
    exact zl
   rw[f1]at r1;rw[f2]at r2;rw[f3]at r3
   have HRC:Hid (xD sh l S n=(List.range sh).all (rowB sh l S n)):=by
    show _=_;rw[hRC.out,hRF.out,decide_eq_true f1,decide_eq_true f2,decide_eq_true f3];rfl
   have F1:=Hi (eN1.trans f1);have F2:=Hi (eN2.trans f2);clear hRC hRF f1 f2 f3 eN1 eN2 eN3 eN4
   have CPA:Hid (∀w1,Below _ W w1->Calls _ 90 _ w1 fun e w'=>∃a c,e=rt (J a sh c)/\Hid (∀k,k<sh->∃b o,a=M ⟨b,o,Q⟩/\w'.cell? ⟨b,o+k,Q⟩=bo (iF sh (gX l n) k))/\Below _ w1 w'):=fun w1 hb=>by
    refine(fS la lc l sh n _ (HL.out.below hb) (hpn n hlt)).mono ?_;rintro e w2 ⟨a,c,rfl,hbs,hb2⟩;have hL:=bN sh (aT (aO l n));exact UT
   have CAA:Hid (∀w1,Below _ W w1->Calls _ 91 _ w1 fun e w'=>∃a c,e=rt (J a sh c)/\Hid (∀k,k<sh->∃b o,a=M ⟨b,o,Q⟩/\w'.cell? ⟨b,o+k,Q⟩=bo (mW sh (gX l n) k))/\Below _ w1 w'):=fun w1 hb=>by
    refine(gJ la lc l sh n _ (HL.out.below hb) (hpn n hlt)).mono ?_;rintro e w2 ⟨a,c,rfl,hbs,hb2⟩;have hL:=bN sh (aR (aO l n));exact UT
   have CAR:=Hi (fun w1 hb=>xY la lc l sa ra wa va sc rc tc vc S sh n w1 (HL.out.below hb) (HS.out.below hb) (hpn n hlt) G1.out F1.out hlt h0 h4 h8)
   go_upto_region 9 with fail
   go_quiet (fail)
   go_upto_region 11 with fail
   clear p0 p1 q0 q1 q2 q3 r1 r2 r3 t0 e1 e2 e3 e5 BF;obtain⟨V,eV,BV'⟩:∃V,wr.drewN nq=V/\Hid (Below W.heap.size W V):=⟨_,rfl,aV BV.out _⟩;rw[eV];clear eV BV;obtain⟨p0,p1,q0,q1,q2,q3⟩:=KEEP.out V BV'.out;have KS:Hid (∀w',Below _ V w'->w'.cell? _=M _/\w'.cell? _=M _/\Hid _):=fun w' hb=>⟨aB hb p0,aB hb p1,hb⟩
   go_cut [7,8] (fun u v wx=>∃a c a' c',u=J a sh c/\v=J a' sh c'/\Hid (∀k,k<sh->∃b o,a=M ⟨b,o,Q⟩/\wx.cell? ⟨b,o+k,Q⟩=bo (iF sh (gX l n) k))/\Hid (∀k,k<sh->∃b o,a'=M ⟨b,o,Q⟩/\wx.cell? ⟨b,o+k,Q⟩=bo (mW sh (gX l n) k))/\Hid (Below V.heap.size V wx))
   case first=>
    clear p0 p1 q0 q1 q2 q3
    go_region_held3 (fun w'=>w'.cell? ⟨w.heap.size,0,Q⟩=Y I sh/\w'.cell? ⟨w.heap.size,1,Q⟩=J la l.length lc/\Hid (Below V.heap.size V w')) ((refine KS.out _ ?_;go_split_ands;repeat (first | assumption | exact br | exact Hid.out (by assumption) | refine aD ?_ | refine aA ?_ _ | refine aC ?_ (by assumption))))
     (first
      | (go_at_call 90;refine(CPA.out _ (aC BV'.out ?_)).mono ?_;(go_split_ands;repeat (first | assumption | exact br | exact Hid.out (by assumption) | refine aD ?_ | refine aA ?_ _ | refine aC ?_ (by assumption)));rintro e w1 ⟨a1,c1,rfl,hp1,hb1⟩)
      | (go_at_call 91;refine(CAA.out _ (aC BV'.out ?_)).mono ?_;(go_split_ands;repeat (first | assumption | exact br | exact Hid.out (by assumption) | refine aD ?_ | refine aA ?_ _ | refine aC ?_ (by assumption)));rintro e w2 ⟨a2,c2,rfl,hp2,hb2⟩))
    all_goals (go_wp2_with fail;go_meet)
    all_goals (
     go_split_ands;refine⟨a1,c1,a2,c2,rfl,rfl,fun k hk=>?_,hp2,Hid.out (by assumption)⟩;obtain⟨b,o,e,d⟩:=hp1.out k hk;exact⟨b,o,e,aB hb2 d⟩)
   case rest=>
    obtain⟨a1,c1,a2,c2,rfl,rfl,HP1,HP2,hbc⟩:=hcut;obtain⟨V2,hren⟩:=nm (wc);subst hren;have BV2:=Hi (aC BV'.out hbc.out);have HB0:Hid (Below V2.heap.size V2 V2):=br;clear hbc KS p0 p1 q0 q1 q2 q3 CPA CAA BV';go_wp2
    go_loopw [9] (fun i wq=>∃k:Nat,k<=sh/\i=Y I k/\Hid ((List.range k).all (rowB sh l S n)=true)/\Hid (Below V2.heap.size V2 wq)) (fun i _=>sh - (intOf i).toNat)
    case atStart=>exact⟨0,nz,rfl,rfl,HB0⟩
    case round=>
     clear HB0;obtain⟨k,hk,rfl,hall,hB⟩:=hrel;have BQ:=Hi (aC BV2.out hB.out);have BF:=Hi (aC hW.out BQ.out);obtain⟨p0,p1,q0,q1,q2,q3⟩:=KEEP.out wr BQ.out;by_cases hlk:k<sh
     ·have i3:(k:Int)<(sh:Int):=om;obtain⟨b5,o5,ep,d5⟩:=HP1.out k hlk;obtain⟨b6,o6,ea,d6⟩:=HP2.out k hlk;subst ep ea;have d5':=aB hB.out d5;have d6':=aB hB.out d6;clear d5 d6;obtain⟨b1,o1,b1',o1',c1',e1,r1,s1⟩:=(HS.out.below BQ.out).rd.row (n:=n) (by rw[G1.out];exact hlt) F1.out h0;obtain⟨b2,o2,b2',o2',c2',e2,r2,s2⟩:=(HS.out.below BQ.out).wr.row (n:=n) (by rw[G2.out];exact hlt) F2.out h0;have r1':=s1 k hlk;have r2':=s2 k hlk;clear s1 s2;have HG:Hid (rowB sh l S n k=(_ && _)):=rfl;have HR1:=Hi (fun h=>HST.out (by rw[HRC.out];exact gD hlk h));have HNX:Hid (rowB sh l S n k=true->(List.range _).all _=true):=fun h=>by rw[mC,hall.out,h];rfl
      have CAR1:=Hi (CAR.out wr BQ.out);rw[e1,G1.out]at CAR1 q1;rw[e2,G2.out]at CAR1 q2;clear hall HE2 HST HNX0 HRC HS HL KEEP CAR G3 F1 F2 e1 e2 HP1 HP2;generalize rowB sh l S n k=G at *;generalize iF sh (gX l n) k=P at *;generalize cR S.rd n k=Qq at *;generalize mW sh (gX l n) k=T at *;generalize cR S.wr n k=Uuu at *;generalize dT sh l S n=AA at *;by_cases hQP:Qq=true/\P=false
      ·obtain⟨rfl,rfl⟩:=hQP;obtain rfl:R=1:=HR1.out HG.out;clear HG HR1 HNX;exact U8
      ·have hPQ:(!Qq || P)=true:=by cases Qq <;> cases P <;> simp_all
       have HG2:Hid (G=(!Uuu || (T && AA))):=by show _=_;rw[HG.out,hPQ,wk]
       clear HG;have hcase:(Qq=false)∨(Qq=true/\P=true):=by cases Qq <;> cases P <;> simp_all
       clear hQP hPQ;rcases hcase with rfl | ⟨rfl,rfl⟩
       all_goals (
        cases Uuu with
        | false=>
         have hal:=HNX.out HG2.out;clear HR1 HNX HG2;go_wp2;go_roundw
         case rel=>exact⟨k+1,by omega,by go_num,hal,hB⟩
         case measure=>simp[intOf];omega
        | true=>
         cases T with
         | false=>
          obtain rfl:R=1:=HR1.out HG2.out;clear HR1 HNX HG2;exact U8
         | true=>
          go_wp2_with fail
          refine CAR1.out.mono ?_;rintro e w3 ⟨rfl,hb3⟩;have hB3:=Hi (aC hB.out hb3);have BF3:=Hi (aC BF.out hb3);clear hb3 CAR1 d5' d6' r1 r2 r1' r2' p0 p1 q0 q1 q2 q3 hB BF BQ
          cases AA with
          | true=>
           have hal:=HNX.out HG2.out;clear HR1 HNX HG2;go_wp2;go_roundw
           case rel=>exact⟨k+1,by omega,by go_num,hal,hB3⟩
           case measure=>simp[intOf];omega
          | false=>
           obtain rfl:R=1:=HR1.out HG2.out;clear HR1 HNX HG2;go_wp2;go_ret;exact⟨rfl,BF3.out⟩)
     ·have hkk:k=sh:=om;have hal:=Hi (HNX0.out (by rw[HRC.out];have h:=hall.out;rw[hkk]at h;exact h));have i3:¬(k:Int)<(sh:Int):=om;go_wp2;go_roundw
      case rel=>exact⟨n+1,by omega,by go_num,hal,BQ⟩
      case measure=>simp[intOf];omega
  ·have hnn:n=l.length:=om;have hal:=hall.out;rw[hnn]at hal;obtain rfl:R=0:=by rw[HE2.out,hal];rfl
   have i1:¬(n:Int)<(l.length:Int):=om;exact U8
theorem kC (m:Int) (w:World) (hl:IsTxs w la l) (hs:Sta w sa ra wa va S) :
  Kr 89 #[ag #[Y I m,J la l.length lc],ag #[J sa S.st.length sc,J ra S.rd.length rc,J wa S.wr.length tc,J va S.vs.length vc]] w (Y I (cZ m l S)):=by
 by_cases hp:aN m l=0
 ·obtain⟨h1,_,_⟩:=aX hp;obtain⟨sh,rfl⟩:∃sh:Nat,m=sh:=⟨m.toNat,by omega⟩;exact docCheck_ok la lc l sa ra wa va sc rc tc vc S sh w hl hs hp
 ·have e0:cZ m l S=aN m l:=if_neg hp;rw[e0];have hW:Hid (Below _ w ((w.alloc (U #[Y I m,J la l.length lc] 29)).alloc (U #[J sa S.st.length sc,J ra S.rd.length rc,J wa S.wr.length tc,J va S.vs.length vc] 45))):=aA (aA br _) _;have p0:((w.alloc (U #[Y I m,J la l.length lc] 29)).alloc (U #[J sa S.st.length sc,J ra S.rd.length rc,J wa S.wr.length tc,J va S.vs.length vc] 45)).cell? _=Y I m:=aB (aA br _) (aF w _ 29 _ 0 _ rfl rfl);have p1:((w.alloc (U #[Y I m,J la _ lc] 29)).alloc (U #[J sa S.st.length sc,J ra S.rd.length rc,J wa S.wr.length tc,J va S.vs.length vc] 45)).cell? _=J la l.length lc:=aB (aA br _) (aF w _ 29 _ 1 _ rfl rfl);have CK:=Hi (jN la lc l m ((w.alloc (U #[Y I m,J la l.length lc] 29)).alloc (U #[J sa S.st.length sc,J ra S.rd.length rc,J wa S.wr.length tc,J va S.vs.length vc] 45)) (hl.below hW.out));have hne:(aN m l != 0)=true:=by simpa using hp
  clear hl hs e0 hp;generalize aN m l=E at *;go_enter func89,ntmps89
  go_upto_region 1 with fail
  generalize ((w.alloc (U #[Y I m,J la l.length lc] 29)).alloc (U #[J sa S.st.length sc,J ra S.rd.length rc,J wa S.wr.length tc,J va S.vs.length vc] 45))=W at *
  go_wp2_with fail
  refine CK.out.mono ?_;rintro e V ⟨rfl,hbV⟩;have BF:=Hi (aC hW.out hbV);clear CK hbV p0 p1;exact U8
end
end Go.Proofs.YtcgpkonfneofdaaGreatDoor
