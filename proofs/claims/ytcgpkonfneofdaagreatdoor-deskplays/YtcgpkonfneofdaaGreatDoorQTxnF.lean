/- Conditions: those that each theorem states. -/
import Derived.Test.YtcgpkonfneofdaaGreatDoorQTxnK
set_option maxRecDepth 100000
set_option maxHeartbeats 8000000
namespace Go.Proofs.YtcgpkonfneofdaaGreatDoor
open Go.RowKit Go.Proofs.Tryz
open Go.Value renaming slice->J,int->Y,bool->bo,pointer->pd,agg->ag,tuple->tu,string->sg,iface->fc
open Go.IntKind renaming i64->I
open Go.Obj renaming cells->U
open Go.Ending renaming returned->rt,panicked->pg
open Option renaming some->M,none->Q
variable {p:Prop} {a b c X D D' e:Int} {l:List Int}
theorem uw (h:p:=by
 by_cases hbad:z<0∨8<=z
 ·have HV:Hid (X=3):=by rw[hno.out,hs.out,if_pos hbad];rfl
  have RB:=Hi (hup hnx);have hd:(!(decide (0<=z) && decide (z<=7)))=true:=by simp;omega
  clear hno hs hnx hz hbad
  go_wp2_with (go_at_call 53;refine(kN z _).mono ?_;rintro e w' ⟨rfl,rfl⟩)
  go_ret;exact⟨by rw[HV.out];rfl,RB.out⟩
 ·have HV:=Hi (hno.out.trans (by rw[hs.out,if_neg hbad]));have RB:=Hi hnx;have hd:(!(decide (0<=z) && decide (z<=7)))=false:=by simp;omega
  clear hno hs hnx hz hbad
  go_wp2_with (go_at_call 53;refine(kN z _).mono ?_;rintro e w' ⟨rfl,rfl⟩)
  go_roundw
  case rel=>first | exact⟨k+1,by omega,by go_num,HV,RB⟩ | ((repeat apply Exists.intro);exact⟨⟨k+1,by omega,by go_num,HV,RB⟩,rfl⟩)
  case measure=>simp[intOf];omega):p:=h
theorem vg (h:p:=by
 by_cases hyx:y<=x
 ·have HV:Hid (X=1):=by rw[hno.out,hs.out,if_pos hyx];rfl
  have RB:=Hi (hup hnx);clear hno hs hnx hz
  go_wp2_with fail
  go_quiet (fail)
  go_wp2;go_ret;exact⟨by rw[HV.out];rfl,below_drewN RB.out _⟩
 ·have HV:=Hi (hno.out.trans (by rw[hs.out,if_neg hyx]));have RB:=Hi hnx;clear hno hs hnx hz
  go_wp2_with fail
  go_quiet (fail)
  go_wp2;go_roundw
  case rel=>first | exact⟨k+1,by omega,by go_num,HV,below_drewN RB.out _⟩ | ((repeat apply Exists.intro);exact⟨⟨k+1,by omega,by go_num,HV,below_drewN RB.out _⟩,rfl⟩)
  case measure=>simp[intOf];omega):p:=h
theorem vm (h:p:=by
 rintro e w' ⟨rfl,rfl⟩
 go_wp2_with fail
 refine(bS ak an rs.length _ hwr.out).mono ?_;rintro e w' ⟨rfl,rfl⟩
 go_wp2_with fail
 refine(bS bk bn rs.length _ hwr.out).mono ?_;rintro e w' ⟨rfl,rfl⟩;go_wp2;go_roundw
 case rel=>first | exact⟨k+1,by omega,by go_num,HV,((RB.out.alloc om _).alloc (by simp;omega) _).alloc (by simp;omega) _⟩ | ((repeat apply Exists.intro);exact⟨⟨k+1,by omega,by go_num,HV,((RB.out.alloc om _).alloc (by simp;omega) _).alloc (by simp;omega) _⟩,rfl⟩)
 case measure=>simp[intOf];omega):p:=h
theorem y7 (h:p:=by
 rintro e w' ⟨rfl,rfl⟩
 go_wp2_with fail
 refine(bS ak an rs.length _ hwr.out).mono ?_;rintro e w' ⟨rfl,rfl⟩
 go_wp2_with fail
 refine(bS bk bn rs.length _ hwr.out).mono ?_;rintro e w' ⟨rfl,rfl⟩;go_wp2;go_ret;exact⟨by rw[HV.out];rfl,aA (aA (aA RW.out _) _) _⟩):p:=h
theorem yv (h:p:=by
 go_enter func126,ntmps126;go_wp2;go_ret;exact⟨rfl,aA br _⟩):p:=h
theorem zy (h:p:=by
 rintro e w' ⟨rfl,rfl⟩
 go_wp2_with fail
 refine(bS ak an rs.length _ hwr.out).mono ?_;rintro e w' ⟨rfl,rfl⟩;go_wp2;go_ret;exact⟨by rw[HV.out];rfl,aA (aA RW.out _) _⟩):p:=h
theorem X8 (h:p:=by
 refine hno.out.trans ?_;rw[wh (by simp;omega)];exact cT _ _ rfl):p:=h
theorem Xc (h:p:=by
 rintro e w' ⟨rfl,rfl⟩;go_wp2;go_ret;exact⟨by rw[HV.out];rfl,aA RW.out _⟩):p:=h
section
theorem kN (k:Int) (w:World):Calls prog 53 #[Y I k] w fun e w'=>e=rt (bo (decide (0<=k) && decide (k<=7)))/\w'=w:=by
 by_cases h1:0<=k
 ·have d1:decide (0<=k)=true:=by simpa using h1
  rw[d1];go_enter func53,ntmps53;exact uj
 ·have d1:decide (0<=k)=false:=by simpa using h1
  rw[d1];go_enter func53,ntmps53;exact uj
theorem cT (x:Int) (l:List Int) (h:x=0):aH (x::l)=aH l:=by rw[aH,if_pos h]
theorem fB (x:Int) (l:List Int) (h:¬x=0):aH (x::l)=x:=by rw[aH,if_neg h]
theorem nz3_0 (ha:a=0) (hb:b=0) (hc:c=0):aH [a,b,c]=0:=by rw[cT _ _ ha,cT _ _ hb,cT _ _ hc];rfl
theorem nz3_3 (ha:a=0) (hb:b=0) (hc:¬c=0):aH [a,b,c]=c:=by rw[cT _ _ ha,cT _ _ hb,fB _ _ hc]
theorem nz3_2 (ha:a=0) (hb:¬b=0):aH [a,b,c]=b:=by rw[cT _ _ ha,fB _ _ hb]
theorem nz3_1 (ha:¬a=0):aH [a,b,c]=a:=fB _ _ ha
theorem aAa (h:Hid (X=aH (D::l))) (hs:Hid (D=if e=0 then D' else e)) (he:e=0):Hid (X=aH (D'::l)):=by
 have h1:=hs.out;rw[if_pos he]at h1;have h2:=h.out;rw[h1]at h2;exact h2
theorem kK {v:Int} (h:Hid (X=aH (D::l))) (hs:Hid (D=if e=0 then D' else e)) (he:e=v) (hv:¬v=0):Hid (X=v):=by
 have h1:=hs.out;rw[he,if_neg hv]at h1;have h2:=h.out;rw[h1,fB _ _ hv]at h2;exact h2
theorem nz_flat (a b c d:Int) (l:List Int):aH (aH [a,b,c,d]::l)=aH (a::b::c::d::l):=by
 by_cases ha:a=0
 ·rw[cT a _ ha,cT a _ ha];by_cases hb:b=0
  ·rw[cT b _ hb,cT b _ hb];by_cases hc:c=0
   ·rw[cT c _ hc,cT c _ hc];by_cases hd:d=0
    ·rw[cT d _ hd,cT d _ hd];exact cT _ _ rfl
    ·rw[fB d _ hd,fB d _ hd]
   ·rw[fB c _ hc,fB c _ hc,fB c _ hc]
  ·rw[fB b _ hb,fB b _ hb,fB b _ hb]
 ·rw[fB a _ ha,fB a _ ha,fB a _ ha]
theorem chk_flat (rs:List Int) (gs:List Gd) (ss:List St) (hm:cW rs.length gs.length ss.length=0):bP rs gs ss=aH [cO rs,cO (aJ ss),dP rs,dP (aJ ss),aH (gs.map (dZ rs.length)),aH (ss.map (dY rs.length))]:=by
 unfold bP jS;rw[cT _ _ hm,nz_flat]
variable (ra ga sa:Option Addr) (rc gc sc:Nat) (rs:List Int) (gs:List Gd) (ss:List St)
theorem zR (w:World) (ht:IsTx w ra ga sa rs gs ss) (hm:¬cW rs.length gs.length ss.length=0) :
  Calls prog 126 #[ag #[J ra rs.length rc,J ga gs.length gc,J sa ss.length sc]] w fun e' w'=>e'=rt (Y I (bP rs gs ss))/\Below w.heap.size w w':=by
 rw[sC rs gs ss hm];obtain⟨_,_,_,hlr,hlg,hls⟩:=ht;unfold maxLen at hlr hlg hls;generalize rs.length=r at *;generalize gs.length=g at *;generalize ss.length=s at *;by_cases h1:4<r
 ·have b1:(4:Int)<(r:Int):=om;exact yv
 ·by_cases h2:2<g
  ·have b1:¬(4:Int)<(r:Int):=om;have b2:(2:Int)<(g:Int):=om;exact yv
  ·have b1:¬(4:Int)<(r:Int):=om;have b2:¬(2:Int)<(g:Int):=om;by_cases h3:1<=s
   ·have h4:3<s:=by
     by_cases c:3<s
     ·exact c
     ·exact absurd (if_neg om:cW r g s=0) hm
    have d1:decide ((1:Int)<=(s:Int))=true:=by simp;omega
    have d2:decide ((s:Int)<=(3:Int))=false:=by simp;omega
    exact yv
   ·have d1:decide ((1:Int)<=(s:Int))=false:=by simp;omega
    exact yv
theorem yF (X:Int) (w W0:World) (hz:IsTx w ra ga sa rs gs ss) (hm:cW rs.length gs.length ss.length=0) (HX:Hid (X=aH [cO rs,cO (aJ ss),dP rs,dP (aJ ss),aH (gs.map (dZ rs.length)),aH (ss.map (dY rs.length))])) (eW:W0=w.alloc (U #[J ra rs.length rc,J ga gs.length gc,J sa ss.length sc] 95)) :
  Calls prog 126 #[ag #[J ra rs.length rc,J ga gs.length gc,J sa ss.length sc]] w fun e' w'=>e'=rt (Y I X)/\Below w.heap.size w w':=by
 obtain⟨hr4,hg2,hs3,hs1⟩:=bI _ _ _ hm;have EW:=Hi eW;have c0:W0.cell? ⟨w.heap.size,0,Q⟩=J ra rs.length rc:=by rw[eW];simp
 have c1:W0.cell? ⟨w.heap.size,1,Q⟩=J ga gs.length gc:=by rw[eW];simp
 have c2:W0.cell? ⟨w.heap.size,2,Q⟩=J sa ss.length sc:=by rw[eW];simp
 have hold:∀(p:Addr),_<_->W0.cell? p=w.cell? p:=fun p h=>by rw[eW];exact ni _ _ _ h
 have hup:∀{wr:World},Below (w.heap.size+1) W0 wr->Below w.heap.size w wr:=fun h=>by
  rw[eW]at h;exact(aA br _).trans (h.mono om)
 have hW0:Below (w.heap.size+1) W0 W0:=br;have b1:¬(4:Int)<(rs.length:Int):=om;have b2:¬(2:Int)<(gs.length:Int):=om;have d1:decide ((1:Int)<=(ss.length:Int))=true:=by simp;omega
 have d2:decide ((ss.length:Int)<=(3:Int))=true:=by simp;omega
 clear hm eW;go_enter func126,ntmps126;go_wp2;rw[<-EW.out];clear b1 b2 d1 d2
 go_loopw [3] (fun i wr=>∃k:Nat,k<=rs.length/\i=Y I k/\Hid (X=aH (cO (rs.drop k)::[cO (aJ ss),dP rs,dP (aJ ss),aH (gs.map (dZ rs.length)),aH (ss.map (dY rs.length))]))/\Below (w.heap.size+1) W0 wr) (fun i _=>rs.length - (intOf i).toNat)
 case atStart=>exact⟨0,nz,rfl,HX,hW0⟩
 case round=>
  clear HX hW0;obtain⟨k,hk,rfl,hno,hnx⟩:=hrel;have qr:=hnx.cell (p:=⟨w.heap.size,0,Q⟩) (nk _);have qg:=hnx.cell (p:=⟨w.heap.size,1,Q⟩) (nk _);have qs:=hnx.cell (p:=⟨w.heap.size,2,Q⟩) (nk _);rw[c0]at qr;rw[c1]at qg;rw[c2]at qs;by_cases hlt:k<rs.length
  ·obtain⟨b,off,rfl,hb,hc⟩:=hz.r k hlt;have hc:=(hnx.cell (p:=⟨b,off+k,Q⟩) (lx hb)).trans ((hold _ hb).trans hc);have hs:=Hi (oE rs k hlt);generalize rs.getD k 0=z at *;exact uw
  ·have HX:Hid (X=aH [cO (aJ ss),dP rs,dP (aJ ss),aH (gs.map (dZ rs.length)),aH (ss.map (dY rs.length))]):=by
    refine hno.out.trans ?_;rw[wh om];exact cT _ _ rfl
   have hW0:=hnx;clear hno hnx
   go_wp2_with fail
   go_loopw [4] (fun i wr=>∃k:Nat,k<=ss.length/\i=Y I k/\Hid (X=aH (cO ((aJ ss).drop k)::[dP rs,dP (aJ ss),aH (gs.map (dZ rs.length)),aH (ss.map (dY rs.length))]))/\Below (w.heap.size+1) W0 wr) (fun i _=>ss.length - (intOf i).toNat)
   case atStart=>exact⟨0,nz,rfl,HX,hW0⟩
   case round=>
    clear HX hW0;obtain⟨k,hk,rfl,hno,hnx⟩:=hrel;have qr:=hnx.cell (p:=⟨w.heap.size,0,Q⟩) (nk _);have qg:=hnx.cell (p:=⟨w.heap.size,1,Q⟩) (nk _);have qs:=hnx.cell (p:=⟨w.heap.size,2,Q⟩) (nk _);rw[c0]at qr;rw[c1]at qg;rw[c2]at qs;by_cases hlt:k<ss.length
    ·obtain⟨b,off,rfl,hb,hc,_,_,_,_,_⟩:=hz.s k hlt;have hc:=(hnx.cell (p:=⟨b,off+k*6,Q⟩) (lx hb)).trans ((hold _ hb).trans hc);have hs:Hid (cO ((aJ ss).drop k)=if (ss.getD k s0).key<0∨8<=(ss.getD k s0).key then 3 else cO ((aJ ss).drop (k+1))):=by have:=oE (aJ ss) k (by rw[cM];exact hlt);rw[jR ss k hlt]at this;exact this
     generalize (ss.getD k s0).key=z at *;exact uw
    ·have HX:Hid (X=aH [dP rs,dP (aJ ss),aH (gs.map (dZ rs.length)),aH (ss.map (dY rs.length))]):=by
      refine hno.out.trans ?_;rw[wh (by rw[cM];omega)];exact cT _ _ rfl
     have hW0:=hnx;clear hno hnx
     go_wp2_with fail
     go_loopw [5] (fun i wr=>∃k:Nat,k<=rs.length/\i=Y I (k+1:Nat)/\Hid (X=aH (dP (rs.drop k)::[dP (aJ ss),aH (gs.map (dZ rs.length)),aH (ss.map (dY rs.length))]))/\Below (w.heap.size+1) W0 wr) (fun i _=>rs.length+1 - (intOf i).toNat)
     case atStart=>exact⟨0,nz,rfl,HX,hW0⟩
     case round=>
      clear HX hW0;obtain⟨k,hk,rfl,hno,hnx⟩:=hrel;have qr:=hnx.cell (p:=⟨w.heap.size,0,Q⟩) (nk _);have qg:=hnx.cell (p:=⟨w.heap.size,1,Q⟩) (nk _);have qs:=hnx.cell (p:=⟨w.heap.size,2,Q⟩) (nk _);rw[c0]at qr;rw[c1]at qg;rw[c2]at qs;by_cases hlt:k+1<rs.length
      ·obtain⟨b,off,rfl,hb,hc⟩:=hz.r (k+1) hlt;obtain⟨b',off',hbo,hb',hc'⟩:=hz.r k om;simp only[Option.some.injEq,Addr.mk.injEq,and_true]at hbo;obtain⟨rfl,rfl⟩:=hbo;have hc:=(hnx.cell (p:=⟨b,off+(k+1),Q⟩) (lx hb)).trans ((hold _ hb).trans hc);have hc':=(hnx.cell (p:=⟨b,off+k,Q⟩) (lx hb)).trans ((hold _ hb).trans hc');have hs:=Hi (qG rs k hlt);generalize rs.getD (k+1) 0=y at *;generalize rs.getD k 0=x at *;have i1:(0:Int)<=(k:Int)+1:=om;have i2:((k:Int)+1)<(rs.length:Int):=om;exact vg
      ·have HX:Hid (X=aH [dP (aJ ss),aH (gs.map (dZ rs.length)),aH (ss.map (dY rs.length))]):=by
        refine hno.out.trans ?_;rw[tH rs k om];exact cT _ _ rfl
       have hW0:=hnx;clear hno hnx
       go_wp2_with fail
       go_loopw [6] (fun i wr=>∃k:Nat,k<=ss.length/\i=Y I (k+1:Nat)/\Hid (X=aH (dP ((aJ ss).drop k)::[aH (gs.map (dZ rs.length)),aH (ss.map (dY rs.length))]))/\Below (w.heap.size+1) W0 wr) (fun i _=>ss.length+1 - (intOf i).toNat)
       case atStart=>exact⟨0,nz,rfl,HX,hW0⟩
       case round=>
        clear HX hW0;obtain⟨k,hk,rfl,hno,hnx⟩:=hrel;have qr:=hnx.cell (p:=⟨w.heap.size,0,Q⟩) (nk _);have qg:=hnx.cell (p:=⟨w.heap.size,1,Q⟩) (nk _);have qs:=hnx.cell (p:=⟨w.heap.size,2,Q⟩) (nk _);rw[c0]at qr;rw[c1]at qg;rw[c2]at qs;by_cases hlt:k+1<ss.length
        ·obtain⟨b,off,rfl,hb,hc,_,_,_,_,_⟩:=hz.s (k+1) hlt;obtain⟨b',off',hbo,hb',hc',_,_,_,_,_⟩:=hz.s k om;simp only[Option.some.injEq,Addr.mk.injEq,and_true]at hbo;obtain⟨rfl,rfl⟩:=hbo;have hc:=(hnx.cell (p:=⟨b,off+(k+1)*6,Q⟩) (lx hb)).trans ((hold _ hb).trans hc);have hc':=(hnx.cell (p:=⟨b,off+k*6,Q⟩) (lx hb)).trans ((hold _ hb).trans hc');have hs:Hid (dP ((aJ ss).drop k)=if (ss.getD (k+1) s0).key<=(ss.getD k s0).key then 1 else dP ((aJ ss).drop (k+1))):=by have:=qG (aJ ss) k (by rw[cM];exact hlt);rw[jR ss k om,jR ss (k+1) hlt]at this;exact this
         generalize (ss.getD (k+1) s0).key=y at *;generalize (ss.getD k s0).key=x at *;have i1:(0:Int)<=(k:Int)+1:=om;have i2:((k:Int)+1)<(ss.length:Int):=om;exact vg
        ·have HX:Hid (X=aH [aH (gs.map (dZ rs.length)),aH (ss.map (dY rs.length))]):=by
          refine hno.out.trans ?_;rw[tH (aJ ss) k (by rw[cM];omega)];exact cT _ _ rfl
         have hW0:=hnx;clear hno hnx
         go_wp2_with fail
         go_loopw [7,8,9,10,11,12] (fun i _ _ _ _ _ wr=>∃k:Nat,k<=gs.length/\i=Y I k/\Hid (X=aH (aH ((gs.map (dZ rs.length)).drop k)::[aH (ss.map (dY rs.length))]))/\Below (w.heap.size+1) W0 wr) (fun i _ _ _ _ _ _=>gs.length - (intOf i).toNat)
         case atStart=>exact⟨0,nz,rfl,HX,hW0⟩
         case round=>
          clear HX hW0;obtain⟨k,hk,rfl,hno,hnx⟩:=hrel;have qr:=hnx.cell (p:=⟨w.heap.size,0,Q⟩) (nk _);have qg:=hnx.cell (p:=⟨w.heap.size,1,Q⟩) (nk _);have qs:=hnx.cell (p:=⟨w.heap.size,2,Q⟩) (nk _);rw[c0]at qr;rw[c1]at qg;rw[c2]at qs;by_cases hlt:k<gs.length
          ·obtain⟨b,off,rfl,hb,e0,e1,e2,e3,e4⟩:=hz.g k hlt
           have up:∀j u,w.cell? _=M u->wr.cell? _=M u:=fun j u h=>
            (hnx.cell (p:=⟨b,j,Q⟩) (lx hb)).trans ((hold ⟨b,j,Q⟩ hb).trans h)
           have f0:=up _ _ e0;have f1:=up _ _ e1;have f2:=up _ _ e2;have f3:=up _ _ e3;have f4:=up _ _ e4;have hs:=Hi (gG (dZ rs.length) gs g0 k hlt);have hsz:w.heap.size+1<=wr.heap.size:=by have:=hnx.size;have:=EW.out;subst this;simp at *;omega
           have qrs:=fun o=>(ni wr o ⟨w.heap.size,0,Q⟩ hsz).trans qr
           have qrt:=fun o o'=>(ni (wr.alloc o) o' ⟨w.heap.size,0,Q⟩ (by simp;omega)).trans (qrs o)
           have hwr:Hid ((Lit.int I (rs.length:Int)).wf=true):=WalkArith.wf_i64 om;clear e0 e1 e2 e3 e4 up;generalize (gs.getD k g0)=s at *;obtain⟨kd,ak,an,bk,bn⟩:=s;simp only at f0 f1 f2 f3 f4;have RB:=Hi hnx;have RW:=Hi (hup hnx);clear hnx hz;by_cases hA:eK kd=0
           ·have bA:(eK kd != 0)=false:=by simp[hA]
            by_cases hB:bH ak an rs.length=0
            ·have bB:(bH ak an rs.length != 0)=false:=by simp[hB]
             by_cases hC:bH bk bn rs.length=0
             ·have bC:(bH bk bn rs.length != 0)=false:=by simp[hC]
              have HV:=aAa hno hs (nz3_0 hA hB hC);clear hno hs hA hB hC
              go_wp2_with fail
              refine(iC kd 0 0 _).mono ?_;exact vm
             ·have bC:(bH bk bn rs.length != 0)=true:=by simpa using hC
              have HV:Hid (X=bH bk bn _):=kK hno hs (nz3_3 hA hB hC) hC;clear hno hs hA hB hC
              go_wp2_with fail
              refine(iC kd 0 0 _).mono ?_;exact y7
            ·have bB:(bH ak an rs.length != 0)=true:=by simpa using hB
             have HV:Hid (X=bH ak an _):=kK hno hs (nz3_2 hA hB) hB;clear hno hs hA hB
             go_wp2_with fail
             refine(iC kd 0 0 _).mono ?_;exact zy
           ·have bA:(eK kd != 0)=true:=by simpa using hA
            have HV:Hid (X=eK kd):=kK hno hs (nz3_1 hA) hA;clear hno hs hA
            go_wp2_with fail
            refine(iC kd 0 0 _).mono ?_;exact Xc
          ·have HX:Hid (X=aH [aH (ss.map (dY rs.length))]):=by
            exact X8
           have hW0:=hnx;clear hno hnx
           go_wp2_with fail
           go_loopw [13,14,15,16,17,18] (fun i _ _ _ _ _ wr=>∃k:Nat,k<=ss.length/\i=Y I k/\Hid (X=aH (aH ((ss.map (dY rs.length)).drop k)::[]))/\Below (w.heap.size+1) W0 wr) (fun i _ _ _ _ _ _=>ss.length - (intOf i).toNat)
           case atStart=>exact⟨0,nz,rfl,HX,hW0⟩
           case round=>
            clear HX hW0;obtain⟨k,hk,rfl,hno,hnx⟩:=hrel;have qr:=hnx.cell (p:=⟨w.heap.size,0,Q⟩) (nk _);have qg:=hnx.cell (p:=⟨w.heap.size,1,Q⟩) (nk _);have qs:=hnx.cell (p:=⟨w.heap.size,2,Q⟩) (nk _);rw[c0]at qr;rw[c1]at qg;rw[c2]at qs;by_cases hlt:k<ss.length
            ·obtain⟨b,off,rfl,hb,e0,e1,e2,e3,e4,e5⟩:=hz.s k hlt
             have up:∀j u,w.cell? _=M u->wr.cell? _=M u:=fun j u h=>
              (hnx.cell (p:=⟨b,j,Q⟩) (lx hb)).trans ((hold ⟨b,j,Q⟩ hb).trans h)
             have f0:=up _ _ e0;have f1:=up _ _ e1;have f2:=up _ _ e2;have f3:=up _ _ e3;have f4:=up _ _ e4;have f5:=up _ _ e5;have hs:=Hi (gG (dY rs.length) ss s0 k hlt);have hsz:w.heap.size+1<=wr.heap.size:=by have:=hnx.size;have:=EW.out;subst this;simp at *;omega
             have qrs:=fun o=>(ni wr o ⟨w.heap.size,0,Q⟩ hsz).trans qr
             have qrt:=fun o o'=>(ni (wr.alloc o) o' ⟨w.heap.size,0,Q⟩ (by simp;omega)).trans (qrs o)
             have hwr:Hid ((Lit.int I (rs.length:Int)).wf=true):=WalkArith.wf_i64 om;clear e0 e1 e2 e3 e4 e5 up;generalize (ss.getD k s0)=s at *;obtain⟨key,kd,ak,an,bk,bn⟩:=s;simp only at f0 f1 f2 f3 f4 f5;have RB:=Hi hnx;have RW:=Hi (hup hnx);clear hnx hz;by_cases hA:dG kd=0
             ·have bA:(dG kd != 0)=false:=by simp[hA]
              by_cases hB:bH ak an rs.length=0
              ·have bB:(bH ak an rs.length != 0)=false:=by simp[hB]
               by_cases hC:bH bk bn rs.length=0
               ·have bC:(bH bk bn rs.length != 0)=false:=by simp[hC]
                have HV:=aAa hno hs (nz3_0 hA hB hC);clear hno hs hA hB hC
                go_wp2_with fail
                refine(gE kd 0 0 _).mono ?_;exact vm
               ·have bC:(bH bk bn rs.length != 0)=true:=by simpa using hC
                have HV:Hid (X=bH bk bn _):=kK hno hs (nz3_3 hA hB hC) hC;clear hno hs hA hB hC
                go_wp2_with fail
                refine(gE kd 0 0 _).mono ?_;exact y7
              ·have bB:(bH ak an rs.length != 0)=true:=by simpa using hB
               have HV:Hid (X=bH ak an _):=kK hno hs (nz3_2 hA hB) hB;clear hno hs hA hB
               go_wp2_with fail
               refine(gE kd 0 0 _).mono ?_;exact zy
             ·have bA:(dG kd != 0)=true:=by simpa using hA
              have HV:Hid (X=dG kd):=kK hno hs (nz3_1 hA) hA;clear hno hs hA
              go_wp2_with fail
              refine(gE kd 0 0 _).mono ?_;exact Xc
            ·have HX:Hid (X=aH []):=by
              exact X8
             have hW0:=hnx;clear hno hnx;go_wp2;go_ret;exact⟨by rw[HX.out];rfl,hup hW0⟩
theorem sD (w:World) (ht:IsTx w ra ga sa rs gs ss) :
  Calls prog 126 #[ag #[J ra rs.length rc,J ga gs.length gc,J sa ss.length sc]] w fun e' w'=>e'=rt (Y I (bP rs gs ss))/\Below w.heap.size w w':=by
 by_cases hm:cW rs.length gs.length ss.length=0
 ·exact yF ra ga sa rc gc sc rs gs ss _ w _ ht hm (chk_flat rs gs ss hm) rfl
 ·exact zR ra ga sa rc gc sc rs gs ss w ht hm
end
end Go.Proofs.YtcgpkonfneofdaaGreatDoor
