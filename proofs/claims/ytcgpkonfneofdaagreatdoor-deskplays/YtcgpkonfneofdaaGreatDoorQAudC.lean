/- Conditions: those that each theorem states. -/
import Derived.Test.YtcgpkonfneofdaaGreatDoorQLawA
set_option maxRecDepth 100000
set_option maxHeartbeats 8000000
namespace Go.Proofs.YtcgpkonfneofdaaGreatDoor
open Go.RowKit Go.Proofs.Tryz
open Go.Value renaming slice->J,int->Y,bool->bo,pointer->pd,agg->ag,tuple->tu,string->sg,iface->fc
open Go.IntKind renaming i64->I
open Go.Obj renaming cells->U
open Go.Ending renaming returned->rt,panicked->pg
open Option renaming some->M,none->Q
variable {p:Prop} {w:World}
theorem sO (p:Addr) (x y:Int) (older:List PanicEntry) (w:World) (hc:w.cell? p=M (Y I y)) (hz:w.frozen? p=false) :
  CallsD prog 221 #[pd (M p)] (.panicking ({v:=fc 22 (Y I x),recovered:=false}::older)) w fun e u' w'=>
   e=rt (tu #[])/\u'=.panicking ({v:=fc 22 (Y I x),recovered:=true}::older)/\w'=w.setCell p (Y I x):=by
 exact xi
theorem catchNu_idle (p:Addr) (w:World) :
  CallsD prog 221 #[pd (M p)] .returning w fun e u' w'=>e=rt (tu #[])/\u'=.returning/\w'=w:=by
 exact x8
theorem caughtNu_ret (F:FuncId) (cap:Array Value) (hF:∀w,Sem.run prog (callFunc F cap) w=.ok (.enter F cap) w) (P:Value->World->Prop) (w:World) (hP:∀v w',P v w'->P v (w'.setCell ⟨w.heap.size,0,Q⟩ (Y I 0)))
  (h:Calls prog F cap (w.alloc (U #[Y I 0] 22)) fun e w'=>∃v,e=rt v/\P v w'/\Below (w.heap.size+1) (w.alloc (U #[Y I 0] 22)) w') :
  Calls prog 185 #[.func (.func F) #[] cap] w fun e w'=>∃v,e=rt (tu #[v,Y I 0])/\P v w'/\Below w.heap.size w w':=by
 have H:=Hi h;have HP:=Hi hP;have HF:=Hi hF;clear h hP hF;go_enter_defers func185,ntmps185
 go_wp2_with fail
 rw[HF.out,Oper.upon_enter];refine H.out.mono ?_;clear H;rintro e w1 ⟨v,rfl,hv,hb⟩;have hc:w1.cell? ⟨w.heap.size,0,Q⟩=Y I 0:=by rw[hb.cell sm];simp
 have hf:w1.frozen? ⟨w.heap.size,0,Q⟩=false:=by rw[hb.frozen sm];simp
 have Hb:=Hi hb;have HV:=Hi (HP.out v w1 hv);clear hb hv HP;go_wp2;refine leaves_cons (f:=221) (args:=#[pd (M ⟨w.heap.size,0,Q⟩)]) sm (by simp[go_sem]) ?_;refine(catchNu_idle ⟨w.heap.size,0,Q⟩ _).mono ?_;rintro e u' w'' ⟨rfl,rfl,rfl⟩;simp[Leaves,settle,results,results185,go_sem,hc];exact vu
theorem caughtNu_pan (F:FuncId) (cap:Array Value) (hF:∀w,Sem.run prog (callFunc F cap) w=.ok (.enter F cap) w) (x:Int) (w:World)
  (h:Calls prog F cap (w.alloc (U #[Y I 0] 22)) fun e w'=>e=pg [{v:=fc 22 (Y I x),recovered:=false}]/\Below (w.heap.size+1) (w.alloc (U #[Y I 0] 22)) w') :
  Kr 185 #[.func (.func F) #[] cap] w (tu #[Y I 0,Y I x]):=by
 have H:=Hi h;have HF:=Hi hF;clear h hF;go_enter_defers func185,ntmps185
 go_wp2_with fail
 rw[HF.out,Oper.upon_enter];refine H.out.mono ?_;clear H;rintro e w1 ⟨rfl,hb⟩;have hc:w1.cell? ⟨w.heap.size,0,Q⟩=Y I 0:=by rw[hb.cell sm];simp
 have hf:w1.frozen? ⟨w.heap.size,0,Q⟩=false:=by rw[hb.frozen sm];simp
 refine leaves_cons (f:=221) (args:=#[pd (M ⟨w.heap.size,0,Q⟩)]) sm (by simp[go_sem]) ?_;refine(sO ⟨w.heap.size,0,Q⟩ x 0 [] _ hc hf).mono ?_;exact Vu
theorem UY (h:p:=by
 go_wp2;go_roundw
 case rel=>exact⟨k+1,by omega,by go_num,H1,aC hB.out B4.out⟩
 case measure=>simp[intOf];omega):p:=h
theorem Vk (h:p:=by
 have h:=HF.out _ (show (cF s l).getD k (false,[])∈cF s l by simp[List.getD,hk2]);unfold maxLen;omega):p:=h
theorem VN (h:p:=by
 exact⟨by rw[H1.out];rfl,B5.out⟩):p:=h
theorem Xb (h:p:=by
 by_cases e:j=k
 ·rw[e,HD.out,HD2.out];exact hxy
 ·exact hsm.out j om):p:=h
section
def fD:List (Bool×List Int)->List (Bool×List Int)->Nat
 | x::t,y::u=>if x=y then fD t u+1 else 0
 | [],_=>0
 | _::_,[]=>0
theorem fD_at:∀(a b:List (Bool×List Int)) (k:Nat),k<a.length->k<b.length->(∀j,j<k->a.getD j (false,[])=b.getD j (false,[]))->¬a.getD k (false,[])=b.getD k (false,[])->fD a b=k/\¬a=b
 | [],_,k,h,_,_,_=>absurd h (nl _)
 | _::_,[],k,_,h,_,_=>absurd h (nl _)
 | x::t,y::u,0,_,_,_,hn=>by
  have hn':¬x=y:=hn;exact⟨if_neg hn',fun e=>hn' (by injection e)⟩
 | x::t,y::u,k+1,h1,h2,hs,hn=>by
  have hxy:x=y:=hs 0 (wt _);obtain⟨f1,f2⟩:=fD_at t u k (by simpa using h1) (by simpa using h2) (fun j hj=>hs (j+1) om) hn;refine⟨?_,fun e=>f2 (by injection e)⟩;show (if x=y then fD t u+1 else 0)=k+1;rw[if_pos hxy,f1]
theorem qT:∀(a b:List (Bool×List Int)),a.length=b.length->(∀j,j<a.length->a.getD j (false,[])=b.getD j (false,[]))->a=b
 | [],[],_,_=>rfl
 | [],_::_,h,_=>by simp at h
 | _::_,[],h,_=>by simp at h
 | x::t,y::u,h,hs=>by
  have hxy:x=y:=hs 0 sm;rw[hxy,qT t u (by simpa using h) (fun j hj=>hs (j+1) (by simpa using hj))]
def kI (s:List Int) (l:List TxA) (en:List Int) (r:List (Bool×List Int)):Int:=aH [fN s l,cP en,oA (cF s l).length r.length]
def mV (s:List Int) (l:List TxA) (en:List Int) (r:List (Bool×List Int)):Int:=if cF s l=r then (if kR s l=en then -1 else (l.length:Nat)) else (fD (cF s l) r:Nat)
def jE (s:List Int) (l:List TxA) (en:List Int) (r:List (Bool×List Int)):Int:=if kI s l en r=0 then mV s l en r else 0
theorem tX {s:List Int} {l:List TxA} {en:List Int} {r:List (Bool×List Int)} (h:kI s l en r=0):fN s l=0/\en.length=8/\r.length=l.length/\cF s l=bE s l/\kR s l=bK s l:=by
 have h0:fN s l=0:=aW _ h 0;have h1:cP en=0:=aW _ h 1;have h2:oA (cF s l).length _=0:=aW _ h 2;have e1:cF s l=bE s l:=if_pos h0;have e2:kR s l=bK s l:=if_pos h0;refine⟨h0,?_,?_,e1,e2⟩
 ·unfold cP at h1;by_cases c:en.length=8
  ·exact c
  ·rw[if_neg c]at h1;omega
 ·by_cases c:r.length=(cF s l).length
  ·rw[c,e1,fP]
  ·have h3:oA (cF s l).length _=1:=if_neg c;omega
variable (sa la ea ra:Option Addr) (sc lc ec rc:Nat) (s:List Int) (l:List TxA) (en:List Int) (r:List (Bool×List Int))
theorem aud1_pan (p0 p1 p2 p3:Nat) (w:World) (h0:w.cell? ⟨p0,0,Q⟩=J sa s.length sc) (h1:w.cell? ⟨p1,0,Q⟩=J la l.length lc) (h2:w.cell? ⟨p2,0,Q⟩=J ea en.length ec) (h3:w.cell? ⟨p3,0,Q⟩=J ra r.length rc) (hs:IsInts w sa s) (hl:IsTxs w la l) (hE:¬kI s l en r=0) :
  Kp 186 #[pd (M ⟨p0,0,Q⟩),pd (M ⟨p1,0,Q⟩),pd (M ⟨p2,0,Q⟩),pd (M ⟨p3,0,Q⟩)] w (kI s l en r):=by
 have HE:Hid (¬aH [fN s l,cP en,oA (cF s l).length _]=0):=hE;have HV:Hid (kI s l en r=aH [fN s l,cP en,oA (cF s l).length _]):=rfl;have CS:Hid (Calls _ 187 _ w fun e w'=>∃ea ec xa xc,e=rt (tu #[J ea (kR s l).length ec,J xa (cF s l).length xc,Y I _])/\Below _ w w'):=(wP sa la sc lc s l w hs hl).mono (by rintro e w' ⟨ea,ec,xa,xc,rfl,_,hb⟩;exact⟨ea,ec,xa,xc,rfl,hb⟩);clear hs hl hE;go_enter func186,ntmps186
 go_wp2_with fail
 refine CS.out.mono ?_;rintro e w1 ⟨wa,wc,xa,xc,rfl,hb1⟩;have B1:=Hi hb1;have y2:=aB hb1 h2;have y3:=aB hb1 h3;clear h0 h1 h2 h3 hb1 CS
 go_upto_region 2 with fail
 go_region_held (fun w'=>Below w1.heap.size w1 w'/\w'.cell? ⟨p2,0,Q⟩=J ea en.length ec/\w'.cell? ⟨p3,0,Q⟩=J ra r.length rc) ((go_split_ands;refine ext2 ?_ y2 y3;repeat (first | assumption | exact br | refine aD ?_ | refine aA ?_ _ | refine aC ?_ (by assumption))))
  (first
   | (go_at_call 78;refine(dE en ea ec _).mono ?_;rintro e w' ⟨rfl,rfl⟩)
   | (go_at_call 188;refine(sZ _ _ _ _ _ _ _).mono ?_;rintro e w' ⟨rfl,rfl⟩)
   | (go_at_call 15;refine(fT (dR [fN s l,cP en,oA (cF s l).length r.length] _ 3 _ sm HE.out ?_) (tu #[])).mono ?_;(exact aBk _ _ _ _ _ sm);rintro e w' (⟨rfl,rfl⟩ | ⟨hF,rfl,rfl⟩);(refine⟨rfl,by rw[HV.out],aC B1.out ?_⟩;go_split_ands;repeat (first | assumption | exact br | refine aD ?_ | refine aA ?_ _ | refine aC ?_ (by assumption)))))
 all_goals exact(‹Hid False› : Hid False).out.elim
theorem aud1_ok (p0 p1 p2 p3:Nat) (w:World) (h0:w.cell? ⟨p0,0,Q⟩=J sa s.length sc) (h1:w.cell? ⟨p1,0,Q⟩=J la l.length lc) (h2:w.cell? ⟨p2,0,Q⟩=J ea en.length ec) (h3:w.cell? ⟨p3,0,Q⟩=J ra r.length rc) (hs:IsInts w sa s) (hl:IsTxs w la l) (he:IsInts w ea en) (hr:IsRes w ra r) (hE:kI s l en r=0) :
  Kr 186 #[pd (M ⟨p0,0,Q⟩),pd (M ⟨p1,0,Q⟩),pd (M ⟨p2,0,Q⟩),pd (M ⟨p3,0,Q⟩)] w (Y I (mV s l en r)):=by
 have HE:Hid (aH [fN s l,cP en,oA (cF s l).length _]=0):=hE;obtain⟨z1,z2,z3,z4,z5⟩:=tX hE;have hl8:=cJ (iY z1).2;have hRl:(cF s l).length=l.length:=by rw[z4,fP]
 have hEl:(kR s l).length=8:=by rw[z5,fQ];exact(iY z1).1
 have HF:Hid (∀q∈cF s l,q.2.length<=100):=by
  show ∀q∈cF s l,q.2.length<=100;rw[z4];exact vals_few z1
 have CS:Hid (Calls _ 187 _ w fun e w'=>∃ea ec xa xc,e=rt (tu #[J ea (kR s l).length ec,J xa (cF s l).length xc,Y I _])/\IsInts w' ea _/\IsRes w' xa _/\Below _ w w'):=(wP sa la sc lc s l w hs hl).mono (by rintro e w' ⟨ea,ec,xa,xc,rfl,h,hb⟩;exact⟨ea,ec,xa,xc,rfl,h.ints,h.res,hb⟩);have HR:=Hi hr;have HEN:=Hi he;have HRL:=Hi hRl;have HEL:=Hi hEl;have HRN:=Hi z3;clear hs hl he hr hE z1 z2 z3 z4 z5 hRl hEl;go_enter func186,ntmps186
 go_wp2_with fail
 refine CS.out.mono ?_;rintro e w1 ⟨wa,wc,xa,xc,rfl,hw1,hx1,hb1⟩;have B1:=Hi hb1;have HWA:=Hi hw1;have HXA:=Hi hx1;have y1:=aB hb1 h1;have y2:=aB hb1 h2;have y3:=aB hb1 h3;clear h0 h1 h2 h3 hb1 CS hw1 hx1
 go_upto_region 2 with fail
 have KS:Hid (∀w',Below _ w1 w'->w'.cell? _=M _/\w'.cell? _=M _):=fun w' hb=>⟨aB hb y2,aB hb y3⟩
 clear y2 y3;refine wp_region_held_drew (S:=(fun w'=>w'.cell? ⟨p2,0,Q⟩=J ea en.length ec/\w'.cell? ⟨p3,0,Q⟩=J ra r.length rc)) kr ?_ (fun hHeld=>?_)
 ·exact KS.out _ (aD br)
 refine tk 0 ?_;refine tk 1 ?_;refine tk 3 ?_;refine tk 4 ?_;refine r1 2 (fun K hK=>?_);go_simp
 go_wp2_with (go_at_call 78;refine(dE en ea ec _).mono ?_;rintro e w' ⟨rfl,hwe⟩;subst hwe)
 clear hHeld;refine hK.out _ _ (KS.out _ (aD br)) (fun hHeld=>?_);clear hK K;refine r1 5 (fun K hK=>?_);go_simp
 go_wp2_with (go_at_call 188;refine(sZ _ _ _ _ _ _ _).mono ?_;rintro e w' ⟨rfl,hwe⟩;subst hwe)
 clear hHeld;refine hK.out _ _ (KS.out _ (aD br)) (fun hHeld=>?_);clear hK K;refine r1 6 (fun K hK=>?_);go_simp;skip;clear hHeld;refine hK.out _ _ (KS.out _ (aD (aA br _))) (fun hHeld=>?_);clear hK K;refine r1 7 (fun K hK=>?_);go_simp
 go_wp2_with (go_at_call 15;refine(aQ [fN s l,cP en,oA (cF s l).length r.length] _ 3 _ sm HE.out (fun k hk=>aB (aD br) (aBk w1 _ _ _ _ rfl k hk))).mono ?_;rintro e w3 ⟨rfl,hwe⟩;subst hwe)
 clear hHeld;refine hK.out _ _ (KS.out _ (aD (aA br _))) (fun hHeld=>?_);clear hK K;refine wpAnyH_done kr ?_ _;obtain⟨y2,y3⟩:=KS.out (w1.alloc (U #[Y I (fN s l),Y I (cP en),Y I (oA (cF s l).length r.length)] 22)).drew (aD (aA br _));have BV:Hid (Below _ w1 (w1.alloc (U #[Y I (fN s l),Y I (cP en),Y I (oA (cF s l).length r.length)] 22)).drew):=(aD (aA br _));have y1:=aB BV.out y1;clear hHeld KS;generalize (w1.alloc (U #[Y I (fN s l),Y I (cP en),Y I (oA (cF s l).length r.length)] 22)).drew=V at *;have KV:Hid (∀w',Below _ V w'->w'.cell? _=M _/\w'.cell? _=M _/\w'.cell? _=M _):=fun w' hb=>⟨aB hb y1,aB hb y2,aB hb y3⟩
 have B1:=Hi (aC B1.out BV.out);have HWA:=Hi (HWA.out.below BV.out);have HXA:=Hi (HXA.out.below BV.out);clear y1 y2 y3 BV;go_wp2
 go_loopw [26] (fun i wr=>∃k:Nat,k<=(cF s l).length/\i=Y I k/\Hid (∀j,j<k->(cF s l).getD j (false,[])=r.getD j (false,[]))/\Hid (Below V.heap.size V wr)) (fun i _=>(cF s l).length - (intOf i).toNat)
 case atStart=>exact⟨0,nz,rfl,fun j hj=>absurd hj (nl _),br⟩
 case round=>
  obtain⟨k,hk,rfl,hsm,hB⟩:=hrel;obtain⟨y1,y2,y3⟩:=KV.out wr hB.out;have hk8:k<=8:=by have:=HRL.out;omega
  by_cases hk2:k<(cF s l).length
  ·have hk3:k<r.length:=by have:=HRL.out;have:=HRN.out;omega
   obtain⟨b,off,va,vc,ea1,_,c0,c1,hx⟩:=HXA.out k hk2;obtain⟨b',off',va',vc',ea2,_,d0,d1,hy⟩:=HR.out k hk3;subst ea1 ea2
   have hxl:((cF s l).getD k (false,[])).2.length<=maxLen:=by
    exact Vk
   have c0:=aB hB.out c0;have c1:=aB hB.out c1;have d0:=aB (aC B1.out hB.out) d0;have d1:=aB (aC B1.out hB.out) d1;have hX0:=hx.below hB.out;have hY0:=hy.below (aC B1.out hB.out);obtain⟨⟨d,xs⟩,hD⟩:∃z,(cF s l).getD k (false,[])=z:=⟨_,rfl⟩;obtain⟨⟨d',ys⟩,hD2⟩:∃z,r.getD k (false,[])=z:=⟨_,rfl⟩;rw[hD]at c0 c1 hxl hX0;rw[hD2]at d0 d1 hY0;simp only at c0 c1 d0 d1 hxl hX0 hY0;have HD:=Hi hD;have HD2:=Hi hD2;have hX:=Hi hX0;have hY:=Hi hY0;have i1:(k:Int)<((cF s l).length:Int):=om;have i2:(k:Int)<(r.length:Int):=om;obtain⟨q0,HQ0⟩:∃q0:Bool,Hid (decide (((d,xs):Bool×List Int)=(d',ys))=q0):=⟨_,rfl⟩
   have CX:Hid (∀w',Below wr.heap.size wr w'->Kr 189 #[ag #[bo d,J va xs.length vc],ag #[bo d',J va' ys.length vc']] w' (bo q0)):=fun w' hb=>by
    have h:=same_any d d' xs ys va va' vc vc' w' hxl (hX.out.below hb) (hY.out.below hb);rw[HQ0.out]at h;exact h
   clear hx hy hD hD2 hX0 hY0 y1 y2 hX hY
   go_upto_region 6 with fail
   have KS:Hid (∀w',Below _ wr w'->w'.cell? _=M _/\w'.cell? _=M _/\w'.cell? _=M _/\w'.cell? _=M _/\w'.cell? _=M _):=fun w' hb=>⟨aB hb c0,aB hb c1,aB hb y3,aB hb d0,aB hb d1⟩
   clear c0 c1 d0 d1 y3;refine wp_region_held_drew (S:=(fun w'=>w'.cell? ⟨b,off+k*2,Q⟩=bo d/\w'.cell? ⟨b,off+k*2+1,Q⟩=J va xs.length vc/\w'.cell? ⟨p3,0,Q⟩=J (M ⟨b',off',Q⟩) r.length rc/\w'.cell? ⟨b',off'+k*2,Q⟩=bo d'/\w'.cell? ⟨b',off'+k*2+1,Q⟩=J va' ys.length vc')) kr ?_ (fun hHeld=>?_)
   ·exact KS.out _ (aD br)
   refine tk 0 ?_;refine tk 1 ?_;refine tk 2 ?_;refine tk 3 ?_;refine tk 4 ?_;refine tk 5 ?_;refine tk 6 ?_;refine tk 7 ?_;refine r1 8 (fun K hK=>?_);go_simp
   go_wp2_with (go_at_call 189;refine(CX.out _ (aD br)).mono ?_;rintro e w4 ⟨rfl,hb4⟩)
   have B4:=Hi (aC (aD br) hb4);clear hHeld;refine hK.out _ _ (KS.out _ B4.out) (fun hHeld=>?_);clear hK K;refine tk 9 ?_;refine wpAnyH_done kr ?_ _;clear hHeld KS;by_cases hxy:((d,xs):Bool×List Int)=(d',ys)
   ·have H1:Hid (∀j,j<k+1->(cF s l).getD j (false,[])=r.getD j (false,[])):=fun j hj=>by
     exact Xb
    have e0:q0=true:=by rw[<-HQ0.out];exact decide_eq_true hxy
    subst e0;clear hxy;exact UY
   ·have H1:Hid (mV s l en r=(k:Nat)):=by
     obtain⟨f1,f2⟩:=fD_at (cF s l) r k hk2 om hsm.out (by rw[HD.out,HD2.out];exact hxy);show _=_;unfold mV;rw[if_neg f2,f1]
    have e0:q0=false:=by rw[<-HQ0.out];exact decide_eq_false hxy
    subst e0;clear hxy;go_wp2;go_ret;exact⟨by rw[H1.out];rfl,aC B1.out (aC hB.out B4.out)⟩
  ·have hkk:k=(cF s l).length:=om;have hAll:=Hi (qT _ _ (by rw[HRL.out,HRN.out]) (fun j hj=>hsm.out j om));have i1:¬(k:Int)<((cF s l).length:Int):=om;have hEm:(kR s l).length<=maxLen:=by rw[HEL.out];unfold maxLen;omega
   clear hkk hk2 hsm y3
   go_wp2_with fail
   refine(pT (kR s l) en wa ea wc ec _ hEm (HWA.out.below hB.out) (HEN.out.below (aC B1.out hB.out))).mono ?_;rintro e w5 ⟨rfl,hb5⟩;have y1:=aB hb5 y1;have B5:=Hi (aC B1.out (aC hB.out hb5));by_cases hq:kR s l=en
   ·have H1:Hid (mV s l en r = -1):=by show _=_;unfold mV;rw[if_pos hAll.out,if_pos hq]
    rw[decide_eq_true hq];clear hq hb5;go_wp2;go_ret;exact VN
   ·have H1:Hid (mV s l en r=(l.length:Nat)):=by show _=_;unfold mV;rw[if_pos hAll.out,if_neg hq]
    rw[decide_eq_false hq];clear hq hb5;go_wp2;go_ret;exact VN
theorem audit_any (w:World) (hs:IsInts w sa s) (hl:IsTxs w la l) (he:IsInts w ea en) (hr:IsRes w ra r) :
  Kr 156 #[J sa s.length sc,J la l.length lc,J ea en.length ec,J ra r.length rc] w (tu #[Y I (jE s l en r),Y I (kI s l en r)]):=by
 obtain⟨W,hWe⟩:=nm (((((w.alloc (U #[J sa s.length sc] 41)).alloc (U #[J la l.length lc] 27)).alloc (U #[J ea en.length ec] 41)).alloc (U #[J ra r.length rc] 115)));have hU:Hid (Below w.heap.size w W):=by subst hWe;exact(aA (aA (aA (aA br _) _) _) _)
 have h0:W.cell? ⟨w.heap.size,0,Q⟩=J sa s.length sc:=by subst hWe;exact aB (aA (aA (aA br _) _) _) (aF _ _ 41 _ 0 _ (by first | rfl | simp) rfl)
 have h1:W.cell? ⟨w.heap.size+1,0,Q⟩=J la l.length lc:=by subst hWe;exact aB (aA (aA br _) _) (aF _ _ 27 _ 0 _ (by first | rfl | simp) rfl)
 have h2:W.cell? ⟨w.heap.size+2,0,Q⟩=J ea en.length ec:=by subst hWe;exact aB (aA br _) (aF _ _ 41 _ 0 _ (by first | rfl | simp) rfl)
 have h3:W.cell? ⟨w.heap.size+3,0,Q⟩=J ra r.length rc:=by subst hWe;exact aB br (aF _ _ 115 _ 0 _ (by first | rfl | simp) rfl)
 have CC:Hid (Kr 185 #[.func (.func 186) #[] #[pd (M ⟨w.heap.size,0,Q⟩),pd (M ⟨w.heap.size+1,0,Q⟩),pd (M ⟨w.heap.size+2,0,Q⟩),pd (M ⟨w.heap.size+3,0,Q⟩)]] W (tu #[Y I (jE s l en r),Y I (kI s l en r)])):=by
  have g:Below _ W (W.alloc (U #[Y I 0] 22)):=aA br _;have gg:=aC hU.out g;have h0:=aB g h0;have h1:=aB g h1;have h2:=aB g h2;have h3:=aB g h3;by_cases hE:kI s l en r=0
  ·have e1:jE s l en r=mV s l en r:=if_pos hE;rw[e1,hE];refine(caughtNu_ret 186 _ (fun _=>rfl) (fun v _=>v=Y I (mV s l en r)) W (fun _ _ h=>h) ((aud1_ok sa la ea ra sc lc ec rc s l en r _ _ _ _ _ h0 h1 h2 h3 (hs.below gg) (hl.below gg) (he.below gg) (hr.below gg) hE).mono ?_)).mono ?_
   ·rintro e w' ⟨rfl,hb⟩;exact⟨_,rfl,rfl,by simpa using hb⟩
   ·rintro e w' ⟨v,rfl,rfl,hb⟩;exact⟨rfl,hb⟩
  ·have e1:jE s l en r=0:=if_neg hE;rw[e1];refine(caughtNu_pan 186 _ (fun _=>rfl) (kI s l en r) W ((aud1_pan sa la ea ra sc lc ec rc s l en r _ _ _ _ _ h0 h1 h2 h3 (hs.below gg) (hl.below gg) hE).mono ?_)).mono ?_
   ·rintro e w' ⟨rfl,hb⟩;exact⟨rfl,by simpa using hb⟩
   ·rintro e w' ⟨rfl,hb⟩;exact⟨rfl,hb⟩
 have HWe:Hid (W=_):=hWe;clear h0 h1 h2 h3 hs hl he hr hWe;go_enter func156,ntmps156
 go_upto_region 1 with fail
 rw[<-HWe.out];clear HWe
 go_wp2_with fail
 refine CC.out.mono ?_;rintro e w1 ⟨rfl,hb⟩;have B1:=Hi (aC hU.out hb);clear hb CC;exact Up
end
section
theorem ResRow.res2 {C:Nat} {v:Value} {rl:List RsA} (h:ResRow C w v rl):∃a cap,v=J a (rl.map RsA.told).length cap/\IsRes w a (rl.map RsA.told)/\(rl.map RsA.told).length<=cap:=by
 obtain⟨a,cap,hv,hr⟩:=h.res;refine⟨a,cap,hv,hr,?_⟩;have hl:(rl.map RsA.told).length=rl.length:=sm;rw[hl]at hv ⊢;rcases h.1.2 with ⟨hv2,h0⟩ | ⟨g,cap2,cur,hv2,hb,hg,hnc,hcm,hcs,htake⟩
 ·omega
 ·rw[hv]at hv2;injection hv2 with _ _ e3
  omega
variable (sa la:Option Addr) (sc lc:Nat) (s:List Int) (l:List TxA)
theorem serialOf_ok (w:World) (hs:IsInts w sa s) (h8:s.length=8) (hl:IsTxs w la l) (hE:eN l=0) :
  Calls prog 96 #[J sa s.length sc,J la l.length lc] w fun e w'=>∃ea ec xa xc,e=rt (tu #[J ea s.length ec,J xa (bE s l).length xc,Y I 0])/\IsInts w' ea (bK s l)/\IsRes w' xa (bE s l)/\(bE s l).length<=xc/\Below w.heap.size w w':=by
 have hl8:=cJ hE;obtain⟨i0,hi,hz0,hz1,hz2⟩:=info_parts info3
 obtain⟨ad,rfl⟩:∃ad,sa=M ad:=by
  exact Vt
 have HS:=Hi hs;have HL:=Hi hl;have HE:=Hi hE;have H8:=Hi h8;have hd8:=Hi (decide_eq_true h8);clear hs hl hE h8;go_enter func96,ntmps96
 go_wp2_with fail
 refine(fW s (M ad) sc _).mono ?_;rintro e w0 ⟨rfl,hw0⟩;rw[hw0,hd8.out];clear hw0
 go_wp2_with fail
 refine(mA la lc l _ HL.out).mono ?_;rintro e w1 ⟨rfl,hb1⟩;rw[HE.out];have hs1:Hid (∀o:Obj,IsInts (w1.alloc o) _ s):=fun o=>(HS.out.below hb1).below (aA br _)
 go_wp2_with (first
  | (at_builtin;refine wpList_append_own _ rfl _ _ 41 rfl w1.heap.size 3 i0 (Y I 0) 1 8 underlying41 hi hz0 hz1 hz2 rfl dc _ 0 [] rfl (lv w1 #[] 0 nr dc rfl) ad s.length sc (s.map (Y I)) rfl sm (aAp (hs1.out _)) (ints_oneCell I s) (by have:=H8.out;unfold maxLen;omega) (by have:=H8.out;omega) sm ?_;intro v' w3 hown' hgrow _)
  | go_in)
 have RB:=(aA br _).grown hgrow sm (fun j hj=>by have hj':M w1.heap.size=M j:=hj;injection hj' with hj';exact Nat.le_of_eq hj');simp only[Nat.zero_add,List.nil_append]at hown';obtain⟨oa,oc,rfl,hoa⟩:=gC hown';have hW3:=Hi (aC hb1 RB);have hoa':=Hi (hoa.ints nr);clear hgrow RB hown' hoa hs1 hb1;go_wp2
 go_loopw [8,9,10,11] (fun o v i _ wr=>∃(k:Nat) (oa:Option Addr) (oc:Nat) (rl:List RsA),k<=l.length/\o=J oa s.length oc/\i=Y I k/\Hid (IsInts wr oa (bK s (l.take k)))/\Hid (ResRow w.heap.size wr v rl)/\Hid (rl.map RsA.told=bE s (l.take k))/\Hid (Below w.heap.size w wr)) (fun _ _ i _ _=>l.length - (intOf i).toNat)
 case atStart=>exact⟨0,oa,oc,[],nz,rfl,rfl,hoa',kS _ _,rfl,hW3⟩
 case round=>
  obtain⟨k,oa,oc,rl,hk,rfl,rfl,hout,hres,htold,hbl⟩:=hrel;clear hW3 hoa';by_cases hlt:k<l.length
  ·obtain⟨b,off,rfl,hb,c0,c1,c2,hx⟩:=HL.out k hlt;have d0:=aB (aA hbl.out (U #[bo false,J Q 0 0] 148)) c0;have d1:=aB (aA hbl.out (U #[bo false,J Q 0 0] 148)) c1;have d2:=aB (aA hbl.out (U #[bo false,J Q 0 0] 148)) c2;have HX:=Hi hx;have HC:=Hi (pK HE.out k hlt);have HT1:=Hi (lI s l k hlt);have HT2:=Hi (uD s l k hlt);have hs1:Hid ((bK s (l.take k)).length=s.length):=fQ _ _;have HR1:Hid ((bE s (l.take k)).length=k):=by show _=_;rw[fP,l6];omega
   clear c0 c1 c2 hx;generalize bK s (l.take k)=s1 at *;generalize bE s (l.take k)=R1 at *;generalize l.getD k x0=x at *;obtain⟨ra,ga,ta,rc,gc,tc,rs,gs,ss⟩:=x;simp only at d0 d1 d2
   have CA:Hid (letI Z:=wr.alloc (U #[bo false,J Q 0 0] 148);Calls prog 136 #[J oa s.length oc,ag #[J ra rs.length rc,J ga gs.length gc,J ta ss.length tc]] Z fun e w''=>∃a cap va vc,e=rt (tu #[J a s.length cap,ag #[bo (uZ s1 ⟨ra,ga,ta,rc,gc,tc,rs,gs,ss⟩),J va (pY s1 ⟨ra,ga,ta,rc,gc,tc,rs,gs,ss⟩).length vc]])/\IsAt (wr.heap.size+1) w''.heap.size w'' a (pM s1 ⟨ra,ga,ta,rc,gc,tc,rs,gs,ss⟩)/\IsAt (wr.heap.size+1) w''.heap.size w'' va (pY s1 ⟨ra,ga,ta,rc,gc,tc,rs,gs,ss⟩)/\Below Z.heap.size Z w''):=by
    have h:=applyR_any oa oc s1 ra ga ta rc gc tc rs gs ss (wr.alloc (U #[bo false,J Q 0 0] 148)) (hout.out.below (aA br _)) (by rw[hs1.out];exact H8.out) (HX.out.t.below (aA hbl.out _)) HC.out;rw[hs1.out]at h;refine h.mono ?_;rintro e w'' ⟨a,cap,va,vc,rfl,h1,_,h2,h3⟩;exact⟨a,cap,va,vc,rfl,h1.widen sm nr,h2.widen sm nr,h3⟩
   generalize uZ s1 ⟨ra,ga,ta,rc,gc,tc,rs,gs,ss⟩=D at *;generalize pY s1 ⟨ra,ga,ta,rc,gc,tc,rs,gs,ss⟩=Z at *;generalize pM s1 ⟨ra,ga,ta,rc,gc,tc,rs,gs,ss⟩=E1 at *
   have hrl:rl.length<=100:=by
    exact zj
   have hWw:=Hi hbl.out.size;have hlo:=Hi (fun j hj=>(hres.out.1.lt j hj).1);have hown:=Hi (fun j hj=>(hres.out.1.lt j hj).2)
   go_wp2_with fail
   refine CA.out.mono ?_;clear CA;rintro e wa ⟨a,cap,va,vc,rfl,ha,hva,hba⟩;have f0:wa.cell? ⟨wr.heap.size,0,Q⟩=bo false:=aB hba sm;have f1:wa.cell? ⟨wr.heap.size,1,Q⟩=J Q 0 0:=aB hba sm;have ff:∀j,wa.frozen? _=false:=fun j=>(hba.frozen (p:=⟨wr.heap.size,j,Q⟩) sm).trans sm
   have g0:((wa.setCell ⟨wr.heap.size,0,Q⟩ (bo D)).setCell ⟨wr.heap.size,1,Q⟩ (J va Z.length vc)).cell? ⟨wr.heap.size,0,Q⟩=bo D:=by simp[go_sem,f0]
   have g1:((wa.setCell ⟨wr.heap.size,0,Q⟩ (bo D)).setCell ⟨wr.heap.size,1,Q⟩ (J va Z.length vc)).cell? ⟨wr.heap.size,1,Q⟩=J va Z.length vc:=by simp[go_sem,f1]
   have U1:Below wr.heap.size wr ((wa.setCell ⟨wr.heap.size,0,Q⟩ (bo D)).setCell ⟨wr.heap.size,1,Q⟩ (J va Z.length vc)):=aG (aG (aC (aA br _) hba) nr _) nr _;have ha2:IsAt _ wa.heap.size ((wa.setCell _ (bo D)).setCell _ (J va Z.length vc)) a E1:=(ha.set ⟨wr.heap.size,0,Q⟩ _ (.inl sm)).set ⟨wr.heap.size,1,Q⟩ _ (.inl sm);have hva2:IsAt _ wa.heap.size ((wa.setCell _ (bo D)).setCell _ (J va Z.length vc)) va Z:=(hva.set ⟨wr.heap.size,0,Q⟩ _ (.inl sm)).set ⟨wr.heap.size,1,Q⟩ _ (.inl sm);have hws:wa.heap.size=((wa.setCell ⟨wr.heap.size,0,Q⟩ (bo D)).setCell ⟨wr.heap.size,1,Q⟩ (J va Z.length vc)).heap.size:=sm;rw[hws]at ha2 hva2;have hres2:=Hi (hres.out.below U1);have hbl2:=Hi (aC hbl.out U1);have Ha2:=Hi ha2;have Hva2:=Hi hva2
   go_upto_region 13 with fail
   clear ha hva hba f0 f1 ff U1 hws ha2 hva2 hres hbl hout d0 d1 d2;generalize ((wa.setCell ⟨wr.heap.size,0,Q⟩ (bo D)).setCell ⟨wr.heap.size,1,Q⟩ (J va Z.length vc))=W at *
   have hfar:Hid (∀{zs:List Int} {q:Option Addr},IsAt (wr.heap.size+1) W.heap.size W q zs->zs≠[]->∀ad,q=M ad->u9.ownBlock≠M ad.block):=fun h hne ad had e=>by
    obtain⟨b,off,ha',h1,_,_⟩:=h 0 (List.length_pos_iff.2 hne);rw[had]at ha';injection ha' with ha'
    subst ha';have:=hown.out _ e;simp at this;omega
   go_wp2_with (first
    | (at_builtin;refine iW rfl _ _ rfl w.heap.size u9 rl ⟨va,vc,D,Z⟩ rfl (hres2.out.below (aA br _)) ⟨W.heap.size,0,Q⟩ 1 rfl (vS W D _ _ rfl) (((Hva2.out.below (aA br _))).widen (by have:=hWw.out;omega) sm) (hfar.out Hva2.out) hrl (nh hbl2.out.size sm) ?_;intro v' w4 hres4 hg4)
    | go_in)
   have n1:Hid (IsInts w4 a (bK s (l.take (k+1)))):=by
    rw[HT1.out];exact((Ha2.out.below (aA br _)).keptBy hg4 (hfar.out Ha2.out)).ints (nh sm hg4.size)
   have n2:=Hi hres4;have n3:Hid ((rl++[(⟨va,vc,D,Z⟩:RsA)]).map RsA.told=bE s (l.take (k+1))):=by show _=_;rw[HT2.out,ny,htold.out];rfl
   have n4:=Hi ((aA hbl2.out _).grown hg4 (nh hbl2.out.size sm) (fun j e=>hlo.out j e));clear hres4 hg4 hres2 hbl2 Ha2 Hva2 hfar g0 g1 hown hlo hWw;go_wp2;go_roundw
   case rel=>exact⟨k+1,a,cap,rl++[⟨va,vc,D,Z⟩],by omega,rfl,by go_num,n1,n2,n3,n4⟩
   case measure=>simp[intOf];omega
  ·have hkk:k=l.length:=om
   have n1:Hid (IsInts wr oa (bK s l)):=by
    have h:=hout.out;exact Uf
   have n3:rl.map RsA.told=bE s l:=by
    have h:=htold.out;exact Uf
   obtain⟨xa,xc,hv,hrs,hcap⟩:=hres.out.res2;rw[n3]at hv hrs hcap;have HCAP:=Hi hcap;clear hcap;subst hv;have n2:=Hi hrs;clear hout htold hres n3 hrs;go_wp2;go_ret3;exact⟨oa,oc,xa,xc,rfl,n1.out,n2.out,HCAP.out,hbl.out⟩
theorem mZ (w:World) (hs:IsInts w sa s) (hl:IsTxs w la l) :
  Calls prog 96 #[J sa s.length sc,J la l.length lc] w fun e w'=>∃ea ec xa xc,e=rt (tu #[J ea (kR s l).length ec,J xa (cF s l).length xc,Y I (fN s l)])/\IsInts w' ea (kR s l)/\IsRes w' xa (cF s l)/\(cF s l).length<=xc/\Below w.heap.size w w':=by
 by_cases h8:s.length=8
 ·have hc:=serE_chk (l:=l) h8;by_cases hE:eN l=0
  ·have he:=hc.trans hE;have e1:kR s l=bK s l:=if_pos he;have e2:cF s l=bE s l:=if_pos he;rw[e1,e2,he,fQ];exact serialOf_ok sa la sc lc s l w hs h8 hl hE
  ·have e1:Hid (kR s l=[]):=if_neg (by rw[hc];exact hE);have e2:Hid (cF s l=[]):=if_neg (by rw[hc];exact hE);rw[hc,e1.out,e2.out];have hd8:=Hi (decide_eq_true h8);have hb':(eN l != 0)=true:=by simpa using hE
   have HL:=Hi hl;clear hc hE h8 hs hl e1 e2;go_enter func96,ntmps96
   go_wp2_with fail
   refine(fW s sa sc _).mono ?_;rintro e w0 ⟨rfl,hw0⟩;rw[hw0,hd8.out];clear hw0
   go_wp2_with fail
   refine(mA la lc l _ HL.out).mono ?_;rintro e w1 ⟨rfl,hb1⟩;go_wp2;go_ret3;exact⟨Q,0,Q,0,rfl,fun i hi=>absurd hi sm,fun i hi=>absurd hi sm,nz,hb1⟩
 ·have hc:=serE_len (l:=l) h8;have e1:Hid (kR s l=[]):=if_neg (by rw[hc];decide);have e2:Hid (cF s l=[]):=if_neg (by rw[hc];decide);rw[hc,e1.out,e2.out];have hd8:=Hi (decide_eq_false h8);clear hc h8 hs hl e1 e2;go_enter func96,ntmps96
  go_wp2_with fail
  refine(fW s sa sc _).mono ?_;rintro e w0 ⟨rfl,hw0⟩;rw[hw0,hd8.out];clear hw0;go_wp2;go_ret3;exact⟨Q,0,Q,0,rfl,fun i hi=>absurd hi sm,fun i hi=>absurd hi sm,nz,br⟩
end
section
theorem isRes_at {b off:Nat} {va:Option Addr} {vc:Nat} {d:Bool} {xs:List Int} (hb:b<w.heap.size) (c0:w.cell? ⟨b,off,Q⟩=bo d) (c1:w.cell? ⟨b,off+1,Q⟩=J va xs.length vc) (hx:IsInts w va xs):IsRes w (M ⟨b,off,Q⟩) [(d,xs)]:=fun i hi=>by
 have h0:i=0:=by simpa using hi
 subst h0;exact⟨b,off,va,vc,rfl,hb,by simpa using c0,by simpa using c1,hx⟩
variable (sa la ea ra:Option Addr) (sc lc ec rc:Nat) (s:List Int) (l:List TxA) (en:List Int) (r:List (Bool×List Int))
theorem docAud_ser (w:World) (hs:IsInts w sa s) (hl:IsTxs w la l) (hE:¬fN s l=0) :
  Kr 60 #[J sa s.length sc,J la l.length lc,J ea en.length ec,J ra r.length rc] w (tu #[Y I 0,Y I (fN s l)]):=by
 have CS:=Hi (mZ sa la sc lc s l w hs hl);have hb:(fN s l != 0)=true:=by simpa using hE
 clear hs hl;generalize fN s l=E at *;go_enter func60,ntmps60
 go_wp2_with fail
 refine CS.out.mono ?_;rintro e w1 ⟨wa,wc,xa,xc,rfl,_,_,_,hb1⟩;have B1:=Hi hb1;clear hb1;exact Up
theorem docAud_form (w:World) (hs:IsInts w sa s) (hl:IsTxs w la l) (hE:fN s l=0) (hF:¬(en.length=8/\r.length=l.length)) :
  Kr 60 #[J sa s.length sc,J la l.length lc,J ea en.length ec,J ra r.length rc] w (tu #[Y I 0,Y I 1]):=by
 have CS:=Hi (mZ sa la sc lc s l w hs hl);rw[hE]at CS;clear hs hl hE;by_cases h8:en.length=8
 focus
  have h9:((r.length:Int) != (l.length:Int))=true:=by
   have:¬r.length=l.length:=fun e=>hF ⟨h8,e⟩
   simp;omega
  have CI:Hid (∀w',Calls prog 97 #[J ea en.length ec] w' fun e w''=>e=rt (bo true)/\w''=w'):=fun w'=>by
   have h:=fW en ea ec w';rw[decide_eq_true h8]at h;exact h
 rotate_left
 focus
  have CI:Hid (∀w',Calls prog 97 #[J ea en.length ec] w' fun e w''=>e=rt (bo false)/\w''=w'):=fun w'=>by
   have h:=fW en ea ec w';rw[decide_eq_false h8]at h;exact h
 rotate_left
 all_goals
  clear h8 hF;go_enter func60,ntmps60
  go_wp2_with fail
  refine CS.out.mono ?_;rintro e w1 ⟨wa,wc,xa,xc,rfl,_,_,_,hb1⟩;have B1:=Hi hb1;clear hb1
  go_wp2_with fail
  refine(CI.out _).mono ?_;rintro e w2 ⟨rfl,hwe⟩;subst hwe;exact Up
theorem docAud_ok (w:World) (hs:IsInts w sa s) (hl:IsTxs w la l) (he:IsInts w ea en) (hr:IsRes w ra r) (hrc:r.length<=rc) (hE:kI s l en r=0) :
  Kr 60 #[J sa s.length sc,J la l.length lc,J ea en.length ec,J ra r.length rc] w (tu #[Y I (mV s l en r),Y I 0]):=by
 obtain⟨z1,z2,z3,z4,z5⟩:=tX hE;have hl8:=cJ (iY z1).2;have hRl:(cF s l).length=l.length:=by rw[z4,fP]
 have hEl:(kR s l).length=8:=by rw[z5,fQ];exact(iY z1).1
 have HF:Hid (∀q∈cF s l,q.2.length<=100):=by
  show ∀q∈cF s l,q.2.length<=100;rw[z4];exact vals_few z1
 have CS:=Hi (mZ sa la sc lc s l w hs hl);rw[z1]at CS
 have CI:Hid (∀w',Calls prog 97 #[J ea en.length ec] w' fun e w''=>e=rt (bo true)/\w''=w'):=fun w'=>by
  have h:=fW en ea ec w';rw[decide_eq_true z2]at h;exact h
 have hrl:((r.length:Int) != (l.length:Int))=false:=by simp[z3]
 have HR:=Hi hr;have HEN:=Hi he;have HRL:=Hi hRl;have HEL:=Hi hEl;have HRN:=Hi z3;clear hs hl he hr hE z1 z2 z3 z4 z5 hRl hEl;go_enter func60,ntmps60
 go_wp2_with fail
 refine CS.out.mono ?_;rintro e w1 ⟨wa,wc,xa,xc,rfl,hw1,hx1,hxc,hb1⟩;have HWA:=Hi hw1;have HXA:=Hi hx1;have HXC:=Hi hxc;have B1:=Hi hb1;clear hb1 hw1 hx1 hxc CS
 go_wp2_with fail
 refine(CI.out _).mono ?_;rintro e w2 ⟨rfl,hwe⟩;subst hwe;go_wp2
 go_loopw [13] (fun i wr=>∃k:Nat,k<=l.length/\i=Y I k/\Hid (∀j,j<k->(cF s l).getD j (false,[])=r.getD j (false,[]))/\Hid (Below w2.heap.size w2 wr)) (fun i _=>l.length - (intOf i).toNat)
 case atStart=>exact⟨0,nz,rfl,fun j hj=>absurd hj (nl _),br⟩
 case round=>
  obtain⟨k,hk,rfl,hsm,hB⟩:=hrel;by_cases hlt:k<l.length
  ·have hk2:k<(cF s l).length:=by have:=HRL.out;omega
   have hk3:k<r.length:=by have:=HRL.out;have:=HRN.out;omega
   obtain⟨b,off,va,vc,ea1,hbl,c0,c1,hx⟩:=HXA.out k hk2;obtain⟨b',off',va',vc',ea2,hbl',d0,d1,hy⟩:=HR.out k hk3;subst ea1 ea2
   have hxl:((cF s l).getD k (false,[])).2.length<=maxLen:=by
    exact Vk
   have c0:=aB hB.out c0;have c1:=aB hB.out c1;have d0:=aB (aC B1.out hB.out) d0;have d1:=aB (aC B1.out hB.out) d1;have hX0:=hx.below hB.out;have hY0:=hy.below (aC B1.out hB.out);obtain⟨⟨d,xs⟩,hD⟩:∃z,(cF s l).getD k (false,[])=z:=⟨_,rfl⟩;obtain⟨⟨d',ys⟩,hD2⟩:∃z,r.getD k (false,[])=z:=⟨_,rfl⟩;rw[hD]at c0 c1 hxl hX0;rw[hD2]at d0 d1 hY0;simp only at c0 c1 d0 d1 hxl hX0 hY0;have HD:=Hi hD;have HD2:=Hi hD2;have HX:Hid (b<_/\IsInts wr va xs):=⟨nd hbl hB.out.size,hX0⟩;have HY:Hid (b'<_/\IsInts wr va' ys):=⟨nd hbl' (aC B1.out hB.out).size,hY0⟩;have i1:(k:Int)<(l.length:Int):=om;have hxc:=HXC.out;have j1:(k:Int)+1<=(xc:Int):=om;have j2:(k:Int)+1<=(rc:Int):=om;have j3:IntKind.i64.wrap _=(k:Int)+1:=IntWalk.i64_in _ om;have j4:((k:Int)+1).toNat=k+1:=om;have j5:¬xc=k:=om;have j6:¬rc=k:=om;have j7:k+1 - k=1:=om;have j8:(0:Int)<=(k:Int)+1:=om;obtain⟨q0,HQ0⟩:∃q0:Bool,Hid (decide (((d,xs):Bool×List Int)=(d',ys))=q0):=⟨_,rfl⟩
   have CX:Hid (∀c1 c2 w',Below wr.heap.size wr w'->Kr 98 #[J (M ⟨b,off+k*2,Q⟩) 1 c1,J (M ⟨b',off'+k*2,Q⟩) 1 c2] w' (bo q0)):=fun c1' c2' w' hb=>by
    have h:=sameRes_one d d' xs ys _ _ c1' c2' w' hxl (isRes_at (nd HX.out.1 hb.size) (aB hb c0) (aB hb c1) (HX.out.2.below hb)) (isRes_at (nd HY.out.1 hb.size) (aB hb d0) (aB hb d1) (HY.out.2.below hb));rw[HQ0.out]at h;exact h
   clear hx hy hD hD2 hX0 hY0 hbl hbl' hxc
   go_upto_region 9 with fail
   refine wp_region_held_drew (S:=(fun _=>True)) kr ?_ (fun hHeld=>?_)
   ·exact trivial
   refine tk 0 ?_;refine tk 1 ?_;refine tk 2 ?_;refine tk 3 ?_;refine tk 4 ?_;refine tk 5 ?_;refine tk 6 ?_;refine tk 7 ?_;refine tk 8 ?_;refine tk 9 ?_;refine r1 10 (fun K hK=>?_);go_simp
   go_wp2_with (go_at_call 98;refine(CX.out _ _ _ (aD br)).mono ?_;rintro e w4 ⟨rfl,hb4⟩)
   have B4:=Hi (aC (aD br) hb4);clear hHeld;refine hK.out _ _ (trivial) (fun hHeld=>?_);clear hK K;refine tk 11 ?_;refine wpAnyH_done kr ?_ _;clear hHeld;by_cases hxy:((d,xs):Bool×List Int)=(d',ys)
   ·have H1:Hid (∀j,j<k+1->(cF s l).getD j (false,[])=r.getD j (false,[])):=fun j hj=>by
     exact Xb
    have e0:q0=true:=by rw[<-HQ0.out];exact decide_eq_true hxy
    subst e0;clear hxy c0 c1 d0 d1;exact UY
   ·have H1:Hid (mV s l en r=(k:Nat)):=by
     obtain⟨f1,f2⟩:=fD_at (cF s l) r k hk2 hk3 hsm.out (by rw[HD.out,HD2.out];exact hxy);show _=_;unfold mV;rw[if_neg f2,f1]
    have e0:q0=false:=by rw[<-HQ0.out];exact decide_eq_false hxy
    subst e0;clear hxy c0 c1 d0 d1;go_wp2;go_ret2;exact⟨by rw[H1.out];rfl,aC B1.out (aC hB.out B4.out)⟩
  ·have hkk:k=l.length:=om;have hAll:=Hi (qT _ _ (by rw[HRL.out,HRN.out]) (fun j hj=>hsm.out j (by have:=HRL.out;omega)));have i1:¬(k:Int)<(l.length:Int):=om;have hEm:(kR s l).length<=maxLen:=by rw[HEL.out];unfold maxLen;omega
   clear hkk hlt hsm
   go_wp2_with fail
   refine(rH (kR s l) en wa ea wc ec _ hEm (HWA.out.below hB.out) (HEN.out.below (aC B1.out hB.out))).mono ?_;rintro e w5 ⟨rfl,hb5⟩;have B5:=Hi (aC B1.out (aC hB.out hb5));by_cases hq:kR s l=en
   ·have H1:Hid (mV s l en r = -1):=by show _=_;unfold mV;rw[if_pos hAll.out,if_pos hq]
    rw[decide_eq_true hq];clear hq hb5;go_wp2;go_ret2;exact VN
   ·have H1:Hid (mV s l en r=(l.length:Nat)):=by show _=_;unfold mV;rw[if_pos hAll.out,if_neg hq]
    rw[decide_eq_false hq];clear hq hb5;go_wp2;go_ret2;exact VN
theorem docAud_any (w:World) (hs:IsInts w sa s) (hl:IsTxs w la l) (he:IsInts w ea en) (hr:IsRes w ra r) (hrc:r.length<=rc) :
  Kr 60 #[J sa s.length sc,J la l.length lc,J ea en.length ec,J ra r.length rc] w (tu #[Y I (jE s l en r),Y I (kI s l en r)]):=by
 by_cases hE:kI s l en r=0
 ·have e1:jE s l en r=mV s l en r:=if_pos hE;rw[e1,hE];exact docAud_ok sa la ea ra sc lc ec rc s l en r w hs hl he hr hrc hE
 ·have e1:jE s l en r=0:=if_neg hE;rw[e1];by_cases h1:fN s l=0
  ·have eR:cF s l=bE s l:=if_pos h1
   have hF:¬(_=8/\r.length=_):=fun h=>hE (by
    unfold kI cP oA;rw[h1,if_pos h.1,if_pos (by rw[h.2,eR,fP])];rfl)
   have e2:kI s l en r=1:=by
    unfold kI cP oA;rw[h1];by_cases c:en.length=8
    ·rw[if_pos c,if_neg (by rw[eR,fP];exact fun e=>hF ⟨c,e⟩)];rfl
    ·rw[if_neg c];rfl
   rw[e2];exact docAud_form sa la ea ra sc lc ec rc s l en r w hs hl h1 hF
  ·have e2:kI s l en r=fN s l:=by unfold kI;simp[aH,h1]
   rw[e2];exact docAud_ser sa la ea ra sc lc ec rc s l en r w hs hl h1
end
end Go.Proofs.YtcgpkonfneofdaaGreatDoor
