/- Conditions: those that each theorem states. -/
import Derived.Test.YtcgpkonfneofdaaGreatDoorQDk6
set_option maxRecDepth 100000
set_option maxHeartbeats 8000000
namespace Go.Proofs.YtcgpkonfneofdaaGreatDoor
open Go.RowKit Go.Proofs.Tryz
open Go.Value renaming slice->J,int->Y,bool->bo,pointer->pd,agg->ag,tuple->tu,string->sg,iface->fc
open Go.IntKind renaming i64->I
open Go.Obj renaming cells->U
open Go.Ending renaming returned->rt,panicked->pg
open Option renaming some->M,none->Q
variable {bs:List Int} {l:List TxA}
theorem UL {p:Prop} (h:p:=by
 by_cases h1:4096<t.length∨40<t.count 10
 ·exact absurd he (by unfold dW;rw[if_pos h1];exact fun h=>by cases h)
 ·omega):p:=h
def z8:List Int:=[0,0,0,0,0,0,0,0]
def MZ:Array Value:=madeCells (Y I 0).cells 8
theorem mk8 (w:World):(Instr.makeSlice 41 (Y I 8) (Y I 8)).run prog w=.ok (J (M ⟨w.heap.size,0,Q⟩) 8 8) (w.alloc (U MZ 3)):=by
 obtain⟨i,hi,hz,h1,hb⟩:=info_parts info3;exact wY w 41 3 i _ underlying41 hi hz h1 (by rw[hb];decide) 8 dc
theorem made8 (w:World):IsInts (w.alloc (U MZ 3)) (M ⟨w.heap.size,0,Q⟩) z8:=fun i hi=>by
 match i,hi with
 | 0,_=>exact⟨_,0,rfl,by simp,aF _ _ 3 _ 0 _ rfl kr⟩
 | 1,_=>exact⟨_,0,rfl,by simp,aF _ _ 3 _ 1 _ rfl kr⟩
 | 2,_=>exact⟨_,0,rfl,by simp,aF _ _ 3 _ 2 _ rfl kr⟩
 | 3,_=>exact⟨_,0,rfl,by simp,aF _ _ 3 _ 3 _ rfl kr⟩
 | 4,_=>exact⟨_,0,rfl,by simp,aF _ _ 3 _ 4 _ rfl kr⟩
 | 5,_=>exact⟨_,0,rfl,by simp,aF _ _ 3 _ 5 _ rfl kr⟩
 | 6,_=>exact⟨_,0,rfl,by simp,aF _ _ 3 _ 6 _ rfl kr⟩
 | 7,_=>exact⟨_,0,rfl,by simp,aF _ _ 3 _ 7 _ rfl kr⟩
theorem rd_bad (h:fR bs=Q):¬rdE bs=0:=by
 unfold fR at h;unfold rdE;split at h
 ·next h1=>rw[if_pos h1];decide
 ·next h1=>rw[if_neg h1,h];decide
theorem rd_good {p:Int×List iG} (h:fR bs=M p):rdE bs=0/\jY bs=M p/\bs.length<=4096:=by
 unfold fR at h;unfold rdE;split at h
 ·cases h
 ·next h1=>rw[if_neg h1,h];exact⟨rfl,rfl,by omega⟩
theorem beg_ok {p:Int×List iG} (hB:Byt bs) (hr:jY bs=M p) (hl:l.map TxA.core=p.2):Dsk p.1 l z8 (cA p.1 l z8):=by
 have hP:OkP p:=by
  simp only[jY,Option.bind_eq_some_iff]at hr;obtain⟨⟨q,r⟩,h1,h2⟩:=hr;by_cases hc:r=[]/\aN q.1 (q.2.map cX)=0
  ·rw[if_pos hc]at h2;injection h2 with h2
   subst h2;exact(xE bs q r hB h1).2
  ·rw[if_neg hc]at h2;cases h2
 have hE:=(bytes_of_rd hB hr).2;refine dsk_beg ?_ (v64_of hP hl) rfl (fun z hz=>?_)
 ·rw[<-kW,hl];exact hE
 ·have:z=0:=by
   simp only[z8,List.mem_cons,List.mem_nil_iff,or_false]at hz;omega
  rw[this];exact⟨by decide,by decide⟩
theorem wV {p:Int×List iG} (hl:l.map TxA.core=p.2) (ls:List (List UInt8)):oY p.1 (p.2.map cX) ls z8 (cA p.1 (p.2.map cX) z8)=oY p.1 l ls z8 (cA p.1 l z8):=by
 have e:p.2.map cX=jM l:=by unfold jM;rw[hl]
 rw[e,er_beg,er_scr]
theorem Lp_next {w wr w1 w2:World} {P bb g:Nat} {D D2:Nat->Prop} {m:Int} {la:Option Addr} {lc:Nat} {ba2:Option Addr} {bc2:Nat} {bg2:List Int} {q2:Q4} {S2:SA} {v v':Value} {x1:List UInt8} {L:List (List UInt8)} (hb0:Bld bb bb v x1 wr)
  (hD:∀x,D x->x≠bb/\x≠g/\M x≠v.ownBlock) (hr:∀x,v.ownBlock=M x->g<x) (ls:IsStrs wr (M ⟨g,0,Q⟩) L) (o1:P<bb) (o2:bb<g) (o3:g<wr.heap.size) (o4:w.heap.size<=P) (bl:Below w.heap.size w wr)
  (hc1:Clk P D2 m la lc l ba2 bc2 bg2 q2 S2 w1) (hd2:∀x,D2 x->D x∨wr.heap.size<=x) (hg1:wr.grownBy w1 (M P)) (hv':v'.ownBlock=v.ownBlock∨v'.ownBlock=M w1.heap.size) (hf:Fr2 bb v.ownBlock w1 w2) :
  Clk P D2 m la lc l ba2 bc2 bg2 q2 S2 w2/\(∀x,D2 x->x≠bb/\x≠g/\M x≠v'.ownBlock)/\(∀x,v'.ownBlock=M x->g<x)/\IsStrs w2 (M ⟨g,0,Q⟩) L/\g<w2.heap.size/\Below w.heap.size w w2:=by
 have hs1:=hg1.size;have hs2:=hf.size;have hrow:=fun x hx=>(hb0.own.lt x hx).2
 have d1:¬D2 bb:=fun h=>by
  rcases hd2 bb h with h | h
  ·exact(hD bb h).1 rfl
  ·omega
 have d2:∀x,_=M x->¬D2 x:=fun x hx h=>by
  rcases hd2 x h with h | h
  ·exact(hD x h).2.2 hx.symm
  ·have:=hrow x hx;omega
 have hbw:=bl.size;refine⟨hc1.write hf o1 (fun x hx=>by have:=hr x hx;omega) d1 d2,fun x hx=>⟨fun e=>d1 (e ▸ hx),fun e=>?_,fun e=>?_⟩,fun x hx=>?_,?_,by omega,?_⟩
 ·subst e;rcases hd2 x hx with h | h
  ·exact(hD x h).2.1 rfl
  ·omega
 ·rcases hv' with h | h
  ·rw[h]at e;exact d2 x e.symm hx
  ·rw[h]at e;injection e with e;have:=(hc1.dl x hx).2;omega
 ·rcases hv' with h | h
  ·rw[h]at hx;exact hr x hx
  ·rw[h]at hx;injection hx with hx;omega
 ·refine(ls.kept hs1 (hg1.block g o3 (fun e=>by injection e with e;omega))).kept hs2 (hf.block g om om (fun e=>?_));have:=hr g e.symm;omega
 ·exact(bl.trans (tN hg1 o4 hbw)).trans (hf.below om (fun x hx=>by have:=hr x hx;omega) om)
theorem play1_bad (b:ByteArray) (pb pt:Nat) (w:World) (cb:w.cell? ⟨pb,0,Q⟩=sg b) (hr:fR (eI b)=Q) :
  Kp 12 #[pd (M ⟨pb,0,Q⟩),pd (M ⟨pt,0,Q⟩)] w (rdE (eI b)):=by
 have hx:=rd_bad hr
 have C1:Hid (Calls _ 14 _ w fun e w'=>e=rt _/\Below _ w w'):=(mX b w).mono (by
  rintro e w' ⟨hb,ho⟩;unfold vA at ho;rw[hr]at ho;exact⟨ho,hb⟩)
 generalize rdE (eI b)=x at *;clear hr;go_enter func12,ntmps12
 go_wp2_with fail
 refine C1.out.mono ?_;rintro e w1 ⟨rfl,hb1⟩;have CG:=aI (gotPlan_pan 0 Q 0 0 x hx w1);have B1:=aI hb1;clear hb1 C1
 go_wp2_with fail
 refine CG.out.mono ?_;rintro e w2 ⟨rfl,hb2⟩;have B:=aI (aC B1.out hb2);clear hb2 CG B1;go_wp2;exact⟨rfl,rfl,B.out⟩
theorem play1_err (b:ByteArray) (t:List UInt8) (p:Int×List iG) (pb pt:Nat) (w:World) (cb:w.cell? ⟨pb,0,Q⟩=sg b) (ct:w.cell? ⟨pt,0,Q⟩=M (aM t)) (hr:fR (eI b)=M p) (htl:t.length<=9223372036854775807) (he:¬aH [dW t,kB t]=0) :
  Kp 12 #[pd (M ⟨pb,0,Q⟩),pd (M ⟨pt,0,Q⟩)] w (aH [dW t,kB t]):=by
 have C1:Hid (Calls _ 14 _ w fun e w'=>∃(a:Option Addr) (cl:List TxA) (c:Nat),e=rt _/\Hid (IsTxs w' a cl)/\Hid _/\Below _ w w'):=(mX b w).mono (by
  rintro e w' ⟨hb,ho⟩;unfold vA at ho;rw[hr]at ho;obtain⟨a,cl,c,h1,h2,h3⟩:=ho;exact⟨a,cl,c,h1,h2,h3,hb⟩)
 have CM:=aI (many_q t htl);have CE:=aI (end_q t htl);have HE:=aI he;clear he htl hr;generalize dW t=E1 at *;generalize kB t=E2 at *;unfold aM at ct CM CE;generalize ByteArray.mk t.toArray=T at *;go_enter func12,ntmps12
 go_wp2_with fail
 refine C1.out.mono ?_;rintro e w1 ⟨la,l,lc,rfl,HL1,HCR,hb1⟩;have CG:=aI (xS p.1 la l.length lc w1);have B1:=aI hb1;clear hb1 C1
 go_wp2_with fail
 refine CG.out.mono ?_;rintro e w2 ⟨rfl,hb2⟩;have B2:=aI (aC B1.out hb2);clear hb2 CG B1 HL1;have BC:Hid (Below _ w2 (w2.alloc (U #[Y I p.1,J la l.length lc,J Q 0 0,J Q 0 0,J Q 0 0,J Q 0 0,J Q 0 0] 47))):=aA br _;have ct2:=aB (aC B2.out BC.out) ct
 go_upto_region 2 with fail
 have BW:=Hi (aC B2.out BC.out);generalize (w2.alloc (U #[Y I p.1,J la l.length lc,J Q 0 0,J Q 0 0,J Q 0 0,J Q 0 0,J Q 0 0] 47))=W at *;have KS:Hid (∀w',Below _ W w'->w'.cell? _=M _/\Hid _):=fun w' hb=>⟨aB hb ct2,hb⟩
 clear ct2 cb ct;clear HCR;refine wp_region_held_drew (S:=(fun w'=>w'.cell? ⟨pt,0,Q⟩=sg T/\Hid (Below W.heap.size W w'))) kr ?_ (fun hHeld=>?_)
 ·exact KS.out _ (aD br)
 refine tk 0 ?_;refine tk 2 ?_;refine r1 1 (fun K hK=>?_);go_simp;obtain⟨c0,hbx⟩:=hHeld
 go_wp2_with (go_at_call 16;refine(CM.out _).mono ?_;rintro e w3 ⟨rfl,rfl⟩)
 clear c0;have hHeld:=trivial;clear hHeld;refine hK.out _ _ (KS.out _ hbx.out) (fun hHeld=>?_);clear hK K;refine r1 3 (fun K hK=>?_);go_simp;obtain⟨c0,hbx2⟩:=hHeld
 go_wp2_with (go_at_call 17;refine(CE.out _).mono ?_;rintro e w4 ⟨rfl,rfl⟩)
 clear c0 hbx;have hHeld:=trivial;clear hHeld;refine hK.out _ _ (KS.out _ hbx2.out) (fun hHeld=>?_);clear hK K;refine r1 4 (fun K hK=>?_);go_simp;obtain⟨c0,hbx⟩:=hHeld;have B4:Hid (Below _ W (W.alloc (U #[Y I E1,Y I E2] 22)).drew):=aD (aA br _);have ER:=Hi (fun k hk=>aB (aD br) (lS W W.heap.size E1 E2 rfl k hk));generalize (W.alloc (U #[Y I E1,Y I E2] 22)).drew=V at *;clear c0 hbx hbx2;have hHeld:=trivial;clear hHeld;refine hK.out _ _ (KS.out _ B4.out) (fun hHeld=>?_);clear hK K;refine r1 5 (fun K hK=>?_);go_simp
 go_wp2_with (go_at_call 15;refine(dR [E1,E2] _ 2 _ sm HE.out ER.out).mono ?_;rintro e w5 ⟨rfl,hw5⟩)
 subst hw5;exact⟨rfl,rfl,aC BW.out B4.out⟩
theorem play1_ok (b:ByteArray) (t:List UInt8) (p:Int×List iG) (pb pt:Nat) (w:World) (cb:w.cell? ⟨pb,0,Q⟩=sg b) (ct:w.cell? ⟨pt,0,Q⟩=M (aM t)) (hr:fR (eI b)=M p) (he:aH [dW t,kB t]=0) (hs:Std w) :
  Kr 12 #[pd (M ⟨pb,0,Q⟩),pd (M ⟨pt,0,Q⟩)] w (aM (oY p.1 (p.2.map cX) (eT 10 t).dropLast z8 (cA p.1 (p.2.map cX) z8))):=by
 have C1:Hid (Calls _ 14 _ w fun e w'=>∃(a:Option Addr) (cl:List TxA) (c:Nat),e=rt _/\Hid (IsTxs w' a cl)/\Hid _/\Below _ w w'):=(mX b w).mono (by
  rintro e w' ⟨hb,ho⟩;unfold vA at ho;rw[hr]at ho;obtain⟨a,cl,c,h1,h2,h3⟩:=ho;exact⟨a,cl,c,h1,h2,h3,hb⟩)
 have htl:t.length<=4096/\t.count 10<=40:=by
  exact UL
 have CM:=aI (many_q t om);have CE:=aI (end_q t om);have HE:=aI he;have HRD:=aI (rd_good hr).2.1;have S0:=aI hs;have HPT:Hid (pt<_):=np w ⟨pt,0,Q⟩ ct;have hmk:=mk8;have CLN:=Hi (fun w h=>linesOf_q t htl.1 w h)
 have HLL:Hid ((eT 10 t).dropLast.length<=40/\∀x∈(eT 10 t).dropLast,x.length<=4096):=by
  refine⟨?_,fun x hx=>?_⟩
  ·rw[List.length_dropLast,oX];omega
  ·exact nh (bL 10 t x (List.dropLast_subset _ hx)) htl.1
 clear he htl hr hs;unfold aM at CLN;generalize dW t=E1 at *;generalize kB t=E2 at *;generalize (eT 10 t).dropLast=L at *;unfold aM at ct CM CE;generalize ByteArray.mk t.toArray=T at *;go_enter func12,ntmps12
 go_wp2_with fail
 refine C1.out.mono ?_;rintro e w1 ⟨la,l,lc,rfl,HL1,HCR,hb1⟩;have CG:=aI (xS p.1 la l.length lc w1);have B1:=aI hb1;clear hb1 C1
 go_wp2_with fail
 refine CG.out.mono ?_;rintro e w2 ⟨rfl,hb2⟩;have HL2:=aI (HL1.out.below hb2);have B2:=aI (aC B1.out hb2);clear hb2 CG B1 HL1;have BC:Hid (Below _ w2 (w2.alloc (U #[Y I p.1,J la l.length lc,J Q 0 0,J Q 0 0,J Q 0 0,J Q 0 0,J Q 0 0] 47))):=aA br _;have ct2:=aB (aC B2.out BC.out) ct;have HK0:=Hi (clk_new w2 p.1 la lc l HL2.out);have hP:=Hi B2.out.size
 go_upto_region 2 with fail
 have BW:=Hi (aC B2.out BC.out);generalize (w2.alloc (U #[Y I p.1,J la l.length lc,J Q 0 0,J Q 0 0,J Q 0 0,J Q 0 0,J Q 0 0] 47))=W at *;have KS:Hid (∀w',Below _ W w'->w'.cell? _=M _/\Hid _):=fun w' hb=>⟨aB hb ct2,hb⟩
 clear ct2 cb ct;refine wp_region_held_drew (S:=(fun w'=>w'.cell? ⟨pt,0,Q⟩=sg T/\Hid (Below W.heap.size W w'))) kr ?_ (fun hHeld=>?_)
 ·exact KS.out _ (aD br)
 refine tk 0 ?_;refine tk 2 ?_;refine r1 1 (fun K hK=>?_);go_simp;obtain⟨c0,hbx⟩:=hHeld
 go_wp2_with (go_at_call 16;refine(CM.out _).mono ?_;rintro e w3 ⟨rfl,rfl⟩)
 clear c0;have hHeld:=trivial;clear hHeld;refine hK.out _ _ (KS.out _ hbx.out) (fun hHeld=>?_);clear hK K;refine r1 3 (fun K hK=>?_);go_simp;obtain⟨c0,hbx2⟩:=hHeld
 go_wp2_with (go_at_call 17;refine(CE.out _).mono ?_;rintro e w4 ⟨rfl,rfl⟩)
 clear c0 hbx;have hHeld:=trivial;clear hHeld;refine hK.out _ _ (KS.out _ hbx2.out) (fun hHeld=>?_);clear hK K;refine r1 4 (fun K hK=>?_);go_simp;obtain⟨c0,hbx⟩:=hHeld;have B4:Hid (Below _ W (W.alloc (U #[Y I E1,Y I E2] 22)).drew):=aD (aA br _);have ER:=Hi (fun k hk=>aB (aD br) (lS W W.heap.size E1 E2 rfl k hk));generalize (W.alloc (U #[Y I E1,Y I E2] 22)).drew=V at *;clear c0 hbx hbx2;have hHeld:=trivial;clear hHeld;refine hK.out _ _ (KS.out _ B4.out) (fun hHeld=>?_);clear hK K;refine r1 5 (fun K hK=>?_);go_simp
 go_wp2_with (go_at_call 15;refine(aQ [E1,E2] _ 2 _ sm HE.out ER.out).mono ?_;rintro e w5 ⟨rfl,hw5⟩)
 subst hw5;clear hHeld;refine hK.out _ _ (KS.out _ B4.out) (fun hHeld=>?_);clear hK K;refine wpAnyH_done kr ?_ _;obtain⟨c0,_⟩:=hHeld;have HK5:=aI (HK0.out.on B4.out);have B5:=Hi (aC BW.out B4.out);have HDSK:=aI (beg_ok (rR b) HRD.out HCR.out);have HSC:=aI (wV HCR.out L);obtain⟨P,hPe⟩:=nm (w2.heap.size);rw[<-hPe]at HK5 hP ⊢;clear KS CM CE HE ER HK0 BC BW B4 HL2 B2 HRD HCR hPe;have ca:=aB (aA (n7 w5.heap.size w5) (U MZ 3)) c0;have BA:Hid (Below _ w (w5.alloc (U MZ 3))):=aA B5.out _
 have CB:Hid (Calls prog 18 #[pd (M ⟨P,0,Q⟩),J (M ⟨w5.heap.size,0,Q⟩) 8 8] (w5.alloc (U MZ 3)) fun e w'=>e=rt (tu #[])/\∃(q2:Q4) (D2:Nat->Prop),Clk P D2 p.1 la lc l (M ⟨w5.heap.size,0,Q⟩) 8 z8 q2 (cA p.1 l z8) w'/\(w5.alloc (U MZ 3)).grownBy w' (M P)):=by
  have hO:Own P (fun b=>b=w5.heap.size) _ z8 (w5.alloc _):=⟨fun b hb=>by subst hb;exact⟨HK5.out.pl,by simp⟩,fun w' h1 h2 i hi=>by
   obtain⟨b,off,e,hl,hc⟩:=made8 w5 i hi;injection e with e
   injection e with e1 e2
   subst e1 e2;exact⟨_,_,rfl,nd hl h1,by rw[nu (h2 _ rfl)];exact hc⟩⟩
  have hb0:jD p.1 l z8=0:=by
   have hl:cP z8=0:=rfl;unfold jD;rw[HDSK.out.pe,hl];rfl
  have h1:=uV P _ _ p.1 la lc l Q 0 [] qNil mD _ (M ⟨w5.heap.size,0,Q⟩) 8 z8 (HK5.out.on (aA br (U MZ 3))) hO hb0;exact h1.mono fun e w' ⟨he,q2,D2,hc,_,hg⟩=>⟨he,q2,D2,hc,hg⟩
 clear c0 B5 HK5
 go_wp2_with fail
 generalize (w5.alloc (U MZ 3))=wa at *;refine CB.out.mono ?_;rintro e w6 ⟨rfl,q6,D6,hc6,hg6⟩;have B6:=Hi (BA.out.trans (tN hg6 hP.out BA.out.size))
 have c6:w6.cell? ⟨pt,0,Q⟩=sg T:=by
  have hlt:=HPT.out;rw[nu (hg6.block pt (nd hlt BA.out.size) (fun e=>by injection e with e;have:=hP.out;omega))];exact ca
 have HC6:=aI hc6;clear ca BA CB hc6 hg6;have cb7:=aB (aA (n7 w6.heap.size w6) (U #[pd Q,J Q 0 0] 54)) c6;have B7:Hid (Below _ w (w6.alloc (U #[pd Q,J Q 0 0] 54))):=aA B6.out _;have HC7:=aI (HC6.out.on (aA br (U #[pd Q,J Q 0 0] 54)));have HB7:=aI (bld_new w6);have s7:Hid ((w6.alloc (U #[pd Q,J Q 0 0] 54)).heap.size=w6.heap.size+1):=by show _=_;simp
 have HD7:=Hi HC6.out.dl;have hPb:=Hi HC6.out.pl;clear c6 B6 HC6
 go_wp2_with fail
 generalize (w6.alloc (U #[pd Q,J Q 0 0] 54))=w7 at *;generalize w6.heap.size=bb at *;have CL7:=aI (CLN.out w7 (S0.out.on B7.out));refine CL7.out.mono ?_;rintro e w8 ⟨rfl,HLS8,hb8,hs8⟩;have HS8:=aI hs8;have HC8:=aI (HC7.out.on hb8);have HB8:=Hi (HB7.out.on (bG hb8 (P:=P)) (by have:=hPb.out;omega) (by simp[Value.ownBlock]));have B8:=aI (aC B7.out hb8);have hLn:=HLL.out.1;clear cb7 HC7 HB7 CL7 CLN hb8 hs8 B7;generalize w7.heap.size=g at *;go_wp2
 go_loopw [6,24] (fun _ i wr=>∃(k:Nat) (D:Nat->Prop) (ba:Option Addr) (bc:Nat) (q:Q4) (v:Value),k<=L.length/\i=Y I (k:Nat)/\Hid (Clk P D p.1 la lc l ba bc (gP p.1 l (L.take k) (z8,cA p.1 l z8)).1 q (gP p.1 l (L.take k) (z8,cA p.1 l z8)).2 wr)/\Hid (Bld bb bb v (oY p.1 l (L.take k) z8 (cA p.1 l z8)) wr)/\Hid (∀x,D x->x≠bb/\x≠g/\M x≠v.ownBlock)/\Hid (∀x,v.ownBlock=M x->g<x)/\Hid (IsStrs wr (M ⟨g,0,Q⟩) L)/\Hid (g<wr.heap.size)/\Hid (Below w.heap.size w wr)) (fun _ i _=>L.length - (intOf i).toNat)
 case atStart=>exact⟨0,D6,_,_,q6,_,nz,rfl,HC8,HB8,(fun x hx=>⟨by have:=HD7.out x hx;omega,by have:=HD7.out x hx;have:=s7.out;omega,by simp[Value.ownBlock]⟩),(fun x hx=>by simp[Value.ownBlock]at hx),HLS8,(by have:=HS8.out;show _<_;omega),B8⟩
 case round=>
  clear HC8 HB8 HLS8 B8 HD7 HS8;obtain⟨k,D,ba,bc,q,v,hk,rfl,HC,HB,HD,HR,HLS,HG,HBL⟩:=hrel;have HK:=aI (scrS_ok (L.take k) (z8,cA p.1 l z8) HDSK.out);have hlen:=scr_len (L.take k) (z8,cA p.1 l z8) HDSK.out;have htk:(L.take k).length<=40:=by rw[l6];omega
  by_cases hlt:k<L.length
  ·have i1:(k:Int)<(L.length:Int):=om;obtain⟨b0,o0,e0,_,z0⟩:=HLS.out k hlt;injection e0 with e0
   injection e0 with e1 e2
   subst e1 e2;rw[nw]at z0;obtain⟨hst1,hst2⟩:=scr_take (m:=p.1) (l:=l) L (z8,cA p.1 l z8) k hlt;have HST1:=aI hst1;have HST2:=aI hst2;have hxl:(L.getD k []).length<=4096:=HLL.out.2 _ (by simp[List.getD,hlt]);generalize L.getD k []=y at *;have CA:=aI (clkAnswer P D p.1 la lc l ba bc _ q _ wr y hxl HC.out HK.out.ok (obL_err HK.out.st) (S0.out.on HBL.out) (fun w' h'=>S0.out.on (HBL.out.trans (h'.mono hP.out))));have hal:=HK.out.ans_len y;generalize jF p.1 l (gP p.1 l (L.take k) (z8,cA p.1 l z8)).1 (gP p.1 l (L.take k) (z8,cA p.1 l z8)).2 y=r at *;have f1:=sU r.1 [10] (by simp;omega)
   have HLEN:Hid ((oY p.1 l (L.take k) z8 (cA p.1 l z8)).length+(r.1++[10]).length<=1000000):=by
    show _<=_;rw[nj];simp only[List.length_singleton];simp only at hlen;have:2001*(L.take k).length<=2001*40:=l5 nr htk;omega
   clear hst1 hst2 hlen hal hxl HK htk;unfold AnsF at CA;unfold aM at CA z0;have CW:Hid (∀w1:World,wr.grownBy w1 (M P)->Calls _ 20 _ w1 fun e w'=>_/\∃v',Bld bb bb v' _ w'/\_/\Fr2 bb _ w1 w'):=fun w1 hg=>bldWrite bb bb v _ _ w1 (HB.out.on hg (by have:=hPb.out;omega) (fun e=>by have:=HR.out P e;have:=hPb.out;have:=s7.out;omega)) HLEN.out (by have:=HG.out;have:=hg.size;have:=s7.out;omega)
   unfold aM at CW;obtain⟨T1,hT1⟩:=nm (ByteArray.mk (r.1++[10]).toArray);obtain⟨T0,hT0⟩:=nm (ByteArray.mk r.1.toArray);rw[<-hT0,<-hT1]at f1;rw[<-hT0]at CA;rw[<-hT1]at CW;clear hT0 hT1 HLEN
   go_wp2_with fail
   refine CA.out.mono ?_;rintro e w1 ⟨rfl,ba2,bc2,q2,D2,hc1,hd2,hg1⟩;have CW1:=aI (CW.out w1 hg1);have HC1:=aI hc1;have HD2:=aI hd2;have HG1:=aI hg1;clear CA CW z0 hc1 hd2 hg1
   go_wp2_with fail
   refine CW1.out.mono ?_;rintro e w2 ⟨⟨nn,rfl⟩,v',hb2,hv2,hf2⟩;obtain⟨n1,n2,n3,n4,n5,n6⟩:=Lp_next HB.out HD.out HR.out HLS.out hPb.out (by have:=s7.out;omega) HG.out hP.out HBL.out HC1.out HD2.out HG1.out hv2 hf2
   have N1:Hid (letI Z:=gP p.1 l (L.take (k+1)) (z8,cA p.1 l z8);Clk P D2 p.1 la lc l ba2 bc2 Z.1 q2 Z.2 w2):=by
    show Clk _ _ _ _ _ _ _ _ _ _ _ _;rw[HST2.out];exact n1
   have NB:Hid (Bld bb bb v' (oY p.1 l (L.take (k+1)) z8 (cA p.1 l z8)) w2):=by
    show Bld _ _ _ _ _;rw[HST1.out];exact hb2
   have N2:=aI n2;have N3:=aI n3;have N4:=aI n4;have N5:=aI n5;have N6:=aI n6;clear n1 n2 n3 n4 n5 n6 hb2 hv2 hf2 CW1 HC HB HD HR HLS HG HBL HC1 HD2 HG1 HST1 HST2;go_wp2;go_roundw
   case rel=>exact⟨k+1,D2,ba2,bc2,q2,v',by omega,by go_num,N1,NB,N2,N3,N4,N5,N6⟩
   case measure=>simp[intOf];omega
  ·have i1:¬(k:Int)<(L.length:Int):=om;have hkk:L.take k=L:=le om;rw[hkk]at HB;have CS:=aI (Tryz.Builder_String_any bb bb _ wr HB.out.is (by have:=HG.out;have:=s7.out;omega));have HW:Hid (w.heap.size<=bb):=by show _<=_;have:=hP.out;have:=hPb.out;omega
   clear HC HB HD HR HLS HG HK hlen htk hkk;obtain⟨TT,hTT⟩:=nm (ByteArray.mk (oY p.1 l L z8 (cA p.1 l z8)).toArray);rw[<-hTT]at CS;have HTT:=aI hTT;clear hTT
   go_wp2_with fail
   refine CS.out.mono ?_;rintro e w9 ⟨rfl,hb9⟩;have B9:=aI (HBL.out.trans (hb9.mono HW.out));clear hb9 CS HBL;go_wp2;go_ret;exact⟨by rw[HSC.out,HTT.out];rfl,B9.out⟩
def qL (b:ByteArray) (t:List UInt8):Int:=match fR (eI b) with
 | none=>rdE (eI b)
 | some _=>aH [dW t,kB t]
def nB (b:ByteArray) (t:List UInt8):List UInt8:=match fR (eI b) with
 | none=>[]
 | some p=>if aH [dW t,kB t]=0 then oY p.1 (p.2.map cX) (eT 10 t).dropLast z8 (cA p.1 (p.2.map cX) z8) else []
theorem play_by (b T R:ByteArray) (x:Int) (w:World) (h:Calls prog 11 #[.func (.func 12) #[] #[pd (M ⟨w.heap.size,0,Q⟩),pd (M ⟨w.heap.size+1,0,Q⟩)]] ((w.alloc (U #[sg b] 9)).alloc (U #[sg T] 9)) fun e w'=>e=rt (tu #[sg R,Y I x])/\Below ((w.alloc (U #[sg b] 9)).alloc (U #[sg T] 9)).heap.size ((w.alloc (U #[sg b] 9)).alloc (U #[sg T] 9)) w') :
  Kr 5 #[sg b,sg T] w (tu #[sg R,Y I x]):=by
 have H:=aI h;have BW:Hid (Below w.heap.size w ((w.alloc (U #[sg b] 9)).alloc (U #[sg T] 9))):=aA (aA br _) _;clear h;go_enter func5,ntmps5
 go_wp2_with fail
 refine H.out.mono ?_;rintro e w1 ⟨rfl,hb⟩;have B:=aI (aC BW.out hb);clear hb H BW;go_wp2;go_ret2;exact⟨rfl,B.out⟩
theorem play_any (b:ByteArray) (t:List UInt8) (w:World) (htl:t.length<=9223372036854775807) (hs:Std w) :
  Kr 5 #[sg b,aM t] w (tu #[aM (nB b t),Y I (qL b t)]):=by
 unfold aM;obtain⟨T,hT⟩:=nm (ByteArray.mk t.toArray);rw[<-hT];refine play_by b T _ _ w ?_;obtain⟨V,hV⟩:=nm (((w.alloc (U #[sg b] 9)).alloc (U #[sg T] 9)));have c0:V.cell? ⟨w.heap.size,0,Q⟩=sg b:=by rw[hV];exact aB (aA br _) (aF w _ 9 _ 0 _ rfl rfl)
 have c1:V.cell? ⟨w.heap.size+1,0,Q⟩=sg T:=by rw[hV];exact aF _ _ 9 _ 0 _ sm rfl
 have BV:Below w.heap.size w V:=by rw[hV];exact aA (aA br _) _
 rw[<-hV];have sX:(V.alloc (U #[Y I 0] 22)).heap.size=V.heap.size+1:=sm;have bX:Below V.heap.size V (V.alloc (U #[Y I 0] 22)):=aA br _;have d0:=aB bX c0;have d1:(V.alloc (U #[Y I 0] 22)).cell? ⟨w.heap.size+1,0,Q⟩=M (aM t):=by rw[aB bX c1,hT]
 have pan:∀x:Int,Calls prog 12 #[pd (M ⟨w.heap.size,0,Q⟩),pd (M ⟨w.heap.size+1,0,Q⟩)] _ (fun e w'=>e=pg [{v:=fc 22 (Y I x),recovered:=false}]/\Below (V.alloc (U #[Y I 0] 22)).heap.size _ w')->Calls prog 11 #[.func (.func 12) #[] #[pd _,pd (M ⟨w.heap.size+1,0,Q⟩)]] V fun e w'=>e=rt _/\Below V.heap.size V w':=fun x h=>by
  rw[sX]at h;exact nL 12 _ (fun _=>rfl) x V h
 cases hr:fR (eI b) with
 | none=>
  have e1:qL b t=rdE (eI b):=by unfold qL;rw[hr]
  have e2:nB b t=[]:=by unfold nB;rw[hr]
  rw[e1,e2];exact pan _ (play1_bad b _ _ _ d0 hr)
 | some p=>
  have e1:qL b t=aH [dW t,kB t]:=by unfold qL;rw[hr]
  by_cases he:aH [dW t,kB t]=0
  ·have e2:nB b t=oY p.1 (p.2.map cX) (eT 10 t).dropLast z8 (cA p.1 (p.2.map cX) z8):=by unfold nB;rw[hr];exact if_pos he
   have h1:=play1_ok b t p _ _ _ d0 d1 hr he (hs.on (aC BV bX));unfold Kr at h1;rw[sX]at h1;rw[e1,e2,he];refine(sF 12 _ (fun _=>rfl) (fun v _=>v=aM (oY p.1 (p.2.map cX) (eT 10 t).dropLast z8 (cA p.1 (p.2.map cX) z8))) V (fun _ _ h=>h) (h1.mono fun _ _ hp=>⟨_,hp.1,rfl,hp.2⟩)).mono ?_;rintro e w' ⟨v,rfl,rfl,hb⟩;exact⟨rfl,hb⟩
  ·have e2:nB b t=[]:=by unfold nB;rw[hr];exact if_neg he
   rw[e1,e2];exact pan _ (play1_err b t p _ _ _ d0 d1 hr htl he)
def askT:List UInt8:=[112,117,116,32,48,32,53,10,112,117,116,32,49,32,49,10,99,97,110,10,114,101,97,100,32,49,32,49,10,114,101,97,100,32,48,32,49,10,97,117,100,105,116,10,114,101,115,116,10,99,97,110,10,115,116,111,114,101,10,97,117,100,105,116,10,112,117,116,32,56,32,49,10,120,10]
def givT:List UInt8:=[111,107,10,111,107,10,114,101,97,100,32,48,32,48,59,32,114,101,97,100,32,48,32,49,59,32,114,101,97,100,32,50,32,49,10,101,114,114,111,114,32,54,10,111,107,10,101,114,114,111,114,32,56,10,55,10,111,118,101,114,10,50,32,52,32,48,32,48,32,48,32,52,32,48,32,57,10,45,49,10,101,114,114,111,114,32,51,10,101,114,114,111,114,32,49,10]
theorem ply_three:oY 2 (c3.map cX) (eT 10 askT).dropLast z8 (cA 2 (c3.map cX) z8)=givT:=by decide +kernel
theorem ask_ok:aH [dW askT,kB askT]=0:=by decide +kernel
theorem aAk {b:ByteArray} (h:eI b=pB (2,c3)):qL b askT=0/\nB b askT=givT:=by
 unfold qL nB;rw[h,rd_c3];exact⟨ask_ok,by rw[<-ply_three];exact if_pos ask_ok⟩
theorem zQ (w:World) (hs:Std w):Kr 7 #[] w (bo true):=by
 have S0:=aI hs
 have CP:Hid (∀(b:ByteArray) (w:World),eI b=pB (2,c3)->Std w->Kr 5 #[sg b,sg ⟨#[112,117,116,32,48,32,53,10,112,117,116,32,49,32,49,10,99,97,110,10,114,101,97,100,32,49,32,49,10,114,101,97,100,32,48,32,49,10,97,117,100,105,116,10,114,101,115,116,10,99,97,110,10,115,116,111,114,101,10,97,117,100,105,116,10,112,117,116,32,56,32,49,10,120,10]⟩] w (tu #[sg ⟨#[111,107,10,111,107,10,114,101,97,100,32,48,32,48,59,32,114,101,97,100,32,48,32,49,59,32,114,101,97,100,32,50,32,49,10,101,114,114,111,114,32,54,10,111,107,10,101,114,114,111,114,32,56,10,55,10,111,118,101,114,10,50,32,52,32,48,32,48,32,48,32,52,32,48,32,57,10,45,49,10,101,114,114,111,114,32,51,10,101,114,114,111,114,32,49,10]⟩,Y I 0])):=fun b w h hs=>by
  have h1:=play_any b askT w dc hs;rw[(aAk h).1,(aAk h).2]at h1;exact h1
 clear hs;go_enter func7,ntmps7
 go_wp2_with fail
 refine(three_q w).mono ?_;rintro e w1 ⟨a,l,rfl,hc,hl,hb1⟩
 have CW:Hid (Calls prog 8 _ w1 fun e w'=>∃S,e=rt (tu #[sg S,Y I 0])/\Hid (eI S=pB (2,c3))/\Below w1.heap.size w1 w'):=(yS a 3 l 2 w1 hl).mono (by
  rintro e w' ⟨S,rfl,hS,hb⟩
  have hp:aN 2 l=0:=by
   have:=kW 2 l;rw[hc,xH]at this;exact this.symm
  refine⟨S,by rw[hp],?_,hb⟩;show _=_;rw[hS];unfold wrL;rw[if_pos hp,plB_core,hc])
 have B1:=aI hb1;clear hc hl hb1
 go_wp2_with fail
 refine CW.out.mono ?_;rintro e w2 ⟨S,rfl,HS,hb2⟩;have B2:=aI (aC B1.out hb2);clear hb2 CW B1
 go_wp2_with fail
 refine(CP.out S w2 HS.out (S0.out.on B2.out)).mono ?_;rintro e w3 ⟨rfl,hb3⟩;have B3:=aI (aC B2.out hb3);clear hb3 CP B2;go_wp2;go_ret;exact⟨rfl,B3.out⟩
end Go.Proofs.YtcgpkonfneofdaaGreatDoor
