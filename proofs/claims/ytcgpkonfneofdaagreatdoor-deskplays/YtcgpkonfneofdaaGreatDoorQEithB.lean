/- Conditions: those that each theorem states. -/
import Derived.Test.YtcgpkonfneofdaaGreatDoorQOwnE
import Derived.Test.YtcgpkonfneofdaaGreatDoorQHallO
import Derived.Test.YtcgpkonfneofdaaGreatDoorQStepsB
import Derived.Test.YtcgpkonfneofdaaGreatDoorQLawA
import Derived.Laws.StructEq
set_option maxRecDepth 100000
set_option maxHeartbeats 8000000
namespace Go.Proofs.YtcgpkonfneofdaaGreatDoor
open Go.RowKit Go.Proofs.Tryz
open Go.Value renaming slice->J,int->Y,bool->bo,pointer->pd,agg->ag,tuple->tu,string->sg,iface->fc
open Go.IntKind renaming i64->I
open Go.Obj renaming cells->U
open Go.Ending renaming returned->rt,panicked->pg
open Option renaming some->M,none->Q
variable {sh k C lo T g k2 B k1 k3:Nat} {p:Prop} {w' V wc w3 w0:World} {v v2 u0 v1 v3:Value}
section
variable (la:Option Addr) (lc:Nat) (l:List TxA) (sa ra wa va:Option Addr) (sc rc tc vc:Nat) (S:SA)
theorem qC {l:List TxA} {S:SA} {kd n k:Int} (h:dC sh l S kd n k=0):∃K N k':Nat,kd=K/\n=N/\k=k'/\(K=1∨K=2)/\N<l.length/\k'<sh/\qS sh l K N k'=true/\nT S K N k'=false/\dD sh l S K N k'=true:=by
 unfold dC at h;by_cases h1:kd=1∨kd=2
 ·rw[if_pos h1]at h;by_cases h2:n<0∨(l.length:Int)<=n∨k<0∨(sh:Int)<=k
  ·rw[if_pos h2]at h;cases h
  ·rw[if_neg h2]at h;by_cases h3:qS sh l kd.toNat n.toNat k.toNat=true
   ·rw[if_pos h3]at h;by_cases h4:nT S kd.toNat n.toNat k.toNat=true
    ·rw[if_pos h4]at h;cases h
    ·rw[if_neg h4]at h;by_cases h5:dD sh l S kd.toNat n.toNat k.toNat=true
     ·exact⟨kd.toNat,n.toNat,k.toNat,by omega,by omega,by omega,by omega,by omega,by omega,h3,by simpa using h4,h5⟩
     ·rw[if_neg h5]at h;cases h
   ·rw[if_neg h3]at h;cases h
 ·rw[if_neg h1]at h;cases h
theorem do1_pan (m:Int) (p q r:Nat) (w:World) (p0:w.cell? ⟨p,0,Q⟩=Y I m) (p1:w.cell? ⟨p,1,Q⟩=J la l.length lc) (q0:w.cell? ⟨q,0,Q⟩=J sa S.st.length sc) (q1:w.cell? ⟨q,1,Q⟩=J ra S.rd.length rc) (q2:w.cell? ⟨q,2,Q⟩=J wa S.wr.length tc) (q3:w.cell? ⟨q,3,Q⟩=J va S.vs.length vc) (hl:IsTxs w la l) (hs:Sta w sa ra wa va S) (hE:¬cZ m l S=0) :
  Kp 193 #[pd (M ⟨p,0,Q⟩),pd (M ⟨q,0,Q⟩),pd (M ⟨r,0,Q⟩)] w (cZ m l S):=by
 have hg0:Below _ w (w.alloc (U #[J Q 0 0,J Q 0 0,J Q 0 0,J Q 0 0] 45)):=aA br _;have p0':=aB hg0 p0;have p1':=aB hg0 p1;have q0':=aB hg0 q0;have q1':=aB hg0 q1;have q2':=aB hg0 q2;have q3':=aB hg0 q3;have HG:=Hi hg0;have CH:=Hi (xQ la lc l sa ra wa va sc rc tc vc S m _ (hl.below hg0) (hs.below hg0) hE);clear hl hs hE hg0 p0 p1 q0 q1 q2 q3;go_enter func193,ntmps193
 go_upto_region 1 with fail
 generalize (w.alloc (U #[J Q 0 0,J Q 0 0,J Q 0 0,J Q 0 0] 45))=W at *
 go_wp2_with fail
 refine CH.out.mono ?_;rintro e w1 ⟨rfl,hb⟩;exact⟨rfl,rfl,aC HG.out hb⟩
theorem do1_step (sh:Nat) (kd n k:Int) (p q r:Nat) (w:World) (p0:w.cell? ⟨p,0,Q⟩=Y I sh) (p1:w.cell? ⟨p,1,Q⟩=J la l.length lc) (q0:w.cell? ⟨q,0,Q⟩=J sa S.st.length sc) (q1:w.cell? ⟨q,1,Q⟩=J ra S.rd.length rc) (q2:w.cell? ⟨q,2,Q⟩=J wa S.wr.length tc) (q3:w.cell? ⟨q,3,Q⟩=J va S.vs.length vc) (r0:w.cell? ⟨r,0,Q⟩=Y I kd) (r1:w.cell? ⟨r,1,Q⟩=Y I n) (r2:w.cell? ⟨r,2,Q⟩=Y I k) (hl:IsTxs w la l) (hs:Sta w sa ra wa va S) (hE:cZ sh l S=0) (hT:¬dC sh l S kd n k=0) :
  Kp 193 #[pd (M ⟨p,0,Q⟩),pd (M ⟨q,0,Q⟩),pd (M ⟨r,0,Q⟩)] w (dC sh l S kd n k):=by
 have hg0:Below _ w (w.alloc (U #[J Q 0 0,J Q 0 0,J Q 0 0,J Q 0 0] 45)):=aA br _;have p0':=aB hg0 p0;have p1':=aB hg0 p1;have q0':=aB hg0 q0;have q1':=aB hg0 q1;have q2':=aB hg0 q2;have q3':=aB hg0 q3;have r0':=aB hg0 r0;have r1':=aB hg0 r1;have r2':=aB hg0 r2;have HG:=Hi hg0;have CH:=Hi (vU la lc l sa ra wa va sc rc tc vc S sh _ (hl.below hg0) (hs.below hg0) hE);have CT:Hid (∀w1 h A,Hall w1 h sh l S A->Calls _ 195 _ w1 fun e w'=>e=rt _/\Below _ w1 w'):=fun w1 h A H=>pO H kd n k
 have HT:=Hi hT;clear hl hs hE hg0 p0 p1 q0 q1 q2 q3 r0 r1 r2 hT;generalize dC sh l S kd n k=E at *;go_enter func193,ntmps193
 go_upto_region 1 with fail
 generalize (w.alloc (U #[J Q 0 0,J Q 0 0,J Q 0 0,J Q 0 0] 45))=W at *
 go_wp2_with fail
 refine CH.out.mono ?_;rintro e w1 ⟨h,A,rfl,hH,_,_,_,_,_,_,hb⟩;have B1:=Hi (aC HG.out hb);have HH:=Hi hH;have s0:=aB hb r0';have s1:=aB hb r1';have s2:=aB hb r2';clear hb hH CH p0' p1' q0' q1' q2' q3' r0' r1' r2' HG
 go_wp2_with fail
 refine(CT.out _ _ _ HH.out).mono ?_;rintro e w2 ⟨rfl,hb⟩;have B2:=Hi (aC B1.out hb);clear hb B1 HH CT s0 s1 s2
 go_wp2_with fail
 have hz:aH [E]=E:=by
  show (if E=0 then _ else E)=E;rw[if_neg HT.out]
 have hlv:=dR [E] w2.heap.size 1 (w2.alloc (U #[Y I E] 22)) sm (by rw[hz];exact HT.out) (dS w2 _ E rfl);rw[hz]at hlv;refine hlv.mono ?_;rintro e w3 ⟨rfl,rfl⟩;exact⟨rfl,rfl,aA B2.out _⟩
theorem do1_ok (sh:Nat) (K n k:Nat) (p q r:Nat) (w:World) (p0:w.cell? ⟨p,0,Q⟩=Y I sh) (p1:w.cell? ⟨p,1,Q⟩=J la l.length lc) (q0:w.cell? ⟨q,0,Q⟩=J sa S.st.length sc) (q1:w.cell? ⟨q,1,Q⟩=J ra S.rd.length rc) (q2:w.cell? ⟨q,2,Q⟩=J wa S.wr.length tc) (q3:w.cell? ⟨q,3,Q⟩=J va S.vs.length vc) (r0:w.cell? ⟨r,0,Q⟩=Y I K) (r1:w.cell? ⟨r,1,Q⟩=Y I n) (r2:w.cell? ⟨r,2,Q⟩=Y I k) (hl:IsTxs w la l) (hs:Sta w sa ra wa va S) (hE:cZ sh l S=0) (hT:dC sh l S (K:Int) (n:Int) (k:Int)=0) (hK:K=1∨K=2) (hn:n<l.length) (hk:k<sh) :
  Calls prog 193 #[pd (M ⟨p,0,Q⟩),pd (M ⟨q,0,Q⟩),pd (M ⟨r,0,Q⟩)] w fun e w'=>∃sa' ra' wa' va' sc' rc' tc' vc' g0 c1 c2 c3 hi gr gw gv Br Bw Bv,e=rt (ag #[J sa' 8 sc',J ra' l.length rc',J wa' l.length tc',J va' l.length vc'])/\OwnSt w.heap.size w' sa' ra' wa' va' sc' l sh (yQ sh l S K n k) g0 c1 c2 c3 hi gr gw gv Br Bw Bv/\Below w.heap.size w w':=by
 obtain⟨W,hWe⟩:=nm ((w.alloc (U #[J Q 0 0,J Q 0 0,J Q 0 0,J Q 0 0] 45)));have hg0:Below w.heap.size w W:=by subst hWe;exact aA br _
 have p0':=aB hg0 p0;have p1':=aB hg0 p1;have q0':=aB hg0 q0;have q1':=aB hg0 q1;have q2':=aB hg0 q2;have q3':=aB hg0 q3;have r0':=aB hg0 r0;have r1':=aB hg0 r1;have r2':=aB hg0 r2;obtain⟨sh',es,hs0,hs4,hck,_,hfb,_⟩:=aZ hE;have es':sh'=sh:=om;subst es';clear es;have HF:=cH.1 hfb;have hr4:∀i,i<_->(gX l i).rs.length<=4:=fun i hi=>(bI _ _ _ (bR (eG hck i hi)).1).1
 have hl8:=cJ hck;have HG:=Hi hg0;have CH:=Hi (vU la lc l sa ra wa va sc rc tc vc S sh' _ (hl.below hg0) (hs.below hg0) hE)
 have CT:Hid (∀w1 h A,Hall w1 h sh' l S A->Calls _ 195 _ w1 fun e w'=>e=rt _/\Below _ w1 w'):=fun w1 h A H=>by
  have h:=pO H (K:Int) (n:Int) (k:Int);rw[hT]at h;exact h
 have CP:Hid (∀w1,Below W.heap.size W w1->Calls prog 196 #[ag #[J sa S.st.length sc,J ra S.rd.length rc,J wa S.wr.length tc,J va S.vs.length vc]] w1 fun e w'=>∃sa' ra' wa' va' sc' rc' tc' vc' g0 c1 c2 c3 gr gw gv Br Bw Bv,e=rt (ag #[J sa' 8 sc',J ra' l.length rc',J wa' l.length tc',J va' l.length vc'])/\OwnSt w1.heap.size w' sa' ra' wa' va' sc' l sh' S g0 c1 c2 c3 w'.heap.size gr gw gv Br Bw Bv/\Below w1.heap.size w1 w'):=fun w1 hb=>by
  have h:=copyOf_own sa ra wa va sc rc tc vc l sh' S w1 hs0 hs4 hl8 hr4 HF ((hs.below hg0).below hb);rw[HF.st,HF.rd,HF.wr,HF.vs];exact h
 have HL:=Hi hl;have HE:=Hi hck
 have t0:∀j,j<4->W.cell? ⟨w.heap.size,j,Q⟩=J Q 0 0:=by
  exact Vw
 have T0:=Hi t0;have TF:Hid (∀j,W.frozen? ⟨w.heap.size,j,Q⟩=false):=by subst hWe;exact fun j=>by simp
 have sz:Hid (W.heap.size=w.heap.size+1):=by subst hWe;show _=_;simp
 clear hl hs hE hg0 p0 p1 q0 q1 q2 q3 r0 r1 r2 hT hfb hr4 HF hck t0;have HWe:Hid (W=_):=hWe;clear hWe;go_enter func193,ntmps193
 go_upto_region 1 with fail
 rw[<-HWe.out];clear HWe
 go_wp2_with fail
 refine CH.out.mono ?_;rintro e w1 ⟨h,A,rfl,hH,hh1,hh2,hhf,hp1,hp2,hla,hb⟩;have B1:=Hi hb;have HH:=Hi hH;have HHF:=Hi hhf;have HLA:=Hi hla;have s0:=aB hb r0';have s1:=aB hb r1';have s2:=aB hb r2';have RR:Hid (∀w',Below _ W w'->w'.cell? _=M _/\w'.cell? _=M _/\w'.cell? _=M _/\w'.cell? _=M _/\w'.cell? _=M _/\w'.cell? _=M _/\w'.cell? _=M _):=fun w' hb=>⟨aB hb q0',aB hb q1',aB hb q2',aB hb q3',aB hb r0',aB hb r1',aB hb r2'⟩
 clear hb hH CH p0' p1' q0' q1' q2' q3' r0' r1' r2' hhf hla
 go_wp2_with fail
 refine(CT.out _ _ _ HH.out).mono ?_;rintro e w2 ⟨rfl,hb2⟩;clear s0 s1 s2 CT
 go_wp2_with fail
 refine(aQ [0] _ 1 _ sm rfl (dS _ _ _ sm)).mono ?_;rintro e w3 ⟨rfl,hw3⟩;have b3:Below w1.heap.size w1 w3:=by rw[hw3];exact aC hb2 (aA br _)
 have B3:=Hi b3;have H3:=Hi (HH.out.below b3);clear hw3 hb2 b3;obtain⟨s0,s1,s2,s3,_⟩:=RR.out w3 (aC B1.out B3.out)
 go_wp2_with fail
 refine(CP.out w3 (aC B1.out B3.out)).mono ?_;rintro e w4 ⟨sa',ra',wa',va',sc',rc',tc',vc',g0,c1,c2,c3,gr,gw,gv,Br,Bw,Bv,rfl,ho,hb4⟩;have B4:=Hi hb4;have H4:=Hi (H3.out.below hb4);have HO:=Hi ho;have y1:=H4.out.h1;have y2:=H4.out.h2;have y3:=H4.out.h3;have y4:=H4.out.h4;have hh3:=nd hh2 B3.out.size;have FZ:=fun j=>((aC B3.out B4.out).frozen (p:=⟨h,j,Q⟩) hh2).trans (HHF.out j)
 have f1:=FZ 1;have f2:=FZ 2;have f3:=FZ 3;have f4:=FZ 4
 have D5:Hid (letI Z:=(((w4.setCell ⟨h,1,Q⟩ (J sa' 8 sc')).setCell ⟨h,2,Q⟩ (J ra' l.length rc')).setCell ⟨h,3,Q⟩ (J wa' l.length tc')).setCell ⟨h,4,Q⟩ (J va' l.length vc');DoAt w Z w3.heap.size h A.p la A.lc rc' tc' vc' sa' ra' wa' va' sc' l sh' S g0 c1 c2 c3 w4.heap.size gr gw gv Br Bw Bv/\Below W.heap.size W Z):=by
  have e3:=B3.out.size;have e1:=B1.out.size;have ez:=sz.out;have o5:=(((HO.out.set h 1 (J sa' 8 sc') hh3).set h 2 (J ra' l.length rc') hh3).set h 3 (J wa' l.length tc') hh3).set h 4 (J va' l.length vc') hh3;have hpne:A.p≠h:=om;have bl:Below _ W ((((w4.setCell ⟨h,1,Q⟩ (J sa' 8 sc')).setCell ⟨h,2,Q⟩ (J ra' l.length rc')).setCell ⟨h,3,Q⟩ (J wa' l.length tc')).setCell ⟨h,4,Q⟩ (J va' l.length vc')):=aG (aG (aG (aG (aC (aC B1.out B3.out) B4.out) hh1 _) hh1 _) hh1 _) hh1 _;refine⟨⟨aE dc (aE dc (aE dc (aE dc H4.out.h0))),aE dc (aE dc (aE dc (aK y1))),aE dc (aE dc (aK (aE dc y2))),aE dc (aK (aE dc (aE dc y3))),aK (aE dc (aE dc (aE dc y4))),?_,?_,hh3,by omega,HL.out,aC HG.out bl,by omega,o5,hs0,hs4,hl8,HE.out⟩,bl⟩
  all_goals
   rw[nt _ _ _ _ (by simpa using hpne.symm),nt _ _ _ _ (by simpa using hpne.symm),nt _ _ _ _ (by simpa using hpne.symm),nt _ _ _ _ (by simpa using hpne.symm)]
  ·exact H4.out.p0
  ·rw[<-HLA.out];exact H4.out.p1
 clear HO ho hb4 H3 HH HHF FZ CP s0 s1 s2 s3;have hC:Hid (W.heap.size<=w3.heap.size):=by show _<=_;have e3:=B3.out.size;have e1:=B1.out.size;omega
 have hRC:Hid (w.heap.size<w3.heap.size):=by show _<_;have e3:=B3.out.size;have e1:=B1.out.size;have:=sz.out;omega
 clear B1 B3 B4 H4 HL HLA
 go_upto_region 4 with fail
 clear y1 y2 y3 y4 f1 f2 f3 f4;generalize ((((w4.setCell ⟨h,1,Q⟩ (J sa' 8 sc')).setCell ⟨h,2,Q⟩ (J ra' l.length rc')).setCell ⟨h,3,Q⟩ (J wa' l.length tc')).setCell ⟨h,4,Q⟩ (J va' l.length vc'))=W5 at *;obtain⟨_,_,_,_,s0,s1,s2⟩:=RR.out W5 D5.out.2
 have FIN:Hid (∀w6,DoAt w w6 w3.heap.size h A.p la A.lc rc' tc' vc' sa' ra' wa' va' sc' l sh' (yQ sh' l S K n k) g0 c1 c2 c3 w4.heap.size gr gw gv Br Bw Bv->Below w3.heap.size W5 w6->
   w6.cell? ⟨h,1,Q⟩=J sa' 8 sc'/\w6.cell? ⟨h,2,Q⟩=J ra' l.length rc'/\w6.cell? ⟨h,3,Q⟩=J wa' l.length tc'/\w6.cell? ⟨h,4,Q⟩=J va' l.length vc'/\
   w6.cell? _=J Q 0 0/\w6.cell? _=J Q 0 0/\w6.cell? _=J Q 0 0/\w6.cell? _=J Q 0 0/\_/\
   Hid (OwnSt w.heap.size _ sa' ra' wa' va' sc' l sh' (yQ sh' l S K n k) g0 c1 c2 c3 w4.heap.size gr gw gv Br Bw Bv/\Below w.heap.size w ((((w6.setCell ⟨w.heap.size,0,Q⟩ (J sa' 8 sc')).setCell ⟨w.heap.size,1,Q⟩ (J ra' l.length rc')).setCell ⟨w.heap.size,2,Q⟩ (J wa' l.length tc')).setCell ⟨w.heap.size,3,Q⟩ (J va' l.length vc')))):=fun w6 D6 hb6=>by
  have bw:Below W.heap.size W w6:=D5.out.2.trans (hb6.mono hC.out);have fz:=fun j=>(bw.frozen (p:=⟨w.heap.size,j,Q⟩) (by have:=sz.out;show w.heap.size<_;omega)).trans (TF.out j)
  refine⟨D6.h1,D6.h2,D6.h3,D6.h4,aB bw (T0.out 0 dc),aB bw (T0.out 1 dc),aB bw (T0.out 2 dc),aB bw (T0.out 3 dc),fz,?_,?_⟩
  ·exact((((D6.own.set w.heap.size 0 (J sa' 8 sc') hRC.out).set w.heap.size 1 (J ra' l.length rc') hRC.out).set w.heap.size 2 (J wa' l.length tc') hRC.out).set w.heap.size 3 (J va' l.length vc') hRC.out).low (wi hRC.out)
  ·exact aG (aG (aG (aG (aC HG.out bw) nr _) nr _) nr _) nr _
 clear RR T0 TF;rcases hK with rfl | rfl
 focus
  have CR:Hid (Calls _ 197 _ W5 fun e w'=>e=rt _/\DoAt w w' _ h A.p la A.lc rc' tc' vc' sa' ra' wa' va' sc' l sh' (yQ sh' l S 1 n k) g0 c1 c2 c3 _ gr gw gv Br Bw Bv/\Below _ W5 w'):=read_at D5.out.1 hn hk
 rotate_left
 focus
  have CR:Hid (Calls _ 198 _ W5 fun e w'=>e=rt _/\DoAt w w' _ h A.p la A.lc rc' tc' vc' sa' ra' wa' va' sc' l sh' (yQ sh' l S 2 n k) g0 c1 c2 c3 _ gr gw gv Br Bw Bv/\Below _ W5 w'):=write_at D5.out.1 hn hk
 rotate_left
 all_goals
  clear D5
  go_wp2_with fail
  refine CR.out.mono ?_;rintro e w6 ⟨rfl,D6,hb6⟩;obtain⟨z1,z2,z3,z4,v0,v1,v2,v3,vf,FF⟩:=FIN.out w6 D6 hb6;clear FIN D6 hb6 CR s0 s1 s2
  go_wp2_with fail
  have x0:((((w6.setCell _ (J sa' 8 sc')).setCell ⟨_,1,Q⟩ (J ra' l.length rc')).setCell ⟨_,2,Q⟩ (J wa' l.length tc')).setCell ⟨_,3,Q⟩ (J va' l.length vc')).cell? _=M _:=(aE dc (aE dc (aE dc (aK v0))));have x1:((((w6.setCell ⟨_,0,Q⟩ (J sa' 8 sc')).setCell _ _).setCell ⟨_,2,Q⟩ (J wa' l.length tc')).setCell ⟨_,3,Q⟩ (J va' l.length vc')).cell? _=J ra' l.length rc':=(aE dc (aE dc (aK (aE dc v1))));have x2:((((w6.setCell ⟨_,0,Q⟩ (J sa' 8 sc')).setCell ⟨_,1,Q⟩ (J ra' l.length rc')).setCell _ (J wa' l.length tc')).setCell ⟨_,3,Q⟩ (J va' l.length vc')).cell? _=M _:=(aE dc (aK (aE dc (aE dc v2))));have x3:((((w6.setCell ⟨_,0,Q⟩ (J sa' 8 sc')).setCell ⟨_,1,Q⟩ (J ra' l.length rc')).setCell ⟨_,2,Q⟩ (J wa' l.length tc')).setCell _ _).cell? _=J va' l.length vc':=(aK (aE dc (aE dc (aE dc v3))));generalize ((((w6.setCell ⟨w.heap.size,0,Q⟩ (J sa' 8 sc')).setCell ⟨w.heap.size,1,Q⟩ (J ra' l.length rc')).setCell ⟨w.heap.size,2,Q⟩ (J wa' l.length tc')).setCell ⟨w.heap.size,3,Q⟩ (J va' l.length vc'))=W7 at *;refine bodyPost_ret (v:=ag #[J sa' 8 sc',J ra' l.length rc',J wa' l.length tc',J va' l.length vc']) (by simp[results,results193,go_sem,x0,x1,x2,x3]) rfl ⟨sa',ra',wa',va',sc',rc',tc',vc',g0,c1,c2,c3,w4.heap.size,gr,gw,gv,Br,Bw,Bv,rfl,FF.out.1,FF.out.2⟩
end
theorem Vq (h:p:=by
 rintro e w' ⟨rfl,hb⟩;exact⟨qNil,rfl,fF _ _,hb⟩):p:=h
theorem Xf (h:p:=by
 rintro e w' ⟨q,rfl,ho,hb⟩;exact⟨q,rfl,(ho.staF h0).low om,hb⟩):p:=h
section
def OwnQ (C:Nat) (l:List TxA) (sh:Nat) (S:SA) (q:Q4) (w:World):Prop:=q.sn=8/\q.rn=l.length/\q.wn=l.length/\q.vn=l.length/\∃g0 c1 c2 c3 hi gr gw gv Br Bw Bv,OwnSt C w q.sa q.ra q.wa q.va q.sc l sh S g0 c1 c2 c3 hi gr gw gv Br Bw Bv
theorem OwnQ.set {l:List TxA} {S:SA} {q:Q4} {w:World} (h:OwnQ C l sh S q w) (b j:Nat) (u:Value) (hb:b<C):OwnQ C l sh S q (w.setCell ⟨b,j,Q⟩ u):=by
 obtain⟨e1,e2,e3,e4,g0,c1,c2,c3,hi,gr,gw,gv,Br,Bw,Bv,o⟩:=h;exact⟨e1,e2,e3,e4,g0,c1,c2,c3,hi,gr,gw,gv,Br,Bw,Bv,o.set b j u hb⟩
theorem OwnQ.sta {l:List TxA} {S:SA} {q:Q4} {w:World} (h:OwnQ C l sh S q w) (h0:0<sh):q.sn=S.st.length/\q.rn=S.rd.length/\q.wn=S.wr.length/\q.vn=S.vs.length/\Sta w q.sa q.ra q.wa q.va S:=by
 obtain⟨e1,e2,e3,e4,g0,c1,c2,c3,hi,gr,gw,gv,Br,Bw,Bv,o⟩:=h;exact⟨e1.trans o.f.st.symm,e2.trans o.f.rd.symm,e3.trans o.f.wr.symm,e4.trans o.f.vs.symm,o.sta h0⟩
def StaQ (S:SA) (q:Q4) (w:World):Prop:=q.sn=S.st.length/\q.rn=S.rd.length/\q.wn=S.wr.length/\q.vn=S.vs.length/\Sta w q.sa q.ra q.wa q.va S
theorem StaQ.below {S:SA} {q:Q4} {w:World} (h:StaQ S q w) (hb:Below w.heap.size w w'):StaQ S q w':=⟨h.1,h.2.1,h.2.2.1,h.2.2.2.1,h.2.2.2.2.below hb⟩
def StaF (lo:Nat) (S:SA) (q:Q4) (w:World):Prop:=∀w':World,(∀b,lo<=b->b<w.heap.size->w'.heap[b]?=w.heap[b]?)->w.heap.size<=w'.heap.size->StaQ S q w'
theorem StaF.sta {S:SA} {q:Q4} {w:World} (h:StaF lo S q w):StaQ S q w:=h w (fun _ _ _=>rfl) nr
theorem StaF.set {S:SA} {q:Q4} {w:World} (h:StaF lo S q w) (b j:Nat) (u:Value) (hb:b<lo):StaF lo S q (w.setCell ⟨b,j,Q⟩ u):=fun w' h1 h2=>h w' (fun c hc hs=>(h1 c hc (by rw[n9];exact hs)).trans (eB w b j u c om)) (by rw[n9]at h2;exact h2)
theorem StaF.low {lo':Nat} {S:SA} {q:Q4} {w:World} (h:StaF lo S q w) (hl:lo'<=lo):StaF lo' S q w:=fun w' h1 h2=>h w' (fun c hc hs=>h1 c (nh hl hc) hs) h2
theorem StaF.below {S:SA} {q:Q4} {w:World} (h:StaF lo S q w) (hb:Below w.heap.size w w'):StaF lo S q w':=fun w2 h1 h2=>h w2 (fun c hc hs=>(h1 c hc (nd hs hb.size)).trans (hb.block c hs)) (nh hb.size h2)
theorem OwnQ.staF {l:List TxA} {S:SA} {q:Q4} {w:World} (h:OwnQ C l sh S q w) (h0:0<sh):StaF C S q w:=fun w' h1 h2=>by
 obtain⟨e1,e2,e3,e4,g0,c1,c2,c3,hi,gr,gw,gv,Br,Bw,Bv,o⟩:=h;exact OwnQ.sta ⟨e1,e2,e3,e4,g0,c1,c2,c3,hi,gr,gw,gv,Br,Bw,Bv,o.keep (fun c hc hs=>h1 c hc om) h2⟩ h0
def qNil:Q4:=⟨Q,Q,Q,Q,0,0,0,0,0,0,0,0⟩
def mD:SA:=⟨[],[],[],[]⟩
theorem staQ_nil (w:World):StaQ mD qNil w:=⟨rfl,rfl,rfl,rfl,fun _ h=>absurd h (nl _),fun _ h=>absurd h (nl _),fun _ h=>absurd h (nl _),fun _ h=>absurd h (nl _)⟩
theorem fF (lo:Nat) (w:World):StaF lo mD qNil w:=fun w' _ _=>staQ_nil w'
def gM (m:Int) (l:List TxA) (S:SA) (kd n k:Int):Int:=if cZ m l S=0 then dC m.toNat l S kd n k else cZ m l S
def lU (m:Int) (l:List TxA) (S:SA) (kd n k:Int):SA:=if gM m l S kd n k=0 then yQ m.toNat l S kd.toNat n.toNat k.toNat else mD
variable (la:Option Addr) (lc:Nat) (l:List TxA) (sa ra wa va:Option Addr) (sc rc tc vc:Nat) (S:SA)
theorem stepsDo_any (m kd n k:Int) (w:World) (hl:IsTxs w la l) (hs:Sta w sa ra wa va S) :
  Calls prog 158 #[ag #[Y I m,J la l.length lc],ag #[J sa S.st.length sc,J ra S.rd.length rc,J wa S.wr.length tc,J va S.vs.length vc],ag #[Y I kd,Y I n,Y I k]] w fun e w'=>∃q:Q4,e=rt (tu #[ag #[J q.sa q.sn q.sc,J q.ra q.rn q.rc,J q.wa q.wn q.tc,J q.va q.vn q.vc],Y I (gM m l S kd n k)])/\StaF w.heap.size (lU m l S kd n k) q w'/\Below w.heap.size w w':=by
 have hg:Below _ w ((((((w.alloc (U #[Y I m,J la l.length lc] 29)).alloc (U #[J sa S.st.length sc,J ra S.rd.length rc,J wa S.wr.length tc,J va S.vs.length vc] 45)).alloc (U #[Y I kd,Y I n,Y I k] 33)).alloc (U #[J Q 0 0,J Q 0 0,J Q 0 0,J Q 0 0] 45)).alloc (U #[J Q 0 0,J Q 0 0,J Q 0 0,J Q 0 0] 45)).alloc (U #[Y I 0] 22)):=(aA (aA (aA (aA (aA (aA br _) _) _) _) _) _);have hU:Hid (Below _ w ((((w.alloc (U #[Y I m,J la l.length lc] 29)).alloc (U #[J sa S.st.length sc,J ra S.rd.length rc,J wa S.wr.length tc,J va S.vs.length vc] 45)).alloc (U #[Y I kd,Y I n,Y I k] 33)).alloc (U #[J Q 0 0,J Q 0 0,J Q 0 0,J Q 0 0] 45))):=(aA (aA (aA (aA br _) _) _) _);have p0:((((((w.alloc (U #[Y I m,J la l.length lc] 29)).alloc (U #[J sa S.st.length sc,J ra S.rd.length rc,J wa S.wr.length tc,J va S.vs.length vc] 45)).alloc (U #[Y I kd,Y I n,Y I k] 33)).alloc (U #[J Q 0 0,J Q 0 0,J Q 0 0,J Q 0 0] 45)).alloc (U #[J Q 0 0,J Q 0 0,J Q 0 0,J Q 0 0] 45)).alloc (U #[Y I 0] 22)).cell? _=Y I m:=aB (aA (aA (aA (aA (aA br _) _) _) _) _) (aF _ _ 29 _ 0 _ (by first | rfl | simp) rfl);have p1:((((((w.alloc (U #[Y I m,J la l.length lc] 29)).alloc (U #[J sa S.st.length sc,J ra S.rd.length rc,J wa S.wr.length tc,J va S.vs.length vc] 45)).alloc (U #[Y I kd,Y I n,Y I k] 33)).alloc (U #[J Q 0 0,J Q 0 0,J Q 0 0,J Q 0 0] 45)).alloc (U #[J Q 0 0,J Q 0 0,J Q 0 0,J Q 0 0] 45)).alloc (U #[Y I 0] 22)).cell? _=J la l.length lc:=aB (aA (aA (aA (aA (aA br _) _) _) _) _) (aF _ _ 29 _ 1 _ (by first | rfl | simp) rfl);have q0:((((((w.alloc (U #[Y I m,J la l.length lc] 29)).alloc (U #[J sa S.st.length sc,J ra S.rd.length rc,J wa S.wr.length tc,J va S.vs.length vc] 45)).alloc (U #[Y I kd,Y I n,Y I k] 33)).alloc (U #[J Q 0 0,J Q 0 0,J Q 0 0,J Q 0 0] 45)).alloc (U #[J Q 0 0,J Q 0 0,J Q 0 0,J Q 0 0] 45)).alloc (U #[Y I 0] 22)).cell? ⟨w.heap.size+1,0,Q⟩=J sa _ sc:=aB (aA (aA (aA (aA br _) _) _) _) (aF _ _ 45 _ 0 _ (by first | rfl | simp) rfl);have q1:((((((w.alloc (U #[Y I m,J la l.length lc] 29)).alloc (U #[J sa S.st.length sc,J ra S.rd.length rc,J wa S.wr.length tc,J va S.vs.length vc] 45)).alloc (U #[Y I kd,Y I n,Y I k] 33)).alloc (U #[J Q 0 0,J Q 0 0,J Q 0 0,J Q 0 0] 45)).alloc (U #[J Q 0 0,J Q 0 0,J Q 0 0,J Q 0 0] 45)).alloc (U #[Y I 0] 22)).cell? ⟨w.heap.size+1,1,Q⟩=J ra _ rc:=aB (aA (aA (aA (aA br _) _) _) _) (aF _ _ 45 _ 1 _ (by first | rfl | simp) rfl);have q2:((((((w.alloc (U #[Y I m,J la l.length lc] 29)).alloc (U #[J sa S.st.length sc,J ra S.rd.length rc,J wa S.wr.length tc,J va S.vs.length vc] 45)).alloc (U #[Y I kd,Y I n,Y I k] 33)).alloc (U #[J Q 0 0,J Q 0 0,J Q 0 0,J Q 0 0] 45)).alloc (U #[J Q 0 0,J Q 0 0,J Q 0 0,J Q 0 0] 45)).alloc (U #[Y I 0] 22)).cell? ⟨w.heap.size+1,2,Q⟩=J wa _ tc:=aB (aA (aA (aA (aA br _) _) _) _) (aF _ _ 45 _ 2 _ (by first | rfl | simp) rfl);have q3:((((((w.alloc (U #[Y I m,J la l.length lc] 29)).alloc (U #[J sa S.st.length sc,J ra S.rd.length rc,J wa S.wr.length tc,J va S.vs.length vc] 45)).alloc (U #[Y I kd,Y I n,Y I k] 33)).alloc (U #[J Q 0 0,J Q 0 0,J Q 0 0,J Q 0 0] 45)).alloc (U #[J Q 0 0,J Q 0 0,J Q 0 0,J Q 0 0] 45)).alloc (U #[Y I 0] 22)).cell? ⟨w.heap.size+1,3,Q⟩=J va _ vc:=aB (aA (aA (aA (aA br _) _) _) _) (aF _ _ 45 _ 3 _ (by first | rfl | simp) rfl)
 have r0:((((((w.alloc (U #[Y I m,J la l.length lc] 29)).alloc (U #[J sa S.st.length sc,J ra S.rd.length rc,J wa S.wr.length tc,J va S.vs.length vc] 45)).alloc (U #[Y I kd,Y I n,Y I k] 33)).alloc (U #[J Q 0 0,J Q 0 0,J Q 0 0,J Q 0 0] 45)).alloc (U #[J Q 0 0,J Q 0 0,J Q 0 0,J Q 0 0] 45)).alloc (U #[Y I 0] 22)).cell? ⟨w.heap.size+2,0,Q⟩=Y I kd:=aB (aA (aA (aA br _) _) _) (aF _ _ 33 _ 0 _ (by first | rfl | simp) rfl);have r1:((((((w.alloc (U #[Y I m,J la l.length lc] 29)).alloc (U #[J sa S.st.length sc,J ra S.rd.length rc,J wa S.wr.length tc,J va S.vs.length vc] 45)).alloc (U #[Y I kd,Y I n,Y I k] 33)).alloc (U #[J Q 0 0,J Q 0 0,J Q 0 0,J Q 0 0] 45)).alloc (U #[J Q 0 0,J Q 0 0,J Q 0 0,J Q 0 0] 45)).alloc (U #[Y I 0] 22)).cell? ⟨w.heap.size+2,1,Q⟩=Y I n:=aB (aA (aA (aA br _) _) _) (aF _ _ 33 _ 1 _ (by first | rfl | simp) rfl);have r2:((((((w.alloc (U #[Y I m,J la l.length lc] 29)).alloc (U #[J sa S.st.length sc,J ra S.rd.length rc,J wa S.wr.length tc,J va S.vs.length vc] 45)).alloc (U #[Y I kd,Y I n,Y I k] 33)).alloc (U #[J Q 0 0,J Q 0 0,J Q 0 0,J Q 0 0] 45)).alloc (U #[J Q 0 0,J Q 0 0,J Q 0 0,J Q 0 0] 45)).alloc (U #[Y I 0] 22)).cell? ⟨w.heap.size+2,2,Q⟩=Y I k:=aB (aA (aA (aA br _) _) _) (aF _ _ 33 _ 2 _ (by first | rfl | simp) rfl)
 have T0:Hid (∀j,j<4->((((w.alloc (U #[Y I m,J la l.length lc] 29)).alloc (U #[J sa S.st.length sc,J ra S.rd.length rc,J wa S.wr.length tc,J va S.vs.length vc] 45)).alloc (U #[Y I kd,Y I n,Y I k] 33)).alloc (U #[J Q 0 0,J Q 0 0,J Q 0 0,J Q 0 0] 45)).cell? ⟨w.heap.size+3,j,Q⟩=J Q 0 0):=fun j hj=>by
  exact uo
 have TF:Hid (∀j,((((w.alloc (U #[Y I m,J la l.length lc] 29)).alloc (U #[J sa S.st.length sc,J ra S.rd.length rc,J wa S.wr.length tc,J va S.vs.length vc] 45)).alloc (U #[Y I kd,Y I n,Y I k] 33)).alloc (U #[J Q 0 0,J Q 0 0,J Q 0 0,J Q 0 0] 45)).frozen? ⟨w.heap.size+3,j,Q⟩=false):=fun j=>aU _ _ 45 _ j sm
 have sz:Hid (((((w.alloc (U #[Y I m,J la l.length lc] 29)).alloc (U #[J sa S.st.length sc,J ra S.rd.length rc,J wa S.wr.length tc,J va S.vs.length vc] 45)).alloc (U #[Y I kd,Y I n,Y I k] 33)).alloc (U #[J Q 0 0,J Q 0 0,J Q 0 0,J Q 0 0] 45)).heap.size=w.heap.size+4):=by show _=_;simp
 have CC:Hid (letI Z:=(((w.alloc (U #[Y I m,J la l.length lc] 29)).alloc (U #[J sa S.st.length sc,J ra S.rd.length rc,J wa S.wr.length tc,J va S.vs.length vc] 45)).alloc (U #[Y I kd,Y I n,Y I k] 33)).alloc (U #[J Q 0 0,J Q 0 0,J Q 0 0,J Q 0 0] 45);Calls prog 76 #[.func (.func 193) #[] #[pd (M ⟨w.heap.size,0,Q⟩),pd (M ⟨w.heap.size+1,0,Q⟩),pd (M ⟨w.heap.size+2,0,Q⟩)]] Z fun e w'=>∃q:Q4,e=rt (tu #[ag #[J q.sa q.sn q.sc,J q.ra q.rn q.rc,J q.wa q.wn q.tc,J q.va q.vn q.vc],Y I (gM m l S kd n k)])/\StaF (w.heap.size+4) (lU m l S kd n k) q w'/\Below Z.heap.size Z w'):=by
  by_cases hE:cZ m l S=0
  ·obtain⟨sh,rfl,h0,_⟩:=aZ hE;have e1:gM (sh:Int) l S kd n k=dC sh l S kd n k:=by unfold gM;rw[if_pos hE];rfl
   by_cases hT:dC sh l S kd n k=0
   ·have e2:lU (sh:Int) l S kd n k=yQ sh l S kd.toNat n.toNat k.toNat:=by unfold lU;rw[e1,if_pos hT];rfl
    rw[e1,e2,hT];obtain⟨K,N,k',rfl,rfl,rfl,hK,hN,hk,_⟩:=qC hT;refine(sG 193 _ (fun _=>rfl) (fun q w'=>OwnQ (w.heap.size+6) l sh (yQ sh l S K N k') q w') _ (fun q w' i u j hj h=>h.set j i u (by have:=sz.out;omega)) ((do1_ok la lc l sa ra wa va sc rc tc vc S sh K N k' _ _ _ _ p0 p1 q0 q1 q2 q3 r0 r1 r2 (hl.below hg) (hs.below hg) hE hT hK hN hk).mono ?_)).mono ?_
    ·rintro e w' ⟨sa',ra',wa',va',sc',rc',tc',vc',g0,c1,c2,c3,hi,gr,gw,gv,Br,Bw,Bv,rfl,ho,hb⟩;refine⟨⟨sa',ra',wa',va',8,l.length,l.length,l.length,sc',rc',tc',vc'⟩,rfl,⟨rfl,rfl,rfl,rfl,g0,c1,c2,c3,hi,gr,gw,gv,Br,Bw,Bv,ho.low (by first | exact nr | simp)⟩,hb⟩
    ·exact Xf
   ·have e2:lU (sh:Int) l S kd n k=mD:=by unfold lU;rw[e1,if_neg hT]
    rw[e1,e2];refine(nM 193 _ (fun _=>rfl) _ _ (do1_step la lc l sa ra wa va sc rc tc vc S sh kd n k _ _ _ _ p0 p1 q0 q1 q2 q3 r0 r1 r2 (hl.below hg) (hs.below hg) hE hT)).mono ?_;exact Vq
  ·have e1:gM m l S kd n k=cZ m l S:=by unfold gM;rw[if_neg hE]
   have e2:lU m l S kd n k=mD:=by unfold lU;rw[e1,if_neg hE]
   rw[e1,e2];refine(nM 193 _ (fun _=>rfl) _ _ (do1_pan la lc l sa ra wa va sc rc tc vc S m _ _ _ _ p0 p1 q0 q1 q2 q3 (hl.below hg) (hs.below hg) hE)).mono ?_;exact Vq
 clear hg p0 p1 q0 q1 q2 q3 r0 r1 r2 hl hs;go_enter func158,ntmps158
 go_upto_region 1 with fail
 generalize ((((w.alloc (U #[Y I m,J la l.length lc] 29)).alloc (U #[J sa S.st.length sc,J ra S.rd.length rc,J wa S.wr.length tc,J va S.vs.length vc] 45)).alloc (U #[Y I kd,Y I n,Y I k] 33)).alloc (U #[J Q 0 0,J Q 0 0,J Q 0 0,J Q 0 0] 45))=W at *
 go_wp2_with fail
 refine CC.out.mono ?_;clear CC;rintro e w1 ⟨q,rfl,hq,hb⟩;have t0:=aB hb (T0.out 0 dc);have t1:=aB hb (T0.out 1 dc);have t2:=aB hb (T0.out 2 dc);have t3:=aB hb (T0.out 3 dc);have tf:=fun j=>(hb.frozen (p:=⟨w.heap.size+3,j,Q⟩) (by have:=sz.out;show w.heap.size+3<_;omega)).trans (TF.out j)
 have FB:Hid (Below w.heap.size w ((((w1.setCell ⟨w.heap.size+3,0,Q⟩ (J q.sa q.sn q.sc)).setCell ⟨w.heap.size+3,1,Q⟩ (J q.ra q.rn q.rc)).setCell ⟨w.heap.size+3,2,Q⟩ (J q.wa q.wn q.tc)).setCell ⟨w.heap.size+3,3,Q⟩ (J q.va q.vn q.vc))):=aG (aG (aG (aG (aC hU.out hb) sm _) sm _) sm _) sm _;have FS:Hid (StaF w.heap.size (lU m l S kd n k) q ((((w1.setCell ⟨w.heap.size+3,0,Q⟩ (J q.sa q.sn q.sc)).setCell ⟨w.heap.size+3,1,Q⟩ (J q.ra q.rn q.rc)).setCell ⟨w.heap.size+3,2,Q⟩ (J q.wa q.wn q.tc)).setCell ⟨w.heap.size+3,3,Q⟩ (J q.va q.vn q.vc))):=((((hq.set _ 0 _ om).set _ 1 _ om).set _ 2 _ om).set _ 3 _ om).low om;clear hq hb T0 TF
 go_wp2_with fail
 have x0:((((w1.setCell _ (J q.sa q.sn q.sc)).setCell ⟨_+3,1,Q⟩ (J q.ra q.rn q.rc)).setCell ⟨_+3,2,Q⟩ (J q.wa q.wn q.tc)).setCell ⟨_+3,3,Q⟩ (J q.va q.vn q.vc)).cell? _=M _:=(aE dc (aE dc (aE dc (aK t0))));have x1:((((w1.setCell ⟨_+3,0,Q⟩ (J q.sa q.sn q.sc)).setCell _ (J q.ra q.rn q.rc)).setCell ⟨_+3,2,Q⟩ (J q.wa q.wn q.tc)).setCell ⟨_+3,3,Q⟩ (J q.va q.vn q.vc)).cell? _=M _:=(aE dc (aE dc (aK (aE dc t1))));have x2:((((w1.setCell ⟨_+3,0,Q⟩ (J q.sa q.sn q.sc)).setCell ⟨_+3,1,Q⟩ (J q.ra q.rn q.rc)).setCell _ (J q.wa q.wn q.tc)).setCell ⟨_+3,3,Q⟩ (J q.va q.vn q.vc)).cell? _=M _:=(aE dc (aK (aE dc (aE dc t2))));have x3:((((w1.setCell ⟨_+3,0,Q⟩ (J q.sa q.sn q.sc)).setCell ⟨_+3,1,Q⟩ (J q.ra q.rn q.rc)).setCell ⟨_+3,2,Q⟩ (J q.wa q.wn q.tc)).setCell _ (J q.va q.vn q.vc)).cell? _=M _:=(aK (aE dc (aE dc (aE dc t3))));generalize ((((w1.setCell ⟨w.heap.size+3,0,Q⟩ (J q.sa q.sn q.sc)).setCell ⟨w.heap.size+3,1,Q⟩ (J q.ra q.rn q.rc)).setCell ⟨w.heap.size+3,2,Q⟩ (J q.wa q.wn q.tc)).setCell ⟨w.heap.size+3,3,Q⟩ (J q.va q.vn q.vc))=WF at *;refine bodyPost_ret (v:=tu #[ag #[J q.sa q.sn q.sc,J q.ra q.rn q.rc,J q.wa q.wn q.tc,J q.va q.vn q.vc],Y I (gM m l S kd n k)]) (by simp[results,results158,go_sem,x0,x1,x2,x3]) rfl ⟨q,rfl,FS.out,FB.out⟩
end
def vJ (v:Value) (k:Nat) (len:Nat->Nat) (B:Nat->Nat) (b:Nat):Prop:=v.ownBlock=M b∨∃i,i<k/\0<len i/\B i=b
theorem CR.lt {w:World} {len:Nat->Nat} {G:Nat->Nat->Value} {L:List (Option Addr×Nat×Nat)} {B:Nat->Nat} (h:CR T C w v k len G L B) {b:Nat} (hf:vJ v k len B b):C<=b/\b<w.heap.size:=by
 rcases hf with e | ⟨i,hi,hl,rfl⟩
 ·exact h.o.lt b e
 ·exact⟨(h.b i hi hl).1,(h.b i hi hl).2.1⟩
theorem CR.on {w:World} {len:Nat->Nat} {G:Nat->Nat->Value} {L:List (Option Addr×Nat×Nat)} {B:Nat->Nat} (h:CR T C w v k len G L B) {row:Option Nat} (hg:w.grownBy w' row) (hr:∀b,row=M b->¬vJ v k len B b):CR T C w' v k len G L B:=
 ⟨h.n,fU h.o hg (fun j e q=>hr j q (.inl e)),h.e,fun i hi hl=>⟨(h.b i hi hl).1,nd (h.b i hi hl).2.1 hg.size,(h.b i hi hl).2.2⟩,h.d,fun i m hi hm=>hg.cell (h.c i m hi hm) (fun q=>hr (B i) q.symm (.inr ⟨i,hi,by omega,rfl⟩)),fun i m hi hl=>(nv (a:=⟨B i,m,Q⟩) (hg.block (B i) (h.b i hi hl).2.1 (fun q=>hr (B i) q.symm (.inr ⟨i,hi,hl,rfl⟩)))).trans (h.f i m hi hl)⟩
theorem CR.pushed {v':Value} {len:Nat->Nat} {G:Nat->Nat->Value} {L:List (Option Addr×Nat×Nat)} {B:Nat->Nat} {a:Option Addr} {c:Nat} (h:CR T C V v k len G L B) (hb:Below V.heap.size V wc)
  (ho:w3.ownsRow C T 1 v' (L.length+1) ((L.map fun p=>J p.1 p.2.1 p.2.2)++[J a (len k) c])) (hg:wc.grownBy w3 v.ownBlock) (hv:v'.ownBlock=v.ownBlock∨v'.ownBlock=M wc.heap.size)
  (hn:NewRow V.heap.size wc a c g (len k) (G k)) (hC:C<=V.heap.size) (H j:Nat) (hH:H<C) (u:Value) :
  ∃B',CR T C (w3.setCell ⟨H,j,Q⟩ u) v' (k+1) len G (L++[(a,len k,c)]) B'/\∀b,vJ v' (k+1) len B' b->vJ v k len B b∨V.heap.size<=b:=by
 have h':=h.below hb;have P:=CR.push (B':=fun i=>if i=k then g else B i) h' h.n ho hg hv hn hC (fun j e=>(h.lt (.inl e)).2) (fun i hi hl=>(h.b i hi hl).2.1) (if_pos rfl) (fun i hi=>if_neg hi);refine⟨_,P.on (aP w3 H j u) (fun b e q=>by injection e with e;have:=(P.lt q).1;omega),fun b hf=>?_⟩;rcases hf with e | ⟨i,hi,hl,e⟩
 ·rcases hv with x | x
  ·exact .inl (.inl (x.symm.trans e))
  ·rw[x]at e;injection e with e;have:=hb.size;exact .inr om
 ·by_cases q:i=k
  ·subst q;have e:(if i=i then g else B i)=b:=e;rw[if_pos rfl]at e;exact .inr (by rw[<-e];exact(hn.e hl).2.1)
  ·have e:(if i=k then g else B i)=b:=e;rw[if_neg q]at e;exact .inl (.inr ⟨i,by omega,hl,e⟩)
theorem CR.stays {T':Nat} {len:Nat->Nat} {G:Nat->Nat->Value} {L:List (Option Addr×Nat×Nat)} {B:Nat->Nat} {len2:Nat->Nat} {G2:Nat->Nat->Value} {L2:List (Option Addr×Nat×Nat)} {B2:Nat->Nat} (_h:CR T C V v k len G L B) (h2:CR T' C V v2 k2 len2 G2 L2 B2) (hb:Below V.heap.size V wc) (hg:wc.grownBy w3 v.ownBlock) (hap:∀b,vJ v k len B b->vJ v2 k2 len2 B2 b->False) (H j:Nat) (hH:H<C) (u:Value):CR T' C (w3.setCell ⟨H,j,Q⟩ u) v2 k2 len2 G2 L2 B2:=by
 have P:=(h2.below hb).on hg (fun b e q=>hap b (.inl e) q);exact P.on (aP w3 H j u) (fun b e q=>by injection e with e;have:=(P.lt q).1;omega)
structure Beg (w0 w:World) (B:Nat) (u0 v1 v2 v3:Value) (k1 k2 k3 sh:Nat) (l:List TxA) (L1 L2 L3:List (Option Addr×Nat×Nat)) (B1 B2 B3:Nat->Nat):Prop where
 c0:w.cell? ⟨B,0,Q⟩=M u0
 c1:w.cell? ⟨B,1,Q⟩=M v1
 c2:w.cell? ⟨B,2,Q⟩=M v2
 c3:w.cell? ⟨B,3,Q⟩=M v3
 fz:∀j,w.frozen? ⟨B,j,Q⟩=false
 r1:CR 104 (B+1) w v1 k1 (fun _=>sh) (fun _ _=>bo false) L1 B1
 r2:CR 104 (B+1) w v2 k2 (fun _=>sh) (fun _ _=>bo false) L2 B2
 r3:CR 41 (B+1) w v3 k3 (fun i=>(gX l i).rs.length) (fun _ _=>Y I 0) L3 B3
 a12:∀b,vJ v1 k1 (fun _=>sh) B1 b->vJ v2 k2 (fun _=>sh) B2 b->False
 a13:∀b,vJ v1 k1 (fun _=>sh) B1 b->vJ v3 k3 (fun i=>(gX l i).rs.length) B3 b->False
 a23:∀b,vJ v2 k2 (fun _=>sh) B2 b->vJ v3 k3 (fun i=>(gX l i).rs.length) B3 b->False
 bl:Below w0.heap.size w0 w
 hw:w0.heap.size<=B
 hs:B<w.heap.size
theorem Beg.below {l:List TxA} {L1 L2 L3:List (Option Addr×Nat×Nat)} {B1 B2 B3:Nat->Nat} (h:Beg w0 V B u0 v1 v2 v3 k1 k2 k3 sh l L1 L2 L3 B1 B2 B3) (hb:Below V.heap.size V w'):Beg w0 w' B u0 v1 v2 v3 k1 k2 k3 sh l L1 L2 L3 B1 B2 B3:=
 ⟨aB hb h.c0,aB hb h.c1,aB hb h.c2,aB hb h.c3,fun j=>(hb.frozen (p:=⟨B,j,Q⟩) h.hs).trans (h.fz j),h.r1.below hb,h.r2.below hb,h.r3.below hb,h.a12,h.a13,h.a23,aC h.bl hb,h.hw,nd h.hs hb.size⟩
theorem Beg.push1 {l:List TxA} {L1 L2 L3:List (Option Addr×Nat×Nat)} {B1 B2 B3:Nat->Nat} {v1':Value} {a:Option Addr} {c:Nat} (hV:Beg w0 V B u0 v1 v2 v3 k1 k2 k3 sh l L1 L2 L3 B1 B2 B3) (hb:Below V.heap.size V wc)
  (ho:w3.ownsRow (B+1) 104 1 v1' (L1.length+1) ((L1.map fun p=>J p.1 p.2.1 p.2.2)++[J a sh c])) (hg:wc.grownBy w3 v1.ownBlock) (hv:v1'.ownBlock=v1.ownBlock∨v1'.ownBlock=M wc.heap.size)
  (hn:NewRow V.heap.size wc a c g sh (fun _=>bo false)):∃B',Beg w0 (w3.setCell ⟨B,1,Q⟩ v1') B u0 v1' v2 v3 (k1+1) k2 k3 sh l (L1++[(a,sh,c)]) L2 L3 B' B2 B3:=by
 have hc:=hV.below hb;have hn:M B≠v1.ownBlock/\NewRow V.heap.size wc a c g sh _:=⟨fun e=>by have:=(hc.r1.o.lt B e.symm).1;omega,hn⟩;obtain⟨hn,hnr⟩:=hn;obtain⟨B',P1,P2⟩:=hV.r1.pushed hb ho hg hv hnr (by have:=hV.hs;omega) B 1 (nk _) v1';have hbl:=hc.bl.grown hg hc.bl.size (fun j e=>by have:=(hc.r1.o.lt j e).1;have:=hc.hw;omega)
 exact⟨B',aE dc (hg.cell hc.c0 hn),aK (hg.cell hc.c1 hn),aE dc (hg.cell hc.c2 hn),aE dc (hg.cell hc.c3 hn),fun j=>by
  simp only[World.frozen?_setCell];exact(nv (a:=⟨B,j,Q⟩) (hg.block B hc.hs hn)).trans (hc.fz j),P1,CR.stays hV.r1 hV.r2 hb hg hV.a12 B 1 (nk _) _,CR.stays hV.r1 hV.r3 hb hg hV.a13 B 1 (nk _) _,(fun b p q=>(P2 b p).elim (fun p=>hV.a12 b p q) (fun p=>by have:=(hV.r2.lt q).2;omega)),(fun b p q=>(P2 b p).elim (fun p=>hV.a13 b p q) (fun p=>by have:=(hV.r3.lt q).2;omega)),hV.a23,aG hbl hc.hw _,hc.hw,by simp only[World.size_setCell];exact nd hc.hs hg.size⟩
theorem Beg.push2 {l:List TxA} {L1 L2 L3:List (Option Addr×Nat×Nat)} {B1 B2 B3:Nat->Nat} {v2':Value} {a:Option Addr} {c:Nat} (hV:Beg w0 V B u0 v1 v2 v3 k1 k2 k3 sh l L1 L2 L3 B1 B2 B3) (hb:Below V.heap.size V wc)
  (ho:w3.ownsRow (B+1) 104 1 v2' (L2.length+1) ((L2.map fun p=>J p.1 p.2.1 p.2.2)++[J a sh c])) (hg:wc.grownBy w3 v2.ownBlock) (hv:v2'.ownBlock=v2.ownBlock∨v2'.ownBlock=M wc.heap.size)
  (hn:NewRow V.heap.size wc a c g sh (fun _=>bo false)):∃B',Beg w0 (w3.setCell ⟨B,2,Q⟩ v2') B u0 v1 v2' v3 k1 (k2+1) k3 sh l L1 (L2++[(a,sh,c)]) L3 B1 B' B3:=by
 have hc:=hV.below hb;have hn:M B≠v2.ownBlock/\NewRow V.heap.size wc a c g sh _:=⟨fun e=>by have:=(hc.r2.o.lt B e.symm).1;omega,hn⟩;obtain⟨hn,hnr⟩:=hn;obtain⟨B',P1,P2⟩:=hV.r2.pushed hb ho hg hv hnr (by have:=hV.hs;omega) B 2 (nk _) v2';have hbl:=hc.bl.grown hg hc.bl.size (fun j e=>by have:=(hc.r2.o.lt j e).1;have:=hc.hw;omega)
 exact⟨B',aE dc (hg.cell hc.c0 hn),aE dc (hg.cell hc.c1 hn),aK (hg.cell hc.c2 hn),aE dc (hg.cell hc.c3 hn),fun j=>by
  simp only[World.frozen?_setCell];exact(nv (a:=⟨B,j,Q⟩) (hg.block B hc.hs hn)).trans (hc.fz j),CR.stays hV.r2 hV.r1 hb hg (fun b p q=>hV.a12 b q p) B 2 (nk _) _,P1,CR.stays hV.r2 hV.r3 hb hg hV.a23 B 2 (nk _) _,(fun b p q=>(P2 b q).elim (fun q=>hV.a12 b p q) (fun q=>by have:=(hV.r1.lt p).2;omega)),hV.a13,(fun b p q=>(P2 b p).elim (fun p=>hV.a23 b p q) (fun p=>by have:=(hV.r3.lt q).2;omega)),aG hbl hc.hw _,hc.hw,by simp only[World.size_setCell];exact nd hc.hs hg.size⟩
theorem Beg.push3 {l:List TxA} {L1 L2 L3:List (Option Addr×Nat×Nat)} {B1 B2 B3:Nat->Nat} {v3':Value} {a:Option Addr} {c:Nat} (hV:Beg w0 V B u0 v1 v2 v3 k1 k2 k3 sh l L1 L2 L3 B1 B2 B3) (hb:Below V.heap.size V wc)
  (ho:w3.ownsRow (B+1) 41 1 v3' (L3.length+1) ((L3.map fun p=>J p.1 p.2.1 p.2.2)++[J a (gX l k3).rs.length c])) (hg:wc.grownBy w3 v3.ownBlock) (hv:v3'.ownBlock=v3.ownBlock∨v3'.ownBlock=M wc.heap.size)
  (hn:NewRow V.heap.size wc a c g (gX l k3).rs.length (fun _=>Y I 0)):∃B',Beg w0 (w3.setCell ⟨B,3,Q⟩ v3') B u0 v1 v2 v3' k1 k2 (k3+1) sh l L1 L2 (L3++[(a,(gX l k3).rs.length,c)]) B1 B2 B':=by
 have hc:=hV.below hb;have hn:M B≠v3.ownBlock/\NewRow V.heap.size wc a c g (gX l k3).rs.length _:=⟨fun e=>by have:=(hc.r3.o.lt B e.symm).1;omega,hn⟩;obtain⟨hn,hnr⟩:=hn;obtain⟨B',P1,P2⟩:=hV.r3.pushed hb ho hg hv hnr (by have:=hV.hs;omega) B 3 (nk _) v3';have hbl:=hc.bl.grown hg hc.bl.size (fun j e=>by have:=(hc.r3.o.lt j e).1;have:=hc.hw;omega)
 exact⟨B',aE dc (hg.cell hc.c0 hn),aE dc (hg.cell hc.c1 hn),aE dc (hg.cell hc.c2 hn),aK (hg.cell hc.c3 hn),fun j=>by
  simp only[World.frozen?_setCell];exact(nv (a:=⟨B,j,Q⟩) (hg.block B hc.hs hn)).trans (hc.fz j),CR.stays hV.r3 hV.r1 hb hg (fun b p q=>hV.a13 b q p) B 3 (nk _) _,CR.stays hV.r3 hV.r2 hb hg (fun b p q=>hV.a23 b q p) B 3 (nk _) _,P1,hV.a12,(fun b p q=>(P2 b q).elim (fun q=>hV.a13 b p q) (fun q=>by have:=(hV.r1.lt p).2;omega)),(fun b p q=>(P2 b q).elim (fun q=>hV.a23 b p q) (fun q=>by have:=(hV.r2.lt p).2;omega)),aG hbl hc.hw _,hc.hw,by simp only[World.size_setCell];exact nd hc.hs hg.size⟩
theorem mN {z:Value} {n:Nat} {T T':TypeId} {u:Value} (hz:z.cells=#[z]):NewRow V.heap.size (((V.drew).alloc (U (madeCells z.cells n) T)).alloc (U #[u] T')) (M ⟨V.heap.size,0,Q⟩) n V.heap.size n (fun _=>z):=by
 refine⟨fun _=>⟨rfl,nr,by simp;omega,fun k hk=>?_,fun k=>?_⟩,(fun e=>by cases e),(fun ad e=>by injection e with e;subst e;exact nr)⟩
 ·refine aB (aA br _) (aF V.drew (madeCells z.cells n) T V.heap.size k z rfl ?_);rw[hz,<-Array.getElem?_toList,toList_madeCells_one,List.getElem?_replicate,if_pos hk]
 ·exact((aA br _:Below _ ((V.drew).alloc (U (madeCells z.cells n) T)) _).frozen (p:=⟨V.heap.size,k,Q⟩) sm).trans (aU V.drew _ T V.heap.size k rfl)
theorem vw (h:p:=by
 exact⟨rfl,rfl,rfl,rfl,FORM.out,g0,g1,g2,g3,B1,B2',B3,RN,(o1.mono hC nr).congr (fun i k _ _=>by show bo (cR (l.map fun _=>List.replicate sh false) i k)=_;rw[pL]),(o2.mono hC nr).congr (fun i k _ _=>by show bo (cR (l.map fun _=>List.replicate sh false) i k)=_;rw[pL]),(o3.mono hC nr).congr (fun i k _ _=>by show Y I (((l.map fun x=>List.replicate x.rs.length (0:Int)).getD i []).getD k 0)=_;rw[vs_beg])⟩):p:=h
theorem zu (h:p:=by
 have r:=R0.out.below hB.out.bl;have e1:=hWw.out;have hh:=sz.out;exact⟨fun hn=>⟨(r.e hn).1,by have:=(r.e hn).2.1;omega,(r.e hn).2.2⟩,r.z,fun ad e=>by have:=r.lo ad e;omega⟩):p:=h
theorem Vv (h:p:=by
 obtain⟨B3',hp⟩:=HP.out;exact⟨k+1,v1',v2',_,L1',L2',_,B1',B2'',B3',by omega,by go_num,hp⟩):p:=h
theorem VL (h:p:=by
 have e2:=hb2.size;have e3:=sz.out;exact⟨by omega,by omega,(hn0.e dc).2.2.1⟩):p:=h
section
def BegQ (C:Nat) (l:List TxA) (sh:Nat) (S:SA) (q:Q4) (w:World):Prop:=q.sn=8/\q.rn=l.length/\q.wn=l.length/\q.vn=l.length/\Form sh l S/\∃g0 gr gw gv Br Bw Bv,NewRow C w q.sa q.sc g0 8 (fun k=>Y I (S.st.getD k 0))/\OR C w.heap.size w q.ra l.length (fun _=>sh) (fun i k=>bo (cR S.rd i k)) gr Br/\OR C w.heap.size w q.wa l.length (fun _=>sh) (fun i k=>bo (cR S.wr i k)) gw Bw/\OR C w.heap.size w q.va l.length (fun i=>(gX l i).rs.length) (fun i k=>Y I ((S.vs.getD i []).getD k 0)) gv Bv
theorem BegQ.set {l:List TxA} {S:SA} {q:Q4} {w:World} (h:BegQ C l sh S q w) (b j:Nat) (u:Value) (hb:b<C):BegQ C l sh S q (w.setCell ⟨b,j,Q⟩ u):=by
 obtain⟨e1,e2,e3,e4,f,g0,gr,gw,gv,Br,Bw,Bv,o0,o1,o2,o3⟩:=h;refine⟨e1,e2,e3,e4,f,g0,gr,gw,gv,Br,Bw,Bv,o0.keep (eB _ _ _ _ _ (by have:=(o0.e dc).2.1;omega)) (by rw[n9];exact nr),?_,?_,?_⟩
 ·rw[n9];exact o1.far _ _ _ (.inl hb)
 ·rw[n9];exact o2.far _ _ _ (.inl hb)
 ·rw[n9];exact o3.far _ _ _ (.inl hb)
theorem BegQ.sta {l:List TxA} {S:SA} {q:Q4} {w:World} (h:BegQ C l sh S q w) (h0:0<sh):StaQ S q w:=by
 obtain⟨e1,e2,e3,e4,f,g0,gr,gw,gv,Br,Bw,Bv,o0,o1,o2,o3⟩:=h;refine⟨e1.trans f.st.symm,e2.trans f.rd.symm,e3.trans f.wr.symm,e4.trans f.vs.symm,fun k hk=>?_,fun i hi=>?_,fun i hi=>?_,fun i hi=>?_⟩
 ·rw[f.st]at hk;obtain⟨a1,_,a3,a4,_⟩:=o0.e dc;exact⟨g0,0,a1,a3,by rw[nw];exact a4 k hk⟩
 ·rw[f.rd]at hi;obtain⟨b,off,b',off',c',e,q1,q2,q3,q4⟩:=o1.isBR h0 nr i hi;refine⟨b,off,M ⟨b',off',Q⟩,c',e,q1.2,by rw[f.rn i hi];exact q3,fun k hk=>?_,fun e=>by cases e⟩;rw[f.rn i hi]at hk;exact VO
 ·rw[f.wr]at hi;obtain⟨b,off,b',off',c',e,q1,q2,q3,q4⟩:=o2.isBR h0 nr i hi;refine⟨b,off,M ⟨b',off',Q⟩,c',e,q1.2,by rw[f.wn i hi];exact q3,fun k hk=>?_,fun e=>by cases e⟩;rw[f.wn i hi]at hk;exact VO
 ·rw[f.vs]at hi;obtain⟨b,off,a',c',e,q1,q2,q3,q4,_,q5⟩:=o3.isIR f.vn nr i hi;exact⟨b,off,a',c',e,q1.2,by rw[f.vn i hi];exact q2,q4,q5⟩
theorem BegQ.staF {l:List TxA} {S:SA} {q:Q4} {w:World} (h:BegQ C l sh S q w) (h0:0<sh):StaF C S q w:=fun w' h1 h2=>by
 obtain⟨e1,e2,e3,e4,f,g0,gr,gw,gv,Br,Bw,Bv,o0,o1,o2,o3⟩:=h;refine BegQ.sta (C:=C) ⟨e1,e2,e3,e4,f,g0,gr,gw,gv,Br,Bw,Bv,o0.keep (h1 g0 (o0.e dc).2.1 (o0.e dc).2.2.1) h2,(o1.keep h1).mono nr h2,(o2.keep h1).mono nr h2,(o3.keep h1).mono nr h2⟩ h0
theorem BegQ.low {C':Nat} {l:List TxA} {S:SA} {q:Q4} {w:World} (h:BegQ C l sh S q w) (hc:C'<=C):BegQ C' l sh S q w:=by
 obtain⟨e1,e2,e3,e4,f,g0,gr,gw,gv,Br,Bw,Bv,o0,o1,o2,o3⟩:=h;exact⟨e1,e2,e3,e4,f,g0,gr,gw,gv,Br,Bw,Bv,⟨fun hn=>⟨(o0.e hn).1,nh hc (o0.e hn).2.1,(o0.e hn).2.2⟩,o0.z,fun ad e=>nh hc (o0.lo ad e)⟩,o1.mono hc nr,o2.mono hc nr,o3.mono hc nr⟩
theorem vs_beg (l:List TxA) (i k:Nat):((l.map fun x=>List.replicate x.rs.length (0:Int)).getD i []).getD k 0=0:=by
 rw[li,li,List.getElem?_map]
 cases l[i]? with
 | none=>rfl
 | some x=>
  simp only[Option.map_some,Option.getD_some,List.getElem?_replicate];split <;> rfl
theorem wY (w:World) (t e:TypeId) (i:TypeInfo) (z:Value) (ht:prog.underlying t=M (.slice e)) (hi:prog.info? e=M i) (hz:i.zero=M z) (h1:i.size=1) (h24:i.bytes<=24) (n:Nat) (hn:n<=8):(Instr.makeSlice t (Y I n) (Y I n)).run prog w=.ok (J (M ⟨w.heap.size,0,Q⟩) n n) (w.alloc (U (madeCells z.cells n) e)):=by
 have hb:(i.bytes:Int)*(n:Int)<=281474976710656:=by
  have:i.bytes*n<=24*8:=l5 h24 hn;have h':((i.bytes*n:Nat):Int)<=281474976710656:=om;rwa [Int.natCast_mul]at h'
 have hr:=run_makeSlice (P:=prog) w t e i z ht hi hz I I n n om (Int.le_refl _) (by rw[h1];simp only[Int.toNat_natCast];omega) hb om;simp only[Int.toNat_natCast,h1,Nat.mul_one]at hr;exact hr
def jD (m:Int) (l:List TxA) (s:List Int):Int:=aH [aN m l,cP s]
variable (la:Option Addr) (lc:Nat) (l:List TxA) (sa:Option Addr) (sc:Nat) (s:List Int)
theorem beg1_pan (m:Int) (p q:Nat) (w:World) (p0:w.cell? ⟨p,0,Q⟩=Y I m) (p1:w.cell? ⟨p,1,Q⟩=J la l.length lc) (q0:w.cell? ⟨q,0,Q⟩=J sa s.length sc) (hl:IsTxs w la l) (he:¬jD m l s=0) :
  Kp 77 #[pd (M ⟨p,0,Q⟩),pd (M ⟨q,0,Q⟩)] w (jD m l s):=by
 have HE:Hid (¬aH [aN m l,cP s]=0):=he;have hW:Hid (Below _ w (w.alloc (U #[J Q 0 0,J Q 0 0,J Q 0 0,J Q 0 0] 45))):=aA br _;have y0:=aB hW.out p0;have y1:=aB hW.out p1;have z0:=aB hW.out q0;have HLW:=Hi (hl.below hW.out);unfold jD;clear hl he p0 p1 q0;go_enter func77,ntmps77
 go_upto_region 1 with fail
 generalize (w.alloc (U #[J Q 0 0,J Q 0 0,J Q 0 0,J Q 0 0] 45))=W at *;have KS:Hid (∀w',Below _ W w'->Below _ W w'/\w'.cell? _=M _/\w'.cell? _=M _/\w'.cell? _=M _):=fun w' hb=>⟨hb,aB hb y0,aB hb y1,aB hb z0⟩
 go_region_held (fun w'=>Below W.heap.size W w'/\w'.cell? ⟨p,0,Q⟩=Y I m/\w'.cell? ⟨p,1,Q⟩=J la l.length lc/\w'.cell? ⟨q,0,Q⟩=J sa s.length sc) ((refine KS.out _ ?_;go_split_ands;repeat (first | assumption | exact br | exact Hid.out (by assumption) | refine aD ?_ | refine aA ?_ _ | refine aC ?_ (by assumption))))
  (first
   | (go_at_call 28;refine(cI la lc l m _ ?_).mono ?_;(refine HLW.out.below ?_;go_split_ands;repeat (first | assumption | exact br | exact Hid.out (by assumption) | refine aD ?_ | refine aA ?_ _ | refine aC ?_ (by assumption)));rintro e wx ⟨rfl,hbx⟩)
   | (go_at_call 78;refine(dE s sa sc _).mono ?_;rintro e w' ⟨rfl,rfl⟩)
   | (go_at_call 15;refine(fT (dR [aN m l,cP s] _ 2 _ sm HE.out ?_) (tu #[])).mono ?_;(exact lS _ _ _ _ sm);rintro e w' (⟨rfl,rfl⟩ | ⟨hF,rfl,rfl⟩);(refine⟨rfl,rfl,aC hW.out ?_⟩;go_split_ands;repeat (first | assumption | exact br | exact Hid.out (by assumption) | refine aD ?_ | refine aA ?_ _ | refine aC ?_ (by assumption)))))
 exact xq
theorem beg1_ok (sh:Nat) (p q:Nat) (w:World) (p0:w.cell? ⟨p,0,Q⟩=Y I sh) (p1:w.cell? ⟨p,1,Q⟩=J la l.length lc) (q0:w.cell? ⟨q,0,Q⟩=J sa s.length sc) (hl:IsTxs w la l) (hs:IsInts w sa s) (he:jD sh l s=0) :
  Calls prog 77 #[pd (M ⟨p,0,Q⟩),pd (M ⟨q,0,Q⟩)] w fun e w'=>∃q:Q4,e=rt (ag #[J q.sa q.sn q.sc,J q.ra q.rn q.rc,J q.wa q.wn q.tc,J q.va q.vn q.vc])/\BegQ w.heap.size l sh (jW sh l s) q w'/\Below w.heap.size w w':=by
 obtain⟨hp,h8⟩:aN (sh:Int) l=0/\s.length=8:=by
  have h:=aW _ he;have h0:aN (sh:Int) l=0:=h 0;have h1:cP s=0:=h 1;refine⟨h0,?_⟩;by_cases c:s.length=8
  ·exact c
  ·have:cP s=1:=if_neg c;omega
 have hz:=aX hp;have hl8:=gZ hz.2.2;have hr4:∀i,i<_->(gX l i).rs.length<=4:=fun i hi=>(bI _ _ _ (bR (eG hz.2.2 i hi)).1).1
 have HR4:=Hi hr4;have HE:Hid (aH [aN (sh:Int) l,cP s]=0):=he;have FORM:=Hi ((inv_beg sh l s h8 (fun n hn=>lR (eG hz.2.2 n hn))).f);obtain⟨W,hWe⟩:=nm ((w.alloc (U #[J Q 0 0,J Q 0 0,J Q 0 0,J Q 0 0] 45)));have hW:Hid (Below w.heap.size w W):=by subst hWe;exact aA br _
 have y0:=aB hW.out p0;have y1:=aB hW.out p1;have z0:=aB hW.out q0;have HLW:=Hi (hl.below hW.out);have HSW:=Hi (hs.below hW.out)
 have t0:∀j,j<4->W.cell? ⟨w.heap.size,j,Q⟩=J Q 0 0:=by
  subst hWe
  exact fun j hj=>by
   match j,hj with
   | 0,_=>exact aF _ _ 45 _ 0 _ rfl rfl
   | 1,_=>exact aF _ _ 45 _ 1 _ rfl rfl
   | 2,_=>exact aF _ _ 45 _ 2 _ rfl rfl
   | 3,_=>exact aF _ _ 45 _ 3 _ rfl rfl
 have T0:=Hi t0;have TF:Hid (∀j,W.frozen? ⟨w.heap.size,j,Q⟩=false):=by subst hWe;exact fun j=>aU _ _ 45 _ j rfl
 have sz:Hid (W.heap.size=w.heap.size+1):=by subst hWe;show _=_;simp
 have H8:=Hi h8;obtain⟨i4,hi4,hz4,hs4',hb4'⟩:=info_parts info4;obtain⟨i3,hi3,hz3,hs3,hb3'⟩:=info_parts info3;obtain⟨i65,hi65,hz65,hs65,hb65⟩:=info_parts info104;obtain⟨i25,hi25,hz25,hs25,hb25⟩:=info_parts info41;have hb4:i4.bytes<=24:=om;have hb3:i3.bytes<=24:=om;have hm1:sh<=8:=om;obtain⟨MK4,hMK4⟩:=nm (madeCells (bo false).cells sh);have hmk4:∀w,(Instr.makeSlice 104 _ _).run _ w=.ok _ (w.alloc (U MK4 4)):=fun w=>by rw[hMK4];exact wY w 104 4 i4 _ underlying104 hi4 hz4 hs4' hb4 sh hm1
 have HMK4:=Hi hMK4;clear hl he p0 p1 q0 hs hz hp t0 hr4 h8 hMK4;have HWe:Hid (W=_):=hWe;clear hWe;go_enter func77,ntmps77
 go_upto_region 1 with fail
 rw[<-HWe.out];clear HWe;have KS:Hid (∀w',Below _ W w'->Below _ W w'/\w'.cell? _=M _/\w'.cell? _=M _/\w'.cell? _=M _):=fun w' hb=>⟨hb,aB hb y0,aB hb y1,aB hb z0⟩
 go_region_held3 (fun w'=>Below W.heap.size W w'/\w'.cell? ⟨p,0,Q⟩=Y I sh/\w'.cell? ⟨p,1,Q⟩=J la l.length lc/\w'.cell? ⟨q,0,Q⟩=J sa s.length sc) ((refine KS.out _ ?_;go_split_ands;repeat (first | assumption | exact br | exact Hid.out (by assumption) | refine aD ?_ | refine aA ?_ _ | refine aC ?_ (by assumption))))
  (first
   | (go_at_call 28;refine(cI la lc l (sh:Int) _ ?_).mono ?_;(refine HLW.out.below ?_;go_split_ands;repeat (first | assumption | exact br | exact Hid.out (by assumption) | refine aD ?_ | refine aA ?_ _ | refine aC ?_ (by assumption)));rintro e wx ⟨rfl,hbx⟩)
   | (go_at_call 78;refine(dE s sa sc _).mono ?_;rintro e w' ⟨rfl,rfl⟩)
   | (go_at_call 15;refine(aQ [aN (sh:Int) l,cP s] _ 2 _ sm HE.out ?_).mono ?_;(exact lS _ _ _ _ sm);rintro e w1 ⟨rfl,rfl⟩))
 have BW:Hid (Below _ W (w'.alloc (U #[Y I (aN (sh:Int) l),Y I (cP s)] 22))):=aA (aC (aD br) hbx) _;go_split_ands;generalize w'.alloc (U #[Y I (aN (sh:Int) l),Y I (cP s)] 22)=w1 at *;have q0:=aB BW.out z0
 have CL:Hid (Calls prog 79 #[J sa s.length sc] w1 fun e w''=>∃a' c' g,e=rt (J a' 8 c')/\NewRow w1.heap.size w'' a' c' g 8 (fun k=>Y I (s.getD k 0))/\Below w1.heap.size w1 w''):=by
  have h:=nI 8 (fun k=>Y I (s.getD k 0)) (fun k _=>⟨_,rfl⟩) sa sc w1 dc (fun k hk=>by
   obtain⟨b,off,e,q1,q2⟩:=(HSW.out.below BW.out) k (by rw[H8.out];exact hk);exact⟨b,off,e,q1,q2⟩)
  rw[H8.out];exact h
 have Y1:=Hi y1;have Y0:=Hi y0;clear y0 y1 z0 KS hbx
 go_wp2_with fail
 refine CL.out.mono ?_;rintro e w2 ⟨a',c',g0,rfl,hn0,hb2⟩;clear CL q0;have B2:=Hi (aC BW.out hb2);have R0:=Hi hn0
 have hWw:Hid (w.heap.size+1<=w1.heap.size/\w.heap.size<w2.heap.size/\g0<w2.heap.size):=by
  have e1:=BW.out.size;exact VL
 have bU:Below _ w2 (w2.alloc (U #[J a' 8 c',J Q 0 0,J Q 0 0,J Q 0 0] 45)):=aA br _
 have BG0:Hid (Beg w2 _ _ (J a' 8 c') _ _ _ 0 0 0 sh l [] [] [] (fun _=>0) (fun _=>0) (fun _=>0)):=
  ⟨aF _ _ 45 _ 0 _ rfl rfl,aF _ _ 45 _ 1 _ rfl rfl,aF _ _ 45 _ 2 _ rfl rfl,aF _ _ 45 _ 3 _ rfl rfl,fun j=>aU _ _ 45 _ j rfl,CR.nil _ _ _ _ _ _,CR.nil _ _ _ _ _ _,CR.nil _ _ _ _ _ _,(fun b h _=>h.elim (fun h=>by cases h) (fun ⟨i,hi,_⟩=>absurd hi (nl _))),(fun b h _=>h.elim (fun h=>by cases h) (fun ⟨i,hi,_⟩=>absurd hi (nl _))),(fun b h _=>h.elim (fun h=>by cases h) (fun ⟨i,hi,_⟩=>absurd hi (nl _))),bU,nr,by simp⟩
 clear bU hn0 hb2 BW
 go_upto_region 3 with fail
 generalize (w2.alloc (U #[J a' 8 c',J Q 0 0,J Q 0 0,J Q 0 0] 45))=W3 at *;have y1:=aB (aC B2.out BG0.out.bl) Y1.out
 go_upto_region 4 with fail
 clear y1
 go_loopw [5,18] (fun _ i wr=>∃(k:Nat) (v1 v2 v3:Value) (L1 L2 L3:List (Option Addr×Nat×Nat)) (B1 B2 B3:Nat->Nat),k<=l.length/\i=Y I k/\Hid (Beg w2 wr w2.heap.size (J a' 8 c') v1 v2 v3 k k k sh l L1 L2 L3 B1 B2 B3)) (fun _ i _=>l.length - (intOf i).toNat)
 case atStart=>exact⟨0,_,_,_,_,_,_,_,_,_,nz,rfl,BG0⟩
 case round=>
  obtain⟨k,v1,v2,v3,L1,L2,L3,B1,B2',B3,hk,rfl,hB⟩:=hrel;clear BG0;by_cases hlt:k<l.length
  ·obtain⟨b,off,ea,_,t0,t1,t2,hx⟩:=(HLW.out.below B2.out) k hlt;subst ea;have d0:=aB hB.out.bl t0;have d1:=aB hB.out.bl t1;have d2:=aB hB.out.bl t2;have i1:(k:Int)<(l.length:Int):=om;have i0:(0:Int)<=(k:Int):=om;have hr4:=HR4.out k hlt;clear t0 t1 t2 hx;generalize hgx:l.getD k x0=x at d0 d1 d2;have HXE:Hid (gX l k=x):=hgx;rw[show gX l k=x from hgx]at hr4;clear hgx;obtain⟨MK3,hMK3⟩:=nm (madeCells (Y I 0).cells x.rs.length);have hmk3:∀w,(Instr.makeSlice 41 _ _).run _ w=.ok _ (w.alloc (U MK3 3)):=fun w=>by rw[hMK3];exact wY w 41 3 i3 _ underlying41 hi3 hz3 hs3 hb3 _ om
   have HMK3:=Hi hMK3;clear hMK3
   go_upto_region 6 with fail
   have bX:Below _ wr (wr.alloc (U #[J x.ra x.rs.length x.rc,J x.ga x.gs.length x.gc,J x.sa x.ss.length x.sc] 95)):=aA br _;have HB1:=Hi (hB.out.below bX)
   have fX:Hid (w2.heap.size≠wr.heap.size/\(∀j,_=M j∨_=M j∨_=M j->j≠wr.heap.size)):=⟨by have:=hB.out.hs;omega,fun j h=>by
    rcases h with h | h | h
    ·have:=(hB.out.r1.o.lt _ h).2;omega
    ·have:=(hB.out.r2.o.lt _ h).2;omega
    ·have:=(hB.out.r3.o.lt _ h).2;omega⟩
   have xc:(wr.alloc (U #[J x.ra x.rs.length x.rc,J x.ga x.gs.length x.gc,J x.sa x.ss.length x.sc] 95)).cell? _=J x.ra _ x.rc:=aF wr _ 95 _ 0 _ rfl rfl;clear bX hB d0 d1 d2;generalize (wr.alloc (U #[J x.ra x.rs.length x.rc,J x.ga x.gs.length x.gc,J x.sa x.ss.length x.sc] 95))=V at *;generalize wr.heap.size=X at *;have P0:Hid (∀w',Below _ w2 w'->w'.cell? _=M _):=fun w' hb=>aB (aC B2.out hb) Y0.out
   have e0:=P0.out V HB1.out.bl;have hbN:Below _ V (((V.drew).alloc (U MK4 4)).alloc (U #[J (M ⟨V.heap.size,0,Q⟩) sh sh] 104)):=aA (aA (aD br) _) _;have HBN:=Hi hbN;have HN:=Hi (HB1.out.below hbN);have c1:=HB1.out.c1;have od1:=fun o=>aB (aA br o) c1
   have od2:=fun o o'=>aB (aA (aA br o) o') c1
   have hsm:Hid (L1.length<=100):=by show _<=_;have e:=HB1.out.r1.n;omega
   clear hbN
   go_cut [] (fun wx=>∃(v1':Value) (L1':List (Option Addr×Nat×Nat)) (B1':Nat->Nat),Hid (Beg w2 wx w2.heap.size (J a' 8 c') v1' v2 v3 (k+1) k k sh l L1' L2 L3 B1' B2' B3)/\wx.cell? ⟨X,0,Q⟩=J x.ra x.rs.length x.rc)
   case first=>
    go_region_law (first
      | (refine bO (by rfl) _ _ 42 104 (by rfl) i65 _ underlying42 hi65 hz65 hs65 hb65 rfl (w2.heap.size+1) v1 L1.length _ (by rfl) HN.out.r1.o ⟨_,0,none⟩ 1 (.slice (some ⟨V.heap.size,0,none⟩) sh sh) (by rfl) (aF _ _ 104 _ 0 _ sm rfl) rfl hsm.out HN.out.hs ?_;intro v' w5 ho3 hg3 hv3;obtain⟨g',cap',rfl,_,_⟩:=ho3.form sm;have oc:=hg3.cell HN.out.c1 (fun e=>by have:=(HN.out.r1.o.lt w2.heap.size e.symm).1;omega);have of3:=(nv (a:=⟨w2.heap.size,1,Q⟩) (hg3.block w2.heap.size HN.out.hs (fun e=>by have:=(HN.out.r1.o.lt w2.heap.size e.symm).1;omega))).trans (HN.out.fz 1)))
    all_goals (
     go_wp2_with fail
     go_meet;obtain⟨B',PB⟩:=Beg.push1 HB1.out HBN.out ho3 hg3 hv3 (by rw[HMK4.out];exact mN rfl);exact⟨_,_,B',PB,by rw[nt _ _ _ _ (by simpa using fX.out.1)];exact hg3.cell (aB HBN.out xc) (fun e=>fX.out.2 X (.inl e.symm) rfl)⟩)
   case rest=>
    obtain⟨v1',L1',B1',HB2,xc⟩:=hcut;obtain⟨V2,hren⟩:=nm (wc);subst hren;clear c1 od1 od2 hsm HN HBN HB1 e0;have e0:=P0.out V2 HB2.out.bl;have hbN:Below _ V2 (((V2.drew).alloc (U MK4 4)).alloc (U #[J (M ⟨V2.heap.size,0,Q⟩) sh sh] 104)):=aA (aA (aD br) _) _;have HBN:=Hi hbN;have HN:=Hi (HB2.out.below hbN);have c2:=HB2.out.c2;have od1:=fun o=>aB (aA br o) c2
    have od2:=fun o o'=>aB (aA (aA br o) o') c2
    have hsm:Hid (L2.length<=100):=by show _<=_;have e:=HB2.out.r2.n;omega
    clear hbN
    go_upto_region 7 with fail
    go_cut [] (fun wx=>∃(v2':Value) (L2':List (Option Addr×Nat×Nat)) (B2'':Nat->Nat),Hid (Beg w2 wx w2.heap.size (J a' 8 c') v1' v2' v3 (k+1) (k+1) k sh l L1' L2' L3 B1' B2'' B3)/\wx.cell? ⟨X,0,Q⟩=J x.ra x.rs.length x.rc)
    case first=>
     go_region_law (first
      | (refine bO (by rfl) _ _ 42 104 (by rfl) i65 _ underlying42 hi65 hz65 hs65 hb65 rfl (w2.heap.size+1) v2 L2.length _ (by rfl) HN.out.r2.o ⟨_,0,none⟩ 1 (.slice (some ⟨V2.heap.size,0,none⟩) sh sh) (by rfl) (aF _ _ 104 _ 0 _ sm rfl) rfl hsm.out HN.out.hs ?_;intro v' w5 ho3 hg3 hv3;obtain⟨g',cap',rfl,_,_⟩:=ho3.form sm;have oc:=hg3.cell HN.out.c2 (fun e=>by have:=(HN.out.r2.o.lt w2.heap.size e.symm).1;omega);have of3:=(nv (a:=⟨w2.heap.size,2,Q⟩) (hg3.block w2.heap.size HN.out.hs (fun e=>by have:=(HN.out.r2.o.lt w2.heap.size e.symm).1;omega))).trans (HN.out.fz 2)))
     all_goals (
      go_wp2_with fail
      go_meet;obtain⟨B',PB⟩:=Beg.push2 HB2.out HBN.out ho3 hg3 hv3 (by rw[HMK4.out];exact mN rfl);exact⟨_,_,B',PB,by rw[nt _ _ _ _ (by simpa using fX.out.1)];exact hg3.cell (aB HBN.out xc) (fun e=>fX.out.2 X (.inr (.inl e.symm)) rfl)⟩)
    case rest=>
     obtain⟨v2',L2',B2'',HB3,xc⟩:=hcut;obtain⟨V3,hren⟩:=nm (wc);subst hren;clear c2 od1 od2 hsm HN HBN HB2 e0 P0;have hbN:Below _ V3 (((V3.drew).alloc (U MK3 3)).alloc (U #[J (M ⟨V3.heap.size,0,Q⟩) x.rs.length x.rs.length] 41)):=aA (aA (aD br) _) _;have HBN:=Hi hbN;have HN:=Hi (HB3.out.below hbN);have c3:=HB3.out.c3;have od1:=fun o=>aB (aA br o) c3
     have od2:=fun o o'=>aB (aA (aA br o) o') c3
     have hsm:Hid (L3.length<=100):=by show _<=_;have e:=HB3.out.r3.n;omega
     clear hbN
     go_upto_region 8 with fail
     go_region_law (first
      | (refine bO (by rfl) _ _ 43 41 (by rfl) i25 _ underlying43 hi25 hz25 hs25 hb25 rfl (w2.heap.size+1) v3 L3.length _ (by rfl) HN.out.r3.o ⟨_,0,none⟩ 1 (.slice (some ⟨V3.heap.size,0,none⟩) x.rs.length x.rs.length) (by rfl) (aF _ _ 41 _ 0 _ sm rfl) rfl hsm.out HN.out.hs ?_;intro v' w5 ho3 hg3 hv3;obtain⟨g',cap',rfl,_,_⟩:=ho3.form sm;have oc:=hg3.cell HN.out.c3 (fun e=>by have:=(HN.out.r3.o.lt w2.heap.size e.symm).1;omega);have of3:=(nv (a:=⟨w2.heap.size,3,Q⟩) (hg3.block w2.heap.size HN.out.hs (fun e=>by have:=(HN.out.r3.o.lt w2.heap.size e.symm).1;omega))).trans (HN.out.fz 3)))
     all_goals (
      have HP:=Hi (Beg.push3 (g:=V3.heap.size) HB3.out HBN.out (by rw[HXE.out];exact ho3) hg3 hv3 (by rw[HXE.out,HMK3.out];exact mN rfl));clear c3 od1 od2 hsm HN HBN HB3 xc ho3 hg3 hv3 oc of3;generalize (w5.setCell ⟨w2.heap.size,3,Q⟩ (J (M ⟨g',0,Q⟩) (L3.length+1) cap'))=WF at *;go_wp2;go_roundw
      case rel=>exact Vv
      case measure=>simp[intOf];omega)
  ·have hkk:k=l.length:=om;subst hkk;have i1:¬(l.length:Int)<(l.length:Int):=om;obtain⟨a1,k1,g1,hv1,o1⟩:=hB.out.r1.fin;obtain⟨a2,k2,g2,hv2,o2⟩:=hB.out.r2.fin;obtain⟨a3,k3,g3,hv3,o3⟩:=hB.out.r3.fin;subst hv1 hv2 hv3;have z0:=hB.out.c0;have z1:=hB.out.c1;have z2:=hB.out.c2;have z3:=hB.out.c3;have bw:=aC B2.out hB.out.bl;have v0:=aB bw (T0.out 0 dc);have v1:=aB bw (T0.out 1 dc);have v2:=aB bw (T0.out 2 dc);have v3:=aB bw (T0.out 3 dc);have vf:=fun j=>(bw.frozen (p:=⟨w.heap.size,j,Q⟩) (by have:=sz.out;show w.heap.size<_;omega)).trans (TF.out j)
   have RN:NewRow (w.heap.size+1) wr a' c' g0 8 (fun k=>Y I (s.getD k 0)):=by
    exact zu
   have FQ:Hid (BegQ (w.heap.size+1) l sh (jW sh l s) ⟨a',a1,a2,a3,8,l.length,l.length,l.length,c',k1,k2,k3⟩ wr):=by
    have hC:w.heap.size+1<=w2.heap.size+1:=by have:=hWw.out;omega
    exact vw
   have FF:Hid (BegQ (w.heap.size+1) l sh (jW sh l s) _ ((((wr.setCell _ (J a' 8 c')).setCell _ (J a1 l.length k1)).setCell _ (J a2 l.length k2)).setCell _ (J a3 l.length k3))/\Below w.heap.size w ((((wr.setCell ⟨w.heap.size,0,Q⟩ (J a' 8 c')).setCell ⟨w.heap.size,1,Q⟩ (J a1 l.length k1)).setCell ⟨w.heap.size,2,Q⟩ (J a2 l.length k2)).setCell ⟨w.heap.size,3,Q⟩ (J a3 l.length k3))):=⟨(((FQ.out.set _ 0 _ (nk _)).set _ 1 _ (nk _)).set _ 2 _ (nk _)).set _ 3 _ (nk _),aG (aG (aG (aG (aC hW.out bw) nr _) nr _) nr _) nr _⟩;clear FQ RN o1 o2 o3 hB bw
   go_wp2_with fail
   have x0:((((wr.setCell _ (J a' 8 c')).setCell ⟨_,1,Q⟩ (J a1 l.length k1)).setCell ⟨_,2,Q⟩ (J a2 l.length k2)).setCell ⟨_,3,Q⟩ (J a3 l.length k3)).cell? _=M _:=(aE dc (aE dc (aE dc (aK v0))));have x1:((((wr.setCell ⟨_,0,Q⟩ (J a' 8 c')).setCell _ _).setCell ⟨_,2,Q⟩ (J a2 l.length k2)).setCell ⟨_,3,Q⟩ (J a3 l.length k3)).cell? _=J a1 l.length k1:=(aE dc (aE dc (aK (aE dc v1))));have x2:((((wr.setCell ⟨_,0,Q⟩ (J a' 8 c')).setCell ⟨_,1,Q⟩ (J a1 l.length k1)).setCell _ (J a2 l.length k2)).setCell ⟨_,3,Q⟩ (J a3 l.length k3)).cell? _=M _:=(aE dc (aK (aE dc (aE dc v2))));have x3:((((wr.setCell ⟨_,0,Q⟩ (J a' 8 c')).setCell ⟨_,1,Q⟩ (J a1 l.length k1)).setCell ⟨_,2,Q⟩ (J a2 l.length k2)).setCell _ _).cell? _=J a3 l.length k3:=(aK (aE dc (aE dc (aE dc v3))));generalize ((((wr.setCell ⟨w.heap.size,0,Q⟩ (J a' 8 c')).setCell ⟨w.heap.size,1,Q⟩ (J a1 l.length k1)).setCell ⟨w.heap.size,2,Q⟩ (J a2 l.length k2)).setCell ⟨w.heap.size,3,Q⟩ (J a3 l.length k3))=W7 at *;refine bodyPost_ret (v:=ag #[J a' 8 c',J a1 l.length k1,J a2 l.length k2,J a3 l.length k3]) (by simp[results,results77,go_sem,x0,x1,x2,x3]) rfl ⟨⟨a',a1,a2,a3,8,l.length,l.length,l.length,c',k1,k2,k3⟩,rfl,FF.out.1.low (ll _),FF.out.2⟩
end
section
def cA (m:Int) (l:List TxA) (s:List Int):SA:=if jD m l s=0 then jW m.toNat l s else mD
theorem begE_zero {m:Int} {l:List TxA} {s:List Int} (h:jD m l s=0):∃sh:Nat,m=sh/\0<sh/\sh<=4/\aN m l=0/\s.length=8:=by
 have h':=aW _ h;have h0:aN m l=0:=h' 0;have h1:cP s=0:=h' 1;have hz:=aX h0;refine⟨m.toNat,by omega,by omega,by omega,h0,?_⟩;by_cases c:s.length=8
 ·exact c
 ·have:cP s=1:=if_neg c;omega
variable (la:Option Addr) (lc:Nat) (l:List TxA) (sa:Option Addr) (sc:Nat) (s:List Int)
theorem wI (m:Int) (w:World) (hl:IsTxs w la l) (hs:IsInts w sa s) :
  Calls prog 40 #[ag #[Y I m,J la l.length lc],J sa s.length sc] w fun e w'=>∃q:Q4,e=rt (tu #[ag #[J q.sa q.sn q.sc,J q.ra q.rn q.rc,J q.wa q.wn q.tc,J q.va q.vn q.vc],Y I (jD m l s)])/\StaF w.heap.size (cA m l s) q w'/\Below w.heap.size w w':=by
 have hg:Below w.heap.size w (((((w.alloc (U #[Y I m,J la l.length lc] 29)).alloc (U #[J sa s.length sc] 41)).alloc (U #[J Q 0 0,J Q 0 0,J Q 0 0,J Q 0 0] 45)).alloc (U #[J Q 0 0,J Q 0 0,J Q 0 0,J Q 0 0] 45)).alloc (U #[Y I 0] 22)):=(aA (aA (aA (aA (aA br _) _) _) _) _);have hU:Hid (Below w.heap.size w (((w.alloc (U #[Y I m,J la l.length lc] 29)).alloc (U #[J sa s.length sc] 41)).alloc (U #[J Q 0 0,J Q 0 0,J Q 0 0,J Q 0 0] 45))):=(aA (aA (aA br _) _) _);have p0:(((((w.alloc (U #[Y I m,J la l.length lc] 29)).alloc (U #[J sa s.length sc] 41)).alloc (U #[J Q 0 0,J Q 0 0,J Q 0 0,J Q 0 0] 45)).alloc (U #[J Q 0 0,J Q 0 0,J Q 0 0,J Q 0 0] 45)).alloc (U #[Y I 0] 22)).cell? _=Y I m:=aB (aA (aA (aA (aA br _) _) _) _) (aF _ _ 29 _ 0 _ (by first | rfl | simp) rfl);have p1:(((((w.alloc (U #[Y I m,J la l.length lc] 29)).alloc (U #[J sa s.length sc] 41)).alloc (U #[J Q 0 0,J Q 0 0,J Q 0 0,J Q 0 0] 45)).alloc (U #[J Q 0 0,J Q 0 0,J Q 0 0,J Q 0 0] 45)).alloc (U #[Y I 0] 22)).cell? _=J la l.length lc:=aB (aA (aA (aA (aA br _) _) _) _) (aF _ _ 29 _ 1 _ (by first | rfl | simp) rfl);have q0:(((((w.alloc (U #[Y I m,J la l.length lc] 29)).alloc (U #[J sa s.length sc] 41)).alloc (U #[J Q 0 0,J Q 0 0,J Q 0 0,J Q 0 0] 45)).alloc (U #[J Q 0 0,J Q 0 0,J Q 0 0,J Q 0 0] 45)).alloc (U #[Y I 0] 22)).cell? ⟨w.heap.size+1,0,Q⟩=J sa s.length sc:=aB (aA (aA (aA br _) _) _) (aF _ _ 41 _ 0 _ (by first | rfl | simp) rfl)
 have T0:Hid (∀j,j<4->(((w.alloc (U #[Y I m,J la l.length lc] 29)).alloc (U #[J sa s.length sc] 41)).alloc (U #[J Q 0 0,J Q 0 0,J Q 0 0,J Q 0 0] 45)).cell? ⟨w.heap.size+2,j,Q⟩=J Q 0 0):=fun j hj=>by
  exact uo
 have TF:Hid (∀j,(((w.alloc (U #[Y I m,J la l.length lc] 29)).alloc (U #[J sa s.length sc] 41)).alloc (U #[J Q 0 0,J Q 0 0,J Q 0 0,J Q 0 0] 45)).frozen? ⟨w.heap.size+2,j,Q⟩=false):=fun j=>aU _ _ 45 _ j sm
 have sz:Hid ((((w.alloc (U #[Y I m,J la l.length lc] 29)).alloc (U #[J sa s.length sc] 41)).alloc (U #[J Q 0 0,J Q 0 0,J Q 0 0,J Q 0 0] 45)).heap.size=w.heap.size+3):=by show _=_;simp
 have CC:Hid (letI Z:=((w.alloc (U #[Y I m,J la l.length lc] 29)).alloc (U #[J sa s.length sc] 41)).alloc (U #[J Q 0 0,J Q 0 0,J Q 0 0,J Q 0 0] 45);Calls prog 76 #[.func (.func 77) #[] #[pd (M ⟨w.heap.size,0,Q⟩),pd (M ⟨w.heap.size+1,0,Q⟩)]] Z fun e w'=>∃q:Q4,e=rt (tu #[ag #[J q.sa q.sn q.sc,J q.ra q.rn q.rc,J q.wa q.wn q.tc,J q.va q.vn q.vc],Y I (jD m l s)])/\StaF (w.heap.size+3) (cA m l s) q w'/\Below Z.heap.size Z w'):=by
  by_cases hE:jD m l s=0
  ·have e2:cA m l s=jW m.toNat l s:=if_pos hE;obtain⟨sh,rfl,h0,_,_,_⟩:=begE_zero hE;rw[e2,hE];refine(sG 77 _ (fun _=>rfl) (fun q w'=>BegQ (w.heap.size+5) l sh (jW sh l s) q w') _ (fun q w' i u j hj h=>h.set j i u (by have:=sz.out;omega)) ((beg1_ok la lc l sa sc s sh _ _ _ p0 p1 q0 (hl.below hg) (hs.below hg) hE).mono ?_)).mono ?_
   ·rintro e w' ⟨q,rfl,ho,hb⟩;exact⟨q,rfl,ho.low sm,hb⟩
   ·exact Xf
  ·have e2:cA m l s=mD:=if_neg hE;rw[e2];refine(nM 77 _ (fun _=>rfl) _ _ (beg1_pan la lc l sa sc s m _ _ _ p0 p1 q0 (hl.below hg) hE)).mono ?_;exact Vq
 clear hg p0 p1 q0 hl hs;go_enter func40,ntmps40
 go_upto_region 1 with fail
 generalize (((w.alloc (U #[Y I m,J la l.length lc] 29)).alloc (U #[J sa s.length sc] 41)).alloc (U #[J Q 0 0,J Q 0 0,J Q 0 0,J Q 0 0] 45))=W at *
 go_wp2_with fail
 refine CC.out.mono ?_;clear CC;rintro e w1 ⟨q,rfl,hq,hb⟩;have t0:=aB hb (T0.out 0 dc);have t1:=aB hb (T0.out 1 dc);have t2:=aB hb (T0.out 2 dc);have t3:=aB hb (T0.out 3 dc);have tf:=fun j=>(hb.frozen (p:=⟨w.heap.size+2,j,Q⟩) (by have:=sz.out;show w.heap.size+2<_;omega)).trans (TF.out j)
 have FB:Hid (Below w.heap.size w ((((w1.setCell ⟨w.heap.size+2,0,Q⟩ (J q.sa q.sn q.sc)).setCell ⟨w.heap.size+2,1,Q⟩ (J q.ra q.rn q.rc)).setCell ⟨w.heap.size+2,2,Q⟩ (J q.wa q.wn q.tc)).setCell ⟨w.heap.size+2,3,Q⟩ (J q.va q.vn q.vc))):=aG (aG (aG (aG (aC hU.out hb) sm _) sm _) sm _) sm _;have FS:Hid (StaF w.heap.size (cA m l s) q ((((w1.setCell ⟨w.heap.size+2,0,Q⟩ (J q.sa q.sn q.sc)).setCell ⟨w.heap.size+2,1,Q⟩ (J q.ra q.rn q.rc)).setCell ⟨w.heap.size+2,2,Q⟩ (J q.wa q.wn q.tc)).setCell ⟨w.heap.size+2,3,Q⟩ (J q.va q.vn q.vc))):=((((hq.set _ 0 _ om).set _ 1 _ om).set _ 2 _ om).set _ 3 _ om).low om;clear hq hb T0 TF
 go_wp2_with fail
 have x0:((((w1.setCell _ _).setCell ⟨w.heap.size+2,1,Q⟩ (J q.ra q.rn q.rc)).setCell ⟨w.heap.size+2,2,Q⟩ (J q.wa q.wn q.tc)).setCell ⟨w.heap.size+2,3,Q⟩ (J q.va q.vn q.vc)).cell? _=J q.sa q.sn q.sc:=(aE dc (aE dc (aE dc (aK t0))));have x1:((((w1.setCell ⟨w.heap.size+2,0,Q⟩ (J q.sa q.sn q.sc)).setCell _ _).setCell ⟨w.heap.size+2,2,Q⟩ (J q.wa q.wn q.tc)).setCell ⟨w.heap.size+2,3,Q⟩ (J q.va q.vn q.vc)).cell? _=J q.ra q.rn q.rc:=(aE dc (aE dc (aK (aE dc t1))));have x2:((((w1.setCell ⟨w.heap.size+2,0,Q⟩ (J q.sa q.sn q.sc)).setCell ⟨w.heap.size+2,1,Q⟩ (J q.ra q.rn q.rc)).setCell _ _).setCell ⟨w.heap.size+2,3,Q⟩ (J q.va q.vn q.vc)).cell? _=J q.wa q.wn q.tc:=(aE dc (aK (aE dc (aE dc t2))));have x3:((((w1.setCell ⟨w.heap.size+2,0,Q⟩ (J q.sa q.sn q.sc)).setCell ⟨w.heap.size+2,1,Q⟩ (J q.ra q.rn q.rc)).setCell ⟨w.heap.size+2,2,Q⟩ (J q.wa q.wn q.tc)).setCell _ _).cell? _=J q.va q.vn q.vc:=(aK (aE dc (aE dc (aE dc t3))));generalize ((((w1.setCell ⟨w.heap.size+2,0,Q⟩ (J q.sa q.sn q.sc)).setCell ⟨w.heap.size+2,1,Q⟩ (J q.ra q.rn q.rc)).setCell ⟨w.heap.size+2,2,Q⟩ (J q.wa q.wn q.tc)).setCell ⟨w.heap.size+2,3,Q⟩ (J q.va q.vn q.vc))=WF at *;refine bodyPost_ret (v:=tu #[ag #[J q.sa q.sn q.sc,J q.ra q.rn q.rc,J q.wa q.wn q.tc,J q.va q.vn q.vc],Y I (jD m l s)]) (by simp[results,results40,go_sem,x0,x1,x2,x3]) rfl ⟨q,rfl,FS.out,FB.out⟩
end
section
section
variable {l:List TxA} {a:Option Addr} {c:Nat} {m:Int} {S:SA} {q:Q4} {w:World}
theorem do_q (kd n k:Int) (hl:IsTxs w a l) (hq:StaQ S q w):Calls prog 158 #[ag #[Y I m,J a l.length c],ag #[J q.sa q.sn q.sc,J q.ra q.rn q.rc,J q.wa q.wn q.tc,J q.va q.vn q.vc],ag #[Y I kd,Y I n,Y I k]] w fun e w'=>∃q':Q4,e=rt (tu #[ag #[J q'.sa q'.sn q'.sc,J q'.ra q'.rn q'.rc,J q'.wa q'.wn q'.tc,J q'.va q'.vn q'.vc],Y I (gM m l S kd n k)])/\StaF w.heap.size (lU m l S kd n k) q' w'/\Below w.heap.size w w':=by
 obtain⟨e1,e2,e3,e4,hs⟩:=hq;rw[e1,e2,e3,e4];exact stepsDo_any a c l q.sa q.ra q.wa q.va q.sc q.rc q.tc q.vc S m kd n k w hl hs
theorem can_q (hl:IsTxs w a l) (hq:StaQ S q w):Calls prog 180 #[ag #[Y I m,J a l.length c],ag #[J q.sa q.sn q.sc,J q.ra q.rn q.rc,J q.wa q.wn q.tc,J q.va q.vn q.vc]] w fun e w'=>∃a c,e=rt (tu #[J a (cK m l S).length c,Y I (cZ m l S)])/\IsSteps w' a (cK m l S)/\Below w.heap.size w w':=by
 obtain⟨e1,e2,e3,e4,hs⟩:=hq;rw[e1,e2,e3,e4];exact stepsCan_any a c l q.sa q.ra q.wa q.va q.sc q.rc q.tc q.vc S m w hl hs
theorem over_q (hl:IsTxs w a l) (hq:StaQ S q w):Kr 178 #[ag #[Y I m,J a l.length c],ag #[J q.sa q.sn q.sc,J q.ra q.rn q.rc,J q.wa q.wn q.tc,J q.va q.vn q.vc]] w (tu #[bo (lY m l S),Y I (cZ m l S)]):=by
 obtain⟨e1,e2,e3,e4,hs⟩:=hq;rw[e1,e2,e3,e4];exact yU a c l q.sa q.ra q.wa q.va q.sc q.rc q.tc q.vc S m w hl hs
end
end
section
theorem canL_len (sh:Nat) (l:List TxA) (S:SA) (h8:l.length<=8) (h4:sh<=4):(dF sh l S).length<=64:=by
 unfold dF mT;rw[nj];have a:=jV sh l S 1 l.length;have b:=jV sh l S 2 l.length;have c:=l5 h8 h4;omega
theorem can_any (sh:Nat) (l:List TxA) (S:SA) (kd n k:Int):(dF sh l S).any (fun x=>(x.1:Int)==kd && (x.2.1:Int)==n && (x.2.2:Int)==k)=decide (dC sh l S kd n k=0):=by
 rw[Bool.eq_iff_iff,wm,decide_eq_true_eq];constructor
 ·rintro ⟨⟨K,N,j⟩,hx,e⟩;obtain⟨h1,h2,h3,h4⟩:=gS.1 hx;simp only[Bool.and_eq_true,beq_iff_eq]at e;obtain⟨⟨e1,e2⟩,e3⟩:=e;subst e1 e2 e3;have h1:K=1∨K=2:=h1;have h2:N<l.length:=h2;have h3:j<sh:=h3;have h4:eD sh l S K N j=true:=h4;unfold eD at h4;simp only[Bool.and_eq_true,Bool.not_eq_true']at h4;obtain⟨⟨a1,a2⟩,a3⟩:=h4;unfold dC;rw[if_pos om,if_neg om];simp only[Int.toNat_natCast];rw[if_pos a1,if_neg (by rw[a2];simp),if_pos a3]
 ·intro h;obtain⟨K,N,k',rfl,rfl,rfl,hK,hN,hk,a1,a2,a3⟩:=qC h;refine⟨(K,N,k'),gS.2 ⟨hK,hN,hk,?_⟩,by simp⟩;show eD sh l S K N k'=true;unfold eD;rw[a1,a2,a3];rfl
theorem can_over {m:Int} {l:List TxA} {S:SA} (h:cZ m l S=0):lY m l S=decide ((cK m l S).length=0):=by
 have e1:lY m l S=dB m.toNat l S:=if_pos h;have e2:cK m l S=dF m.toNat l S:=if_pos h;obtain⟨sh,rfl,_,_,_,_,_,ht⟩:=aZ h;rw[e1,e2];show dB sh l S=decide ((dF sh l S).length=0)
 cases ho:dB sh l S with
 | true=>rw[over_none (wE.1 ht) ho];rfl
 | false=>
  have:=some_can ho;symm;rw[decide_eq_false_iff_not];exact fun e=>this (kh e)
variable (la:Option Addr) (lc:Nat) (l:List TxA) (sa ra wa va:Option Addr) (sc rc tc vc:Nat) (S:SA)
end
theorem can_do0 {m:Int} {l:List TxA} {S:SA} (h:cZ m l S=0) {x:Nat×Nat×Nat} (hx:x∈cK m l S):gM m l S x.1 x.2.1 x.2.2=0:=by
 have e1:gM m l S x.1 x.2.1 x.2.2=dC m.toNat l S x.1 x.2.1 x.2.2:=if_pos h;have e2:cK m l S=dF m.toNat l S:=if_pos h;rw[e2]at hx;rw[e1];have:=can_any m.toNat l S x.1 x.2.1 x.2.2;have ha:(dF m.toNat l S).any (fun y=>(y.1:Int)==x.1 && (y.2.1:Int)==x.2.1 && (y.2.2:Int)==x.2.2)=true:=List.any_eq_true.2 ⟨x,hx,by simp⟩;rw[ha]at this;exact of_decide_eq_true this.symm
theorem do_is {m:Int} {l:List TxA} {S:SA} {x:Nat×Nat×Nat} (h:gM m l S x.1 x.2.1 x.2.2=0):lU m l S x.1 x.2.1 x.2.2=yQ m.toNat l S x.1 x.2.1 x.2.2:=by
 unfold lU;rw[if_pos h];simp
theorem inv_st {m:Int} {l:List TxA} {S:SA} {s:List Int} (hp:aN m l=0) (Ii:Inv m.toNat l s S):cZ m l S=0:=by
 unfold cZ;rw[if_pos hp,cH.2 Ii.f,wE.2 Ii.t];rfl
theorem beg_zero {m:Int} {l:List TxA} {s:List Int} (h:jD m l s=0):aN m l=0/\s.length=8:=by
 unfold jD cP at h;by_cases h1:aN m l=0
 ·rw[h1]at h;refine⟨h1,?_⟩;apply Classical.byContradiction;intro h8;simp[aH,h8]at h
 ·simp[aH,h1]at h
theorem beg_inv {m:Int} {l:List TxA} {s:List Int} (h:jD m l s=0):Inv m.toNat l s (cA m l s):=by
 obtain⟨hp,h8⟩:=beg_zero h;have e:cA m l s=jW m.toNat l s:=if_pos h;rw[e];exact inv_beg _ _ _ h8 (fun n hn=>lR (eG (aX hp).2.2 n hn))
section
theorem nY {w:World} {R:Nat} (q:Q4) {u1 u2 u3:Value} (t0:w.cell? ⟨R,0,Q⟩=M u0) (t1:w.cell? ⟨R,1,Q⟩=M u1) (t2:w.cell? ⟨R,2,Q⟩=M u2) (t3:w.cell? ⟨R,3,Q⟩=M u3):((((w.setCell ⟨R,0,Q⟩ (J q.sa q.sn q.sc)).setCell ⟨R,1,Q⟩ (J q.ra q.rn q.rc)).setCell ⟨R,2,Q⟩ (J q.wa q.wn q.tc)).setCell ⟨R,3,Q⟩ (J q.va q.vn q.vc)).cell? ⟨R,0,Q⟩=J q.sa q.sn q.sc/\((((w.setCell ⟨R,0,Q⟩ (J q.sa q.sn q.sc)).setCell ⟨R,1,Q⟩ (J q.ra q.rn q.rc)).setCell ⟨R,2,Q⟩ (J q.wa q.wn q.tc)).setCell ⟨R,3,Q⟩ (J q.va q.vn q.vc)).cell? ⟨R,1,Q⟩=J q.ra q.rn q.rc/\((((w.setCell ⟨R,0,Q⟩ (J q.sa q.sn q.sc)).setCell ⟨R,1,Q⟩ (J q.ra q.rn q.rc)).setCell ⟨R,2,Q⟩ (J q.wa q.wn q.tc)).setCell ⟨R,3,Q⟩ (J q.va q.vn q.vc)).cell? ⟨R,2,Q⟩=J q.wa q.wn q.tc/\((((w.setCell ⟨R,0,Q⟩ (J q.sa q.sn q.sc)).setCell ⟨R,1,Q⟩ (J q.ra q.rn q.rc)).setCell ⟨R,2,Q⟩ (J q.wa q.wn q.tc)).setCell ⟨R,3,Q⟩ (J q.va q.vn q.vc)).cell? ⟨R,3,Q⟩=J q.va q.vn q.vc:=⟨(aE dc (aE dc (aE dc (aK t0)))),(aE dc (aE dc (aK (aE dc t1)))),(aE dc (aK (aE dc (aE dc t2)))),(aK (aE dc (aE dc (aE dc t3))))⟩
variable (la:Option Addr) (lc:Nat) (l:List TxA) (sa:Option Addr) (sc:Nat) (s:List Int) (pa:Option Addr) (pc:Nat) (pk:List Int)
end
end Go.Proofs.YtcgpkonfneofdaaGreatDoor
