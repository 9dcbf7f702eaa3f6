/- Conditions: those that each theorem states. -/
import Derived.Test.YtcgpkonfneofdaaGreatDoorQGvF
set_option maxRecDepth 100000
set_option maxHeartbeats 8000000
namespace Go.Proofs.YtcgpkonfneofdaaGreatDoor
open Go.RowKit Go.Proofs.Tryz
open Go.Value renaming slice->J,int->Y,bool->bo,pointer->pd,agg->ag,tuple->tu,string->sg,iface->fc
open Go.IntKind renaming i64->I
open Go.Obj renaming cells->U
open Go.Ending renaming returned->rt,panicked->pg
open Option renaming some->M,none->Q
theorem Uq {p:Prop} (h:p:=by
 go_wp2_with fail
 refine(CF.out _).mono ?_;rintro e w2 ⟨rfl,hb2⟩;have B2:=aI (aC BU.out hb2);clear hb2 CF;go_wp2;exact UM):p:=h
section
theorem rw_of_rx {sh:Nat} {l:List TxA} {X:Nat->SA} {K:Nat} (h:RX (sh:Int) l X K):RW sh l X K:=by
 have hf:∀i,i<=K->Form sh l (X i):=fun i hi=>by
  obtain⟨sh',e,_,_,_,_,hf,_⟩:=aZ (h.st i hi);have e':sh'=sh:=om;subst e';exact cH.1 hf
 have ec:∀i,i<=K->cK (sh:Int) l (X i)=dF sh l (X i):=fun i hi=>by
  have e:cK (sh:Int) l (X i)=dF (sh:Int).toNat l (X i):=if_pos (h.st i hi);rw[e,lq]
 have mem:∀i,i<K->(dF sh l (X i)).getD 0 (0,0,0)∈dF sh l (X i):=fun i hi=>by
  have h0:=h.can i hi;rw[ec i om]at h0;simp[List.getD,h0]
 refine⟨hf,fun i hi=>?_,fun i hi=>?_,fun i hi=>(gS.1 (mem i hi)).1,fun i hi=>(gS.1 (mem i hi)).2.1,fun i hi=>(gS.1 (mem i hi)).2.2.1,fun i hi=>?_,h.few⟩
 ·have e:lY (sh:Int) l (X i)=dB (sh:Int).toNat l (X i):=if_pos (h.st i hi);rw[lq]at e;rw[<-e];exact h.ov i hi
 ·have h0:=h.can i hi;rw[ec i om]at h0;exact h0
 ·have h1:=h.dz i hi;have h2:=h.nx i hi;rw[do_is h1,lq,ec i om]at h2;exact h2
section
variable (P:Nat) (sh:Nat) (la:Option Addr) (lc:Nat) (l:List TxA) (ba:Option Addr) (bc:Nat) (bg:List Int) (q:Q4) (S:SA) (w:World)
theorem gvRest (h:Dek P (sh:Int) la lc l ba bc bg q S w) (hp:aN (sh:Int) l=0) (_hst:cZ (sh:Int) l S=0) (X:Nat->SA) (K:Nat) (hX0:X 0=S) (hX:RX (sh:Int) l X K):Calls prog 25 #[pd (M ⟨P,0,Q⟩),aM [114,101,115,116]] w fun e w'=>oU P (sh:Int) la lc l w (cL (K:Nat),bg,X K) e w':=by
 have H:=aI h;have CS:=aI (qD [114,101,115,116] dc 1 dc w)
 have CR:Hid (∀w',Below _ w w'->Calls _ 58 _ w' fun e w''=>∃q':Q4,e=rt (tu #[ag #[J q'.sa q'.sn q'.sc,J q'.ra q'.rn q'.rc,J q'.wa q'.wn q'.tc,J q'.va q'.vn q'.vc],Y I (K:Nat)])/\SQ P (X K) q' w''/\Below _ w' w''):=fun w' hb=>by
  refine(docRest_two la lc l sh X K q w' (h.on hb).txs 0 (by rw[hX0];exact fun w2 h1 h2=>(h.on hb).st w2 h2 (fun b hl _=>h1 b nz hl)) hp (rw_of_rx hX)).mono ?_;rintro e w2 ⟨q',rfl,hs,hz,hb2⟩;refine⟨q',rfl,?_,hb2⟩
  cases K with
  | zero=>
   rw[hz rfl,hX0];exact(h.on (aC hb hb2)).st
  | succ K=>
   exact hs.sq (h.on hb).pl
 have CD:Hid (∀w,Calls _ 9 #[Y I (K:Nat)] w fun e w'=>e=rt _/\Below _ w w'):=fun w=>gY _ om (by have:=hX.few;omega) w
 unfold aM at CD;clear hX hX0;clear h hp _hst;unfold aM at CS
 try unfold aM
 go_enter func25,ntmps25
 go_wp2_with fail
 refine CS.out.mono ?_;rintro e u ⟨sa0,sc0,rfl,hbu⟩;have BU:=aI hbu
 have KS:Hid (∀w',Below _ u w'->w'.cell? _=M _/\w'.cell? _=M _/\w'.cell? _=M _/\w'.cell? _=M _/\w'.cell? _=M _/\w'.cell? _=M _/\w'.cell? _=M _/\Hid _):=fun w' hb=>by
  exact vx
 clear hbu CS;obtain⟨k0,k1,k2,k3,k4,k5,k6,_⟩:=KS.out _ br
 have KS2:Hid (∀w',Below _ u w'->w'.cell? _=M _/\w'.cell? _=M _):=fun w' hb=>by
  obtain⟨k0,k1,k2,k3,k4,k5,k6⟩:=(H.out.on (aC BU.out hb)).cs;exact⟨k0,k1⟩
 have CR:=Hi (fun w' hb=>CR.out w' (aC BU.out hb));clear KS k2
 go_upto_region 37 with fail
 refine wp_region_held_drew (S:=(fun w'=>w'.cell? ⟨P,0,Q⟩=Y I sh/\w'.cell? ⟨P,1,Q⟩=J la l.length lc)) kr ?_ (fun hHeld=>?_)
 ·exact KS2.out _ (aD br)
 refine tk 0 ?_;refine tk 1 ?_;refine tk 2 ?_;refine tk 3 ?_;refine tk 4 ?_;refine tk 5 ?_;refine tk 6 ?_;refine tk 7 ?_;refine r1 8 (fun K hK=>?_);go_simp;skip;clear hHeld;refine hK.out _ _ (KS2.out _ (aD br)) (fun hHeld=>?_);clear hK K;refine r1 9 (fun K hK=>?_);go_simp
 go_wp2_with (go_at_call 58;refine(CR.out _ (aD br)).mono ?_;rintro e w1 ⟨q2,rfl,hsf,hb1⟩)
 have B1:=Hi (aC (aD br) hb1);have HSF:=aI hsf;clear hb1 hsf k3 k4 k5 k6;obtain⟨_,_,_,k3,k4,k5,k6⟩:=(H.out.on (aC BU.out B1.out)).cs;have zf:=(H.out.on (aC BU.out B1.out)).fz
 have PF:Hid (letI Z:=(((w1.setCell ⟨P,3,Q⟩ (J q2.sa q2.sn q2.sc)).setCell ⟨P,4,Q⟩ (J q2.ra q2.rn q2.rc)).setCell ⟨P,5,Q⟩ (J q2.wa q2.wn q2.tc)).setCell ⟨P,6,Q⟩ (J q2.va q2.vn q2.vc);Z.cell? ⟨P,0,Q⟩=Y I sh/\Z.cell? ⟨P,1,Q⟩=J la l.length lc):=by
  obtain⟨k0,k1,_⟩:=(H.out.on (aC BU.out B1.out)).cs;exact⟨aE dc (aE dc (aE dc (aE dc k0))),aE dc (aE dc (aE dc (aE dc k1)))⟩
 clear hHeld;refine hK.out _ _ (KS2.out _ B1.out) (fun hHeld=>?_);clear hK K;refine tk 10 ?_;refine tk 11 ?_;refine tk 12 ?_;refine tk 13 ?_;refine tk 14 ?_;refine r1 15 (fun K hK=>?_);go_simp;skip;clear hHeld;refine hK.out _ _ (PF.out) (fun hHeld=>?_);clear hK K;refine tk 16 ?_;refine wpAnyH_done kr ?_ _;clear k3 k4 k5 k6 hHeld zf KS2 CR PF k0 k1;obtain⟨hc,hg⟩:=H.out.putD (aC BU.out B1.out) HSF.out;have HC:=aI hc;have HG:=aI hg;clear hc hg HSF B1;generalize ((((w1.setCell ⟨P,3,Q⟩ (J q2.sa q2.sn q2.sc)).setCell ⟨P,4,Q⟩ (J q2.ra q2.rn q2.rc)).setCell ⟨P,5,Q⟩ (J q2.wa q2.wn q2.tc)).setCell ⟨P,6,Q⟩ (J q2.va q2.vn q2.vc))=V at *
 go_wp2_with fail
 refine(CD.out _).mono ?_;rintro e w2 ⟨rfl,hb2⟩;have B2:=aI hb2;clear hb2 CD;go_wp2;go_ret;exact⟨rfl,ba,bc,q2,HC.out.on B2.out,cN HG.out (bG B2.out)⟩
theorem gvAudit_bad (h:Dek P (sh:Int) la lc l ba bc bg q S w) (hp:aN (sh:Int) l=0) (hst:cZ (sh:Int) l S=0) (hr:¬lD (sh:Int) l S=0):Kr 25 #[pd (M ⟨P,0,Q⟩),aM [97,117,100,105,116]] w (aM ([101,114,114,111,114,32]++cL (lD (sh:Int) l S))):=by
 have H:=aI h;unfold aM;have CS:=aI (qD [97,117,100,105,116] dc 1 dc w)
 have hF:Hid (Form sh l S):=by
  exact yu
 have HP:=aI hp
 have CR:Hid (∀w',Below w.heap.size w w'->Calls prog 59 #[ag #[Y I sh,J la l.length lc],ag #[J q.sa q.sn q.sc,J q.ra q.rn q.rc,J q.wa q.wn q.tc,J q.va q.vn q.vc]] w' fun e w''=>∃xa xc,e=rt (tu #[J xa (iV (sh:Int) l S).length xc,Y I (lD (sh:Int) l S)])/\(iV (sh:Int) l S).length<=xc/\IsRes w'' xa (iV (sh:Int) l S)/\Below w'.heap.size w' w''):=fun w' hb=>by
  have h1:=oN la lc l q S (sh:Int) w' (h.on hb).txs (h.on hb).sta;skip;exact h1
 have hz:lD (sh:Int) l S=8:=by
  unfold lD at hr ⊢;rw[if_pos hst]at hr ⊢;split at hr
  ·exact absurd rfl hr
  ·next h1=>rw[if_neg h1]
 have CF:=aI (bW (lD (sh:Int) l S) (by rw[hz];decide));have hn:=hr;unfold aM at CF;generalize ByteArray.mk ([101,114,114,111,114,32]++cL (lD (sh:Int) l S)).toArray=T at *;generalize lD (sh:Int) l S=E at *;generalize iV (sh:Int) l S=R at *;clear hz hr;clear h hp hst;unfold aM at CS
 try unfold aM
 go_enter func25,ntmps25
 go_wp2_with fail
 refine CS.out.mono ?_;rintro e u ⟨sa0,sc0,rfl,hbu⟩;have BU:=aI hbu
 have KS:Hid (∀w',Below _ u w'->w'.cell? _=M _/\w'.cell? _=M _/\w'.cell? _=M _/\w'.cell? _=M _/\w'.cell? _=M _/\w'.cell? _=M _/\w'.cell? _=M _/\Hid _):=fun w' hb=>by
  exact vx
 clear hbu CS
 go_upto_region 40 with fail
 refine wp_region_held_drew (S:=(fun w'=>w'.cell? ⟨P,0,Q⟩=Y I sh/\w'.cell? ⟨P,1,Q⟩=J la l.length lc/\w'.cell? ⟨P,2,Q⟩=J ba bg.length bc/\w'.cell? ⟨P,3,Q⟩=J q.sa q.sn q.sc/\w'.cell? ⟨P,4,Q⟩=J q.ra q.rn q.rc/\w'.cell? ⟨P,5,Q⟩=J q.wa q.wn q.tc/\w'.cell? ⟨P,6,Q⟩=J q.va q.vn q.vc/\Hid (Below u.heap.size u w'))) kr ?_ (fun hHeld=>?_)
 ·exact KS.out _ (aD br)
 refine tk 0 ?_;refine tk 1 ?_;refine tk 2 ?_;refine tk 3 ?_;refine tk 4 ?_;refine tk 5 ?_;refine tk 6 ?_;refine tk 7 ?_;refine r1 8 (fun K hK=>?_);go_simp;obtain⟨k0,k1,k2,k3,k4,k5,k6,hbx⟩:=hHeld
 go_wp2_with (go_at_call 59;refine(CR.out _ (aC BU.out hbx.out)).mono ?_;rintro e w1 ⟨xa,xc,rfl,hcap,hX,hb1⟩)
 have B1:=Hi (aC hbx.out hb1);have HX:=aI hX;have HCP:=aI hcap;clear hX hcap;clear k0 k1 k2 k3 k4 k5 k6 hbx hb1;have hHeld:=trivial;clear hHeld;refine hK.out _ _ (KS.out _ B1.out) (fun hHeld=>?_);clear hK K;refine tk 9 ?_;refine tk 10 ?_;refine tk 11 ?_;refine tk 12 ?_;refine tk 13 ?_;refine wpAnyH_done kr ?_ _;clear hHeld KS CR HX HCP
 go_wp2_with fail
 refine(CF.out _).mono ?_;rintro e w2 ⟨rfl,hb2⟩;have B2:=aI (aC (aC BU.out B1.out) hb2);clear hb2;go_wp2;exact UM
theorem gvAudit_ok (h:Dek P (sh:Int) la lc l ba bc bg q S w) (hp:aN (sh:Int) l=0) (hst:cZ (sh:Int) l S=0) (hr:lD (sh:Int) l S=0):Kr 25 #[pd (M ⟨P,0,Q⟩),aM [97,117,100,105,116]] w (aM (cL (jE bg l S.st (iV (sh:Int) l S)))):=by
 have H:=aI h;unfold aM;have CS:=aI (qD [97,117,100,105,116] dc 1 dc w)
 have hF:Hid (Form sh l S):=by
  exact yu
 have HP:=aI hp
 have CR:Hid (∀w',Below w.heap.size w w'->Calls prog 59 #[ag #[Y I sh,J la l.length lc],ag #[J q.sa q.sn q.sc,J q.ra q.rn q.rc,J q.wa q.wn q.tc,J q.va q.vn q.vc]] w' fun e w''=>∃xa xc,e=rt (tu #[J xa (iV (sh:Int) l S).length xc,Y I 0])/\(iV (sh:Int) l S).length<=xc/\IsRes w'' xa (iV (sh:Int) l S)/\Below w'.heap.size w' w''):=fun w' hb=>by
  have h1:=oN la lc l q S (sh:Int) w' (h.on hb).txs (h.on hb).sta;rw[hr]at h1;exact h1
 have CA:Hid (∀(w':World) (xa:Option Addr) (xc:Nat),Below _ w w'->IsRes w' xa _->(iV (sh:Int) l S).length<=xc->Calls _ 60 #[J ba _ bc,J la _ lc,J q.sa q.sn q.sc,J xa (iV (sh:Int) l S).length xc] w' fun e w''=>e=rt _/\Below _ w' w''):=fun w' xa xc hb hX hc=>by
  rw[(h.on hb).sta.1];exact docAud_any ba la q.sa xa bc lc q.sc xc bg l S.st (iV (sh:Int) l S) w' (h.on hb).bgs (h.on hb).txs (h.on hb).sta.2.2.2.2.st hX hc
 have ha:=desk_av (bg:=bg) hst;have CD:Hid (∀w,Calls _ 9 #[Y I (jE bg l S.st (iV (sh:Int) l S))] w fun e w'=>e=rt _/\Below _ w w'):=fun w=>gY _ om om w
 unfold aM at CD;generalize ByteArray.mk (cL (jE bg l S.st (iV (sh:Int) l S))).toArray=T at *;generalize jE bg l S.st (iV (sh:Int) l S)=E at *;generalize kI bg l S.st (iV (sh:Int) l S)=E2 at *;generalize iV (sh:Int) l S=R at *;clear ha hr;clear h hp hst;unfold aM at CS
 try unfold aM
 go_enter func25,ntmps25
 go_wp2_with fail
 refine CS.out.mono ?_;rintro e u ⟨sa0,sc0,rfl,hbu⟩;have BU:=aI hbu
 have KS:Hid (∀w',Below _ u w'->w'.cell? _=M _/\w'.cell? _=M _/\w'.cell? _=M _/\w'.cell? _=M _/\w'.cell? _=M _/\w'.cell? _=M _/\w'.cell? _=M _/\Hid _):=fun w' hb=>by
  exact vx
 clear hbu CS
 go_upto_region 40 with fail
 refine wp_region_held_drew (S:=(fun w'=>w'.cell? ⟨P,0,Q⟩=Y I sh/\w'.cell? ⟨P,1,Q⟩=J la l.length lc/\w'.cell? ⟨P,2,Q⟩=J ba bg.length bc/\w'.cell? ⟨P,3,Q⟩=J q.sa q.sn q.sc/\w'.cell? ⟨P,4,Q⟩=J q.ra q.rn q.rc/\w'.cell? ⟨P,5,Q⟩=J q.wa q.wn q.tc/\w'.cell? ⟨P,6,Q⟩=J q.va q.vn q.vc/\Hid (Below u.heap.size u w'))) kr ?_ (fun hHeld=>?_)
 ·exact KS.out _ (aD br)
 refine tk 0 ?_;refine tk 1 ?_;refine tk 2 ?_;refine tk 3 ?_;refine tk 4 ?_;refine tk 5 ?_;refine tk 6 ?_;refine tk 7 ?_;refine r1 8 (fun K hK=>?_);go_simp;obtain⟨k0,k1,k2,k3,k4,k5,k6,hbx⟩:=hHeld
 go_wp2_with (go_at_call 59;refine(CR.out _ (aC BU.out hbx.out)).mono ?_;rintro e w1 ⟨xa,xc,rfl,hcap,hX,hb1⟩)
 have B1:=Hi (aC hbx.out hb1);have HX:=aI hX;have HCP:=aI hcap;clear hX hcap;clear k0 k1 k2 k3 k4 k5 k6 hbx hb1;have hHeld:=trivial;clear hHeld;refine hK.out _ _ (KS.out _ B1.out) (fun hHeld=>?_);clear hK K;refine tk 9 ?_;refine tk 10 ?_;refine tk 11 ?_;refine tk 12 ?_;refine tk 13 ?_;refine wpAnyH_done kr ?_ _;clear hHeld;obtain⟨V,hV⟩:=nm (w1);subst hV
 have KV:Hid (∀w',Below _ V w'->w'.cell? _=M _/\w'.cell? _=M _/\w'.cell? _=M _/\w'.cell? _=M _/\w'.cell? _=M _/\w'.cell? _=M _/\w'.cell? _=M _/\Hid _):=fun w' hb=>by
  exact Vb
 clear KS CR
 go_upto_region 43 with fail
 refine wp_region_held_drew (S:=(fun w'=>w'.cell? ⟨P,0,Q⟩=Y I sh/\w'.cell? ⟨P,1,Q⟩=J la l.length lc/\w'.cell? ⟨P,2,Q⟩=J ba bg.length bc/\w'.cell? ⟨P,3,Q⟩=J q.sa q.sn q.sc/\w'.cell? ⟨P,4,Q⟩=J q.ra q.rn q.rc/\w'.cell? ⟨P,5,Q⟩=J q.wa q.wn q.tc/\w'.cell? ⟨P,6,Q⟩=J q.va q.vn q.vc/\Hid (Below V.heap.size V w'))) kr ?_ (fun hHeld=>?_)
 ·exact KV.out _ (aD br)
 refine tk 0 ?_;refine tk 1 ?_;refine tk 2 ?_;refine tk 3 ?_;refine tk 4 ?_;refine tk 5 ?_;refine tk 6 ?_;refine tk 7 ?_;refine tk 8 ?_;refine tk 9 ?_;refine tk 10 ?_;refine tk 11 ?_;refine tk 12 ?_;refine tk 13 ?_;refine tk 14 ?_;refine r1 15 (fun K hK=>?_);go_simp;obtain⟨k0,k1,k2,k3,k4,k5,k6,hbx⟩:=hHeld
 go_wp2_with (go_at_call 60;refine(CA.out _ xa xc (aC BU.out (aC B1.out hbx.out)) (HX.out.below hbx.out) HCP.out).mono ?_;rintro e w1 ⟨rfl,hb1⟩)
 have B2:=Hi (aC hbx.out hb1);clear k0 k1 k2 k3 k4 k5 k6 hbx hb1;have hHeld:=trivial;clear hHeld;refine hK.out _ _ (KV.out _ B2.out) (fun hHeld=>?_);clear hK K;refine tk 16 ?_;refine tk 17 ?_;refine tk 18 ?_;refine tk 19 ?_;refine tk 20 ?_;refine wpAnyH_done kr ?_ _;clear hHeld KV CA HX HCP
 go_wp2_with fail
 refine(CD.out _).mono ?_;rintro e w2 ⟨rfl,hb2⟩;have B3:=aI (aC (aC BU.out (aC B1.out B2.out)) hb2);clear hb2;go_wp2;go_ret;exact⟨rfl,B3.out⟩
theorem gvNone1 (x:List UInt8) (hx:x.length<=4096) (n:Nat) (hn:(eT 32 x).length=n) (h3:¬n=3) (hc:¬x=[99,97,110]) (hs:¬x=[115,116,111,114,101]) (hr:¬x=[114,101,115,116]) (ha:¬x=[97,117,100,105,116]) (w:World):Kr 25 #[pd (M ⟨P,0,Q⟩),aM x] w (aM ([101,114,114,111,114,32]++cL 1)):=by
 have CS:=aI (qD x hx n hn w);have CF:=aI (bW 1 dc);have nx0:=dV (x:=x) (c:=[99,97,110]) hc;have nx1:=dV (x:=x) (c:=[115,116,111,114,101]) hs;have nx2:=dV (x:=x) (c:=[114,101,115,116]) hr;have nx3:=dV (x:=x) (c:=[97,117,100,105,116]) ha;have i3:¬(n:Int)=3:=om;clear hc hs hr ha hn hx;unfold aM at CS CF ⊢;generalize ByteArray.mk ([101,114,114,111,114,32]++cL 1).toArray=T at *;generalize ByteArray.mk x.toArray=Yy at *;go_enter func25,ntmps25
 go_wp2_with fail
 refine CS.out.mono ?_;rintro e u ⟨sa0,sc0,rfl,hbu⟩;have BU:=aI hbu;clear hbu CS;exact Uq
theorem gvNone3 (x:List UInt8) (hx:x.length<=4096) (a b c:List UInt8) (hn:eT 32 x=[a,b,c]) (h1:¬a=[112,117,116]) (h2:¬a=[114,101,97,100]) (h3:¬a=[119,114,105,116,101]) (hc:¬x=[99,97,110]) (hs:¬x=[115,116,111,114,101]) (hr:¬x=[114,101,115,116]) (ha:¬x=[97,117,100,105,116]) (w:World):Kr 25 #[pd (M ⟨P,0,Q⟩),aM x] w (aM ([101,114,114,111,114,32]++cL 1)):=by
 have CS:=aI (gT x hx hn w);have CF:=aI (bW 1 dc);have nx0:=dV (x:=x) (c:=[99,97,110]) hc;have nx1:=dV (x:=x) (c:=[115,116,111,114,101]) hs;have nx2:=dV (x:=x) (c:=[114,101,115,116]) hr;have nx3:=dV (x:=x) (c:=[97,117,100,105,116]) ha;have na0:=dV (x:=a) (c:=[112,117,116]) h1;have na1:=dV (x:=a) (c:=[114,101,97,100]) h2;have na2:=dV (x:=a) (c:=[119,114,105,116,101]) h3;clear hc hs hr ha hn hx h1 h2 h3;unfold aM at CS CF ⊢;generalize ByteArray.mk ([101,114,114,111,114,32]++cL 1).toArray=T at *;generalize ByteArray.mk x.toArray=Yy at *;generalize ByteArray.mk a.toArray=A at *;go_enter func25,ntmps25
 go_wp2_with fail
 refine CS.out.mono ?_;rintro e u ⟨sb,off,sc0,rfl,c0,c1,c2,hbu⟩;have BU:=aI hbu;clear hbu CS c1 c2;exact Uq
end
end
end Go.Proofs.YtcgpkonfneofdaaGreatDoor
