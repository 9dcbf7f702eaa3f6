/- Conditions: those that each theorem states. -/
import Derived.Test.YtcgpkonfneofdaaGreatDoorQDkR
import Derived.Test.YtcgpkonfneofdaaGreatDoorQDocJ
import Derived.Test.YtcgpkonfneofdaaGreatDoorQDocE
set_option maxRecDepth 100000
set_option maxHeartbeats 8000000
namespace Go.Proofs.YtcgpkonfneofdaaGreatDoor
open Go.RowKit Go.Proofs.Tryz
open Go.Value renaming slice->J,int->Y,bool->bo,pointer->pd,agg->ag,tuple->tu,string->sg,iface->fc
open Go.IntKind renaming i64->I
open Go.Obj renaming cells->U
open Go.Ending renaming returned->rt,panicked->pg
open Option renaming some->M,none->Q
variable {p:Prop}
section
structure RW (sh:Nat) (l:List TxA) (X:Nat->SA) (K:Nat):Prop where
 fm:∀i,i<=K->Form sh l (X i)
 ov:∀i,i<=K->dB sh l (X i)=decide (i=K)
 can:∀i,i<K->0<(dF sh l (X i)).length
 kd:∀i,i<K->((dF sh l (X i)).getD 0 (0,0,0)).1=1∨((dF sh l (X i)).getD 0 (0,0,0)).1=2
 tx:∀i,i<K->((dF sh l (X i)).getD 0 (0,0,0)).2.1<l.length
 sd:∀i,i<K->((dF sh l (X i)).getD 0 (0,0,0)).2.2<sh
 nx:∀i,i<K->yQ sh l (X i) ((dF sh l (X i)).getD 0 (0,0,0)).1 ((dF sh l (X i)).getD 0 (0,0,0)).2.1 ((dF sh l (X i)).getD 0 (0,0,0)).2.2=X (i+1)
 few:K<=64
theorem tI {lo lo' a O R0:Nat} {S:SA} {q5:Q4} {u V w4:World} {u0 u1 u2 u3:Value} (hb:Below u.heap.size u V) (B4:Below V.heap.size V w4) (hO:u.heap.size<=O) (o0:V.cell? ⟨O,0,Q⟩=M u0) (o1:V.cell? ⟨O,1,Q⟩=M u1) (o2:V.cell? ⟨O,2,Q⟩=M u2) (o3:V.cell? ⟨O,3,Q⟩=M u3) (of_:∀j,V.frozen? ⟨O,j,Q⟩=false) (h5:StaF lo' S q5 w4) (hl:lo<=lo') (ha:a<=O) (hR:O<=R0) (hOl2:R0<lo') :
  letI Z:=(((w4.setCell ⟨O,0,Q⟩ (J q5.sa q5.sn q5.sc)).setCell ⟨O,1,Q⟩ (J q5.ra q5.rn q5.rc)).setCell ⟨O,2,Q⟩ (J q5.wa q5.wn q5.tc)).setCell ⟨O,3,Q⟩ (J q5.va q5.vn q5.vc);Hid (Z.cell? ⟨O,0,Q⟩=J q5.sa q5.sn q5.sc/\Z.cell? ⟨O,1,Q⟩=J q5.ra q5.rn q5.rc/\Z.cell? ⟨O,2,Q⟩=J q5.wa q5.wn q5.tc/\Z.cell? ⟨O,3,Q⟩=J q5.va q5.vn q5.vc)/\Hid (∀j,Z.frozen? ⟨O,j,Q⟩=false)/\Hid (KO lo a R0 S q5 Z)/\Hid (Below u.heap.size u Z):=by
 refine⟨nY q5 (aB B4 o0) (aB B4 o1) (aB B4 o2) (aB B4 o3),fun j=>?_,((((h5.ko hl hOl2).set ha hR 0 _).set ha hR 1 _).set ha hR 2 _).set ha hR 3 _,aG (aG (aG (aG (aC hb B4) hO _) hO _) hO _) hO _⟩;have h:=(B4.frozen (p:=⟨O,j,Q⟩) (np V ⟨O,0,Q⟩ o0)).trans (of_ j);simpa using h
section
variable {la:Option Addr} {lc:Nat} {l:List TxA} {q:Q4} {S:SA} {w:World} {sh:Nat}
theorem mQ (hl:IsTxs w la l) (hq:StaQ S q w) (hp:aN (sh:Int) l=0) (hF:Form sh l S):Kr 55 #[ag #[Y I sh,J la l.length lc],ag #[J q.sa q.sn q.sc,J q.ra q.rn q.rc,J q.wa q.wn q.tc,J q.va q.vn q.vc]] w (bo (dB sh l S)):=by
 obtain⟨e1,e2,e3,e4,hs⟩:=hq;rw[e1,e2,e3,e4];exact docOver_any la lc l q.sa q.ra q.wa q.va q.sc q.rc q.tc q.vc S sh w hl hs hp hF
theorem docCan_q (hl:IsTxs w la l) (hq:StaQ S q w) (hp:aN (sh:Int) l=0) (hF:Form sh l S):Calls prog 57 #[ag #[Y I sh,J la l.length lc],ag #[J q.sa q.sn q.sc,J q.ra q.rn q.rc,J q.wa q.wn q.tc,J q.va q.vn q.vc]] w fun e w'=>∃a c,e=rt (J a (dF sh l S).length c)/\IsSteps w' a (dF sh l S)/\Below w.heap.size w w':=by
 obtain⟨e1,e2,e3,e4,hs⟩:=hq;obtain⟨h1,h4,hc⟩:=aX hp;rw[e1,e2,e3,e4];exact docCan_any la lc l q.sa q.ra q.wa q.va q.sc q.rc q.tc q.vc S sh w hl hs (fun a ha=>xG hp ha) hF (cJ hc) om
theorem docDone_q {kd n k:Nat} (hl:IsTxs w la l) (hq:StaQ S q w) (hp:aN (sh:Int) l=0) (hF:Form sh l S) (hkd:kd=1∨kd=2) (hn:n<l.length) (hk:k<sh):Calls prog 93 #[ag #[Y I sh,J la l.length lc],ag #[J q.sa q.sn q.sc,J q.ra q.rn q.rc,J q.wa q.wn q.tc,J q.va q.vn q.vc],ag #[Y I kd,Y I n,Y I k]] w fun e w'=>∃q':Q4,e=rt (ag #[J q'.sa q'.sn q'.sc,J q'.ra q'.rn q'.rc,J q'.wa q'.wn q'.tc,J q'.va q'.vn q'.vc])/\StaF w.heap.size (yQ sh l S kd n k) q' w'/\Below w.heap.size w w':=by
 obtain⟨e1,e2,e3,e4,hs⟩:=hq;rw[e1,e2,e3,e4];rcases hkd with rfl | rfl
 ·exact rZ la lc l q.sa q.ra q.wa q.va q.sc q.rc q.tc q.vc S sh n k w hl hs hp hF hn hk
 ·exact pU la lc l q.sa q.ra q.wa q.va q.sc q.rc q.tc q.vc S sh n k w hl hs hp hF hn hk
end
variable (la:Option Addr) (lc:Nat) (l:List TxA)
end
theorem Ua (h:p:=by
 obtain⟨sh',e,_,_,hc,hp,hf,_⟩:=aZ hst;have e':sh'=sh:=om;subst e';have h:=mQ (lc:=lc) (HL.out.below hb) (HS.out.below hb) hp (cH.1 hf);rw[hov]at h;exact h):p:=h
theorem Vj (h:p:=by
 rintro e w' ⟨rfl,hb⟩;exact⟨Q,0,rfl,nr,fun _ hi=>absurd hi (nl _),hb⟩):p:=h
section
section
variable {la:Option Addr} {lc:Nat} {l:List TxA} {q:Q4} {S:SA} {w:World}
theorem qV (m:Int) (hl:IsTxs w la l) (hq:StaQ S q w):Kr 89 #[ag #[Y I m,J la l.length lc],ag #[J q.sa q.sn q.sc,J q.ra q.rn q.rc,J q.wa q.wn q.tc,J q.va q.vn q.vc]] w (Y I (cZ m l S)):=by
 obtain⟨e1,e2,e3,e4,hs⟩:=hq;rw[e1,e2,e3,e4];exact kC la lc l q.sa q.ra q.wa q.va q.sc q.rc q.tc q.vc S m w hl hs
end
variable (la:Option Addr) (lc:Nat) (l:List TxA) (q:Q4) (S:SA)
theorem zI (m:Int) (w:World) (hl:IsTxs w la l) (hs:StaQ S q w) (hst:¬cZ m l S=0) :
  Kr 59 #[ag #[Y I m,J la l.length lc],ag #[J q.sa q.sn q.sc,J q.ra q.rn q.rc,J q.wa q.wn q.tc,J q.va q.vn q.vc]] w (tu #[J Q 0 0,Y I (cZ m l S)]):=by
 obtain⟨W,hWe⟩:=nm (((w.alloc (U #[Y I m,J la l.length lc] 29)).alloc (U #[J q.sa q.sn q.sc,J q.ra q.rn q.rc,J q.wa q.wn q.tc,J q.va q.vn q.vc] 45)));have hU:Hid (Below w.heap.size w W):=by subst hWe;exact(aA (aA br _) _)
 have p0:W.cell? ⟨w.heap.size,0,Q⟩=Y I m:=by subst hWe;exact aB (aA br _) (aF _ _ 29 _ 0 _ rfl rfl)
 have p1:W.cell? ⟨w.heap.size,1,Q⟩=J la l.length lc:=by subst hWe;exact aB (aA br _) (aF _ _ 29 _ 1 _ rfl rfl)
 have z0:W.cell? ⟨w.heap.size+1,0,Q⟩=J q.sa q.sn q.sc:=by subst hWe;exact aF _ _ 45 _ 0 _ sm rfl
 have z1:W.cell? ⟨w.heap.size+1,1,Q⟩=J q.ra q.rn q.rc:=by subst hWe;exact aF _ _ 45 _ 1 _ sm rfl
 have z2:W.cell? ⟨w.heap.size+1,2,Q⟩=J q.wa q.wn q.tc:=by subst hWe;exact aF _ _ 45 _ 2 _ sm rfl
 have z3:W.cell? ⟨w.heap.size+1,3,Q⟩=J q.va q.vn q.vc:=by subst hWe;exact aF _ _ 45 _ 3 _ sm rfl
 have KEEP:Hid (∀w',Below _ W w'->w'.cell? _=M _/\w'.cell? _=M _/\w'.cell? _=M _/\w'.cell? _=M _/\w'.cell? _=M _/\w'.cell? _=M _):=fun w' hb=>⟨aB hb p0,aB hb p1,aB hb z0,aB hb z1,aB hb z2,aB hb z3⟩
 have HL:=Hi (hl.below hU.out);have HS:=Hi (hs.below hU.out);have HWe:Hid (W=_):=hWe;clear p0 p1 z0 z1 z2 z3 hl hs hWe;have CC:Hid (Calls _ 89 #[ag #[Y I m,J la _ lc],ag _] W fun e w'=>e=rt _/\Below _ W w'):=qV m HL.out HS.out;generalize cZ m l S=E at *;go_enter func59,ntmps59
 go_upto_region 1 with fail
 rw[<-HWe.out];clear HWe;obtain⟨p0,p1,z0,z1,z2,z3⟩:=KEEP.out W br
 go_wp2_with fail
 refine CC.out.mono ?_;rintro e w1 ⟨rfl,hb1⟩;have B1:=Hi (aC hU.out hb1);clear hb1;exact Up
theorem vG (sh:Nat) (w:World) (hl:IsTxs w la l) (hs:StaQ S q w) (hst:cZ (sh:Int) l S=0) (hov:dB sh l S=false) :
  Kr 59 #[ag #[Y I sh,J la l.length lc],ag #[J q.sa q.sn q.sc,J q.ra q.rn q.rc,J q.wa q.wn q.tc,J q.va q.vn q.vc]] w (tu #[J Q 0 0,Y I 8]):=by
 obtain⟨W,hWe⟩:=nm (((w.alloc (U #[Y I sh,J la l.length lc] 29)).alloc (U #[J q.sa q.sn q.sc,J q.ra q.rn q.rc,J q.wa q.wn q.tc,J q.va q.vn q.vc] 45)));have hU:Hid (Below w.heap.size w W):=by subst hWe;exact(aA (aA br _) _)
 have p0:W.cell? ⟨w.heap.size,0,Q⟩=Y I sh:=by subst hWe;exact aB (aA br _) (aF _ _ 29 _ 0 _ rfl rfl)
 have p1:W.cell? ⟨w.heap.size,1,Q⟩=J la l.length lc:=by subst hWe;exact aB (aA br _) (aF _ _ 29 _ 1 _ rfl rfl)
 have z0:W.cell? ⟨w.heap.size+1,0,Q⟩=J q.sa q.sn q.sc:=by subst hWe;exact aF _ _ 45 _ 0 _ sm rfl
 have z1:W.cell? ⟨w.heap.size+1,1,Q⟩=J q.ra q.rn q.rc:=by subst hWe;exact aF _ _ 45 _ 1 _ sm rfl
 have z2:W.cell? ⟨w.heap.size+1,2,Q⟩=J q.wa q.wn q.tc:=by subst hWe;exact aF _ _ 45 _ 2 _ sm rfl
 have z3:W.cell? ⟨w.heap.size+1,3,Q⟩=J q.va q.vn q.vc:=by subst hWe;exact aF _ _ 45 _ 3 _ sm rfl
 have KEEP:Hid (∀w',Below _ W w'->w'.cell? _=M _/\w'.cell? _=M _/\w'.cell? _=M _/\w'.cell? _=M _/\w'.cell? _=M _/\w'.cell? _=M _):=fun w' hb=>⟨aB hb p0,aB hb p1,aB hb z0,aB hb z1,aB hb z2,aB hb z3⟩
 have HL:=Hi (hl.below hU.out);have HS:=Hi (hs.below hU.out);have HWe:Hid (W=_):=hWe;clear p0 p1 z0 z1 z2 z3 hl hs hWe
 have CC:Hid (Kr 89 #[ag #[Y I sh,J la l.length lc],ag #[J q.sa q.sn q.sc,J q.ra q.rn q.rc,J q.wa q.wn q.tc,J q.va q.vn q.vc]] W (Y I 0)):=by
  have h:=qV (lc:=lc) (sh:Int) HL.out HS.out;rw[hst]at h;exact h
 have CV:Hid (∀w',Below _ W w'->Calls _ 55 _ w' fun e w''=>e=rt _/\Below _ w' w''):=fun w' hb=>by
  exact Ua
 clear hst hov;go_enter func59,ntmps59
 go_upto_region 1 with fail
 rw[<-HWe.out];clear HWe;obtain⟨p0,p1,z0,z1,z2,z3⟩:=KEEP.out W br
 go_wp2_with fail
 refine CC.out.mono ?_;rintro e w1 ⟨rfl,hb1⟩;clear p0 p1 z0 z1 z2 z3;obtain⟨p0,p1,z0,z1,z2,z3⟩:=KEEP.out w1 hb1
 go_wp2_with fail
 refine(CV.out _ hb1).mono ?_;rintro e w2 ⟨rfl,hb2⟩;have B2:=Hi (aC hU.out (aC hb1 hb2));clear hb1 hb2 p0 p1 z0 z1 z2 z3;go_wp2;go_ret2;exact⟨rfl,B2.out⟩
theorem zJ (sh:Nat) (w:World) (hl:IsTxs w la l) (hs:StaQ S q w) (hst:cZ (sh:Int) l S=0) (hov:dB sh l S=true) :
  Calls prog 59 #[ag #[Y I sh,J la l.length lc],ag #[J q.sa q.sn q.sc,J q.ra q.rn q.rc,J q.wa q.wn q.tc,J q.va q.vn q.vc]] w fun e w'=>∃xa xc,e=rt (tu #[J xa (jZ l S l.length).length xc,Y I 0])/\(jZ l S l.length).length<=xc/\IsRes w' xa (jZ l S l.length)/\Below w.heap.size w w':=by
 obtain⟨W,hWe⟩:=nm (((w.alloc (U #[Y I sh,J la l.length lc] 29)).alloc (U #[J q.sa q.sn q.sc,J q.ra q.rn q.rc,J q.wa q.wn q.tc,J q.va q.vn q.vc] 45)));have hU:Hid (Below w.heap.size w W):=by subst hWe;exact(aA (aA br _) _)
 have p0:W.cell? ⟨w.heap.size,0,Q⟩=Y I sh:=by subst hWe;exact aB (aA br _) (aF _ _ 29 _ 0 _ rfl rfl)
 have p1:W.cell? ⟨w.heap.size,1,Q⟩=J la l.length lc:=by subst hWe;exact aB (aA br _) (aF _ _ 29 _ 1 _ rfl rfl)
 have z0:W.cell? ⟨w.heap.size+1,0,Q⟩=J q.sa q.sn q.sc:=by subst hWe;exact aF _ _ 45 _ 0 _ sm rfl
 have z1:W.cell? ⟨w.heap.size+1,1,Q⟩=J q.ra q.rn q.rc:=by subst hWe;exact aF _ _ 45 _ 1 _ sm rfl
 have z2:W.cell? ⟨w.heap.size+1,2,Q⟩=J q.wa q.wn q.tc:=by subst hWe;exact aF _ _ 45 _ 2 _ sm rfl
 have z3:W.cell? ⟨w.heap.size+1,3,Q⟩=J q.va q.vn q.vc:=by subst hWe;exact aF _ _ 45 _ 3 _ sm rfl
 have KEEP:Hid (∀w',Below _ W w'->w'.cell? _=M _/\w'.cell? _=M _/\w'.cell? _=M _/\w'.cell? _=M _/\w'.cell? _=M _/\w'.cell? _=M _):=fun w' hb=>⟨aB hb p0,aB hb p1,aB hb z0,aB hb z1,aB hb z2,aB hb z3⟩
 have HL:=Hi (hl.below hU.out);have HS:=Hi (hs.below hU.out);have HWe:Hid (W=_):=hWe;clear p0 p1 z0 z1 z2 z3 hl hs hWe
 have CC:Hid (Kr 89 #[ag #[Y I sh,J la l.length lc],ag #[J q.sa q.sn q.sc,J q.ra q.rn q.rc,J q.wa q.wn q.tc,J q.va q.vn q.vc]] W (Y I 0)):=by
  have h:=qV (lc:=lc) (sh:Int) HL.out HS.out;rw[hst]at h;exact h
 have CV:Hid (∀w',Below _ W w'->Calls _ 55 _ w' fun e w''=>e=rt _/\Below _ w' w''):=fun w' hb=>by
  exact Ua
 have hl8:l.length<=8:=by
  obtain⟨sh,_,_,_,hc,_⟩:=aZ hst;exact cJ hc
 have HV:=Hi HS.out.2.2.2.2.vs;have HN:=Hi HS.out.2.2.2.1;have HST:=Hi hst;clear hst hov HS;go_enter func59,ntmps59
 go_upto_region 1 with fail
 rw[<-HWe.out];clear HWe;obtain⟨p0,p1,z0,z1,z2,z3⟩:=KEEP.out W br
 go_wp2_with fail
 refine CC.out.mono ?_;rintro e w1 ⟨rfl,hb1⟩;clear p0 p1 z0 z1 z2 z3;obtain⟨p0,p1,z0,z1,z2,z3⟩:=KEEP.out w1 hb1
 go_wp2_with fail
 refine(CV.out _ hb1).mono ?_;rintro e w2 ⟨rfl,hb2⟩;have B2:=Hi (aC hb1 hb2);clear hb1 hb2 p0 p1 z0 z1 z2 z3 CC CV;go_wp2
 go_loopw [7,8] (fun v i wr=>∃(k:Nat) (rl:List RsA),k<=l.length/\i=Y I k/\Hid (ResRow W.heap.size wr v rl)/\Hid (rl.map RsA.told=jZ l S k)/\Hid (Below W.heap.size W wr)) (fun _ i _=>l.length - (intOf i).toNat)
 case atStart=>exact⟨0,[],nz,rfl,kS _ _,rfl,B2⟩
 case round=>
  clear B2;obtain⟨k,rl,hk,rfl,hres,htold,hbl⟩:=hrel;obtain⟨p0,p1,z0,z1,z2,z3⟩:=KEEP.out wr hbl.out;by_cases hlt:k<l.length
  ·obtain⟨b,off,rfl,hb,c0,c1,c2,hx⟩:=HL.out k hlt;have d0:=aB hbl.out c0;have d1:=aB hbl.out c1;have d2:=aB hbl.out c2;obtain⟨hrun,hvl⟩:=st_runE HST.out hlt;obtain⟨vb,vo,za,zc,hva,hvb,r0,hz,hzn⟩:=HV.out k om;have HX:Hid (IsX W (gX l k)):=hx;have HT:=Hi (aAf l S k);have HR1:=Hi (resL_len l S k);have HZ:=Hi hz;have hvn:k<q.vn:=by rw[HN.out];omega
   have i1:(k:Int)<(l.length:Int):=om
   have hZL:(S.vs.getD k []).length=(gX l k).rs.length:=by
    obtain⟨sh',e,_,_,hc,hp,hf,_⟩:=aZ HST.out;exact(cH.1 hf).vn k hlt
   have hck:bP (gX l k).rs (gX l k).gs (gX l k).ss=0:=by
    obtain⟨sh',e,_,_,hc,hp,hf,_⟩:=aZ HST.out;exact eG hc k hlt
   rw[hva]at z3;change wr.cell? ⟨b,off+k*3,Q⟩=M (J (gX l k).ra (gX l k).rs.length (gX l k).rc) at d0;change wr.cell? ⟨b,off+k*3+1,Q⟩=M (J (gX l k).ga (gX l k).gs.length (gX l k).gc) at d1;change wr.cell? ⟨b,off+k*3+2,Q⟩=M (J (gX l k).sa (gX l k).ss.length (gX l k).sc) at d2;generalize gX l k=x at *;obtain⟨ra,ga,sa,rc,gc,sc,rs,gs,ss⟩:=x;simp only at d0 d1 d2 HT hck hZL;generalize S.vs.getD k []=Z at *;have hsm:=bI _ _ _ (bR hck).1;obtain⟨Mm,hM⟩:=nm ((aS Z gs ss).length)
   have CX0:Hid (∀w',Below _ W w'->Calls _ 95 _ w' fun e w''=>∃va vc ma mc,e=rt (tu #[ag #[bo _,J va _ vc],J ma Mm mc])/\IsAt _ w''.heap.size w'' va Z/\Below _ w' w''):=fun w' hb=>by
    have h:=tG ra ga sa rc gc sc rs gs ss za zc Z w' (HX.out.t.below hb) (HZ.out.below hb) hzn (by rw[hZL];exact hsm.1) hZL (bR hck).2.2.1 (bR hck).2.2.2 hsm.2.2.1 hsm.2.1;rw[<-hM]at h;exact Vy
   generalize hD:dU Z gs=D at *;have CX:=CX0
   have hrl:rl.length<=100:=by
    exact zj
   have r0:=aB hbl.out r0;clear c0 c1 c2 hx hz hrun hM HX HZ hb hvb hzn hva hZL hck hsm CX0 hD
   go_upto_region 10 with fail
   obtain⟨V,hVe⟩:∃V:World,wr=V:=⟨_,rfl⟩;subst hVe;have hown:=Hi (fun j hj=>hres.out.1.lt j hj);have KS:Hid (∀w',Below _ wr w'->w'.cell? _=M _/\w'.cell? _=M _/\w'.cell? _=M _/\w'.cell? _=M _/\w'.cell? _=M _/\w'.cell? _=M _):=fun w' hb=>⟨aB hb p1,aB hb d0,aB hb d1,aB hb d2,aB hb z3,aB hb r0⟩
   clear p0 p1 z0 z1 z2 z3 d0 d1 d2 r0;refine wp_region_held_drew (S:=(fun w'=>w'.cell? ⟨w.heap.size,1,Q⟩=J (M ⟨b,off,Q⟩) l.length lc/\w'.cell? ⟨b,off+k*3,Q⟩=J ra rs.length rc/\w'.cell? ⟨b,off+k*3+1,Q⟩=J ga gs.length gc/\w'.cell? ⟨b,off+k*3+2,Q⟩=J sa ss.length sc/\w'.cell? ⟨w.heap.size+1,3,Q⟩=J (M ⟨vb,vo,Q⟩) q.vn q.vc/\w'.cell? ⟨vb,vo+k,Q⟩=J za Z.length zc)) kr ?_ (fun hHeld=>?_)
   ·exact KS.out _ (aD br)
   refine tk 0 ?_;refine tk 1 ?_;refine tk 2 ?_;refine tk 3 ?_;refine tk 4 ?_;refine tk 5 ?_;refine tk 6 ?_;refine tk 7 ?_;refine tk 8 ?_;refine tk 9 ?_;refine wpAnyH_ready (rs:=[10,14]) kr sm ?_;refine rq (fun K hK=>?_) (rq (fun K hK=>?_) (AllReadyH.nil))
   focus
    go_simp
    go_wp2_with (go_at_call 95;refine(CX.out _ (aC hbl.out (aD br))).mono ?_;rintro e w3 ⟨va,vc,ma,mc,rfl,hva,hb3⟩)
    have B3:=Hi (aC (aD br) hb3);clear hHeld;refine hK.out _ _ (KS.out _ B3.out) (fun hHeld=>?_);clear hK K;refine tk 11 ?_;refine tk 12 ?_;refine tk 13 ?_;refine r1 14 (fun K hK=>?_);go_simp;skip;clear hHeld;refine hK.out _ _ (KS.out _ (aA B3.out _)) (fun hHeld=>?_);clear hK K;refine r1 15 (fun K hK=>?_);go_simp;have FB:Hid (Below _ wr (w3.alloc (U #[bo D,J va Z.length vc] 148))):=aA B3.out _;clear hHeld;refine hK.out _ _ (KS.out _ FB.out) (fun hHeld=>?_);clear hK K;refine tk 16 ?_;refine wpAnyH_done kr ?_ _;have g0:(w3.alloc (U #[bo D,J va Z.length vc] 148)).cell? _=bo D:=aF _ _ 148 _ 0 _ rfl rfl;have g1:(w3.alloc (U #[bo D,J va Z.length vc] 148)).cell? _=J va _ vc:=aF _ _ 148 _ 1 _ rfl rfl;have FU:Hid (letI E:=w3.alloc (U #[bo D,J va Z.length vc] 148);IsAt wr.heap.size E.heap.size E va Z):=(hva.below (aA br _)).widen sm sm;clear hHeld hva hb3 B3 KS CX;generalize (w3.alloc (U #[bo D,J va Z.length vc] 148))=Uuu at *
   rotate_left
   focus
    go_simp;skip;clear hHeld;refine hK.out _ _ (KS.out _ (aD (aA br _))) (fun hHeld=>?_);clear hK K;refine r1 10 (fun K hK=>?_);go_simp
    go_wp2_with (go_at_call 95;refine(CX.out _ (aC hbl.out (aD (aA br _)))).mono ?_;rintro e w3 ⟨va,vc,ma,mc,rfl,hva,hb3⟩)
    have B3:=Hi (aC (aD (aA br _)) hb3);have f0:w3.cell? _=bo false:=aB hb3 (aF wr _ 148 _ 0 _ rfl rfl);have f1:w3.cell? _=J Q 0 0:=aB hb3 (aF wr _ 148 _ 1 _ rfl rfl);have ff:=fun j=>(hb3.frozen (p:=⟨wr.heap.size,j,Q⟩) sm).trans (aU wr _ 148 _ j rfl)
    have FB:Hid (Below _ wr ((w3.setCell ⟨wr.heap.size,0,Q⟩ (bo D)).setCell ⟨wr.heap.size,1,Q⟩ (J va Z.length vc))):=aG (aG B3.out nr _) nr _;clear hHeld;refine hK.out _ _ (KS.out _ B3.out) (fun hHeld=>?_);clear hK K;refine tk 11 ?_;refine tk 12 ?_;refine tk 13 ?_;refine r1 15 (fun K hK=>?_);go_simp;skip;clear hHeld;refine hK.out _ _ (KS.out _ FB.out) (fun hHeld=>?_);clear hK K;refine tk 16 ?_;refine wpAnyH_done kr ?_ _;have g0:((w3.setCell _ (bo D)).setCell ⟨_,1,Q⟩ (J va Z.length vc)).cell? _=M _:=aE dc (aK f0);have g1:((w3.setCell ⟨_,0,Q⟩ (bo D)).setCell _ _).cell? _=J va Z.length vc:=aK (aE dc f1);have FU:Hid (IsAt wr.heap.size ((w3.setCell ⟨wr.heap.size,0,Q⟩ (bo D)).setCell ⟨wr.heap.size,1,Q⟩ (J va Z.length vc)).heap.size ((w3.setCell _ (bo D)).setCell _ (J va Z.length vc)) va Z):=((hva.set ⟨wr.heap.size,0,Q⟩ _ (.inl sm)).set ⟨wr.heap.size,1,Q⟩ _ (.inl sm)).widen sm sm;clear hHeld f0 f1 ff hva hb3 B3 KS CX;generalize ((w3.setCell ⟨wr.heap.size,0,Q⟩ (bo D)).setCell ⟨wr.heap.size,1,Q⟩ (J va Z.length vc))=Uuu at *
   rotate_left
   all_goals
    have hresU:=Hi (hres.out.below FB.out);have hblU:=Hi (aC hbl.out FB.out);have hVw:=Hi hbl.out.size;clear FB
    have hfar:Hid (∀{zs:List Int} {q:Option Addr},IsAt wr.heap.size Uuu.heap.size Uuu q zs->zs≠[]->∀ad,q=M ad->_≠M ad.block):=fun h hne ad had e=>by
     exact Ui
    go_wp2_with (first
     | (at_builtin;refine iW rfl _ _ rfl W.heap.size u7 rl ⟨va,vc,D,Z⟩ rfl (hresU.out.below (aA br _)) ⟨Uuu.heap.size,0,Q⟩ 1 rfl (vS Uuu D _ _ rfl) (((FU.out.below (aA br _))).widen hVw.out sm) (hfar.out FU.out) hrl (nh hblU.out.size sm) ?_;intro v' w5 hres5 hg5)
     | go_in)
    exact vz
  ·have hkk:k=l.length:=om
   have n3:Hid (rl.map RsA.told=jZ l S l.length):=by
    have h:=htold.out;rw[hkk]at h;exact h
   have i1:¬(k:Int)<(l.length:Int):=om;obtain⟨xa,xc,rfl,hX,hcap⟩:=hres.out.res2;rw[n3.out]at hX hcap;have HCP:=Hi hcap;clear hcap;rw[n3.out];have HXX:=Hi hX;have BF:=Hi (aC hU.out hbl.out);clear htold hX hres hbl hlt n3;go_wp2;go_ret2
   first | exact⟨xa,xc,rfl,HCP.out,HXX.out,BF.out⟩ | exact⟨xa,⟨xc,rfl,HCP.out⟩,HXX.out,BF.out⟩ | exact⟨xa,xc,⟨rfl,HCP.out⟩,HXX.out,BF.out⟩
theorem oN (m:Int) (w:World) (hl:IsTxs w la l) (hs:StaQ S q w) :
  Calls prog 59 #[ag #[Y I m,J la l.length lc],ag #[J q.sa q.sn q.sc,J q.ra q.rn q.rc,J q.wa q.wn q.tc,J q.va q.vn q.vc]] w fun e w'=>∃xa xc,e=rt (tu #[J xa (iV m l S).length xc,Y I (lD m l S)])/\(iV m l S).length<=xc/\IsRes w' xa (iV m l S)/\Below w.heap.size w w':=by
 by_cases hst:cZ m l S=0
 ·obtain⟨sh,rfl,_⟩:=aZ hst
  have eo:lY (sh:Int) l S=dB sh l S:=by
   have h:lY (sh:Int) l S=dB (sh:Int).toNat l S:=if_pos hst;rw[h,lq]
  cases ho:dB sh l S with
  | true=>
   have e1:lD (sh:Int) l S=0:=by unfold lD;rw[if_pos hst,eo,ho];rfl
   have e2:iV (sh:Int) l S=jZ l S _:=if_pos e1;rw[e1,e2];exact zJ la lc l q S sh w hl hs hst ho
  | false=>
   have e1:lD (sh:Int) l S=8:=by unfold lD;rw[if_pos hst,eo,ho];rfl
   have e2:iV (sh:Int) l S=[]:=if_neg (by rw[e1];decide);rw[e1,e2];refine(vG la lc l q S sh w hl hs hst ho).mono ?_;exact Vj
 ·have e1:lD m l S=cZ m l S:=if_neg hst;have e2:iV m l S=[]:=if_neg (by rw[e1];exact hst);rw[e1,e2];refine(zI la lc l q S m w hl hs hst).mono ?_;exact Vj
end
theorem ua (h:p:=by
 clear hHeld;refine hK.out _ _ ((fun h=>⟨h.1,h.2.1⟩) (KS.out _ B3.out)) (fun hHeld=>?_);clear hK K;refine r1 7 (fun K hK=>?_);go_simp
 go_wp2_with (go_at_call 93;refine(CD.out _ B3.out).mono ?_;rintro e w4 ⟨q5,rfl,h5,hb4⟩)
 have B4:=Hi (aC B3.out hb4);have z0:=aB B4.out o0;have z1:=aB B4.out o1;have z2:=aB B4.out o2;have z3:=aB B4.out o3;have zf:=fun j=>(B4.out.frozen (p:=⟨w.heap.size+1,j,Q⟩) (np V ⟨w.heap.size+1,0,Q⟩ o0)).trans (of_ j)
 obtain⟨YY,PFz,HK5,BP⟩:=tI (lo:=w.heap.size) (R0:=w.heap.size+2) hB2.out B4.out hUO.out o0 o1 o2 o3 of_ h5 (by have:=B3.out.size;have:=hVs;omega) (show w.heap.size<=_ by omega) om (by have:=B3.out.size;have:=hVs;omega);have RS:Hid (letI Z:=(w4.setCell ⟨w.heap.size+1,0,Q⟩ (J q5.sa q5.sn q5.sc)).setCell ⟨w.heap.size+1,1,Q⟩ (J q5.ra q5.rn q5.rc);((Z.setCell ⟨w.heap.size+1,2,Q⟩ (J q5.wa q5.wn q5.tc)).setCell ⟨w.heap.size+1,3,Q⟩ (J q5.va q5.vn q5.vc)).cell? ⟨w.heap.size+2,0,Q⟩=J Q 0 0/\((((w4.setCell _ (J q5.sa q5.sn q5.sc)).setCell _ (J q5.ra q5.rn q5.rc)).setCell _ (J q5.wa q5.wn q5.tc)).setCell ⟨w.heap.size+1,3,Q⟩ (J q5.va q5.vn q5.vc)).cell? _=J Q 0 0/\((Z.setCell _ (J q5.wa q5.wn q5.tc)).setCell ⟨w.heap.size+1,3,Q⟩ (J q5.va q5.vn q5.vc)).cell? _=J Q 0 0/\((Z.setCell ⟨w.heap.size+1,2,Q⟩ (J q5.wa q5.wn q5.tc)).setCell ⟨w.heap.size+1,3,Q⟩ (J q5.va q5.vn q5.vc)).cell? ⟨w.heap.size+2,3,Q⟩=J Q 0 0):=⟨cU om (aB B4.out s0),cU om (aB B4.out s1),cU om (aB B4.out s2),cU om (aB B4.out s3)⟩
 have RZ:Hid (∀j,((((w4.setCell ⟨w.heap.size+1,0,Q⟩ (J q5.sa q5.sn q5.sc)).setCell ⟨w.heap.size+1,1,Q⟩ (J q5.ra q5.rn q5.rc)).setCell ⟨w.heap.size+1,2,Q⟩ (J q5.wa q5.wn q5.tc)).setCell ⟨w.heap.size+1,3,Q⟩ (J q5.va q5.vn q5.vc)).frozen? _=false):=fun j=>by
  have h:=(B4.out.frozen (p:=⟨w.heap.size+2,j,Q⟩) (np V ⟨w.heap.size+2,0,Q⟩ s0)).trans (sf j);simpa using h
 have PF:Hid (((((w4.setCell _ _).setCell ⟨w.heap.size+1,1,Q⟩ _).setCell _ _).setCell _ (J q5.va q5.vn q5.vc)).cell? _=Y I sh/\((((w4.setCell _ _).setCell _ _).setCell _ (J q5.wa q5.wn q5.tc)).setCell ⟨w.heap.size+1,3,Q⟩ (J q5.va q5.vn q5.vc)).cell? ⟨w.heap.size,1,Q⟩=J la l.length lc):=⟨cU om (KS.out _ B4.out).1,cU om (KS.out _ B4.out).2.1⟩;clear hHeld;refine hK.out _ _ ((fun h=>⟨h.1,h.2.1⟩) (KS.out _ B4.out)) (fun hHeld=>?_);clear hK K;refine r1 8 (fun K hK=>?_);go_simp;skip;clear hHeld;refine hK.out _ _ (PF.out) (fun hHeld=>?_);clear hK K;refine wpAnyH_done kr ?_ _;clear hHeld KS CN CD;go_wp2;go_roundw
 case rel=>exact⟨i+1,q5,hlt,by go_num,YY,PFz,RS,RZ,HK5,(fun h=>by omega),BP⟩
 case measure=>simp[intOf];omega):p:=h
theorem us (h:p:=by
 go_simp;obtain⟨_,_,n0,n1,n2,n3⟩:=KS.out _ (aD br);go_simp;clear n0 n1 n2 n3;clear hHeld;refine hK.out _ _ ((fun h=>⟨h.1,h.2.1⟩) (KS.out _ (aD br))) (fun hHeld=>?_);clear hK K;refine r1 4 (fun K hK=>?_);go_simp
 go_wp2_with (go_at_call 57;refine(CN.out _ (aD br)).mono ?_;rintro e w3 ⟨a,c,rfl,hsp,hb3⟩)
 have B3:=Hi (aC (aD br) hb3);obtain⟨sb,so,es,_,c0,c1,c2⟩:=hsp 0 hL0;subst es;rw[Nat.zero_mul,Nat.add_zero]at c0 c1 c2;clear hsp hb3;generalize ((L.getD 0 (0,0,0)).1:Nat)=x1 at *;generalize ((L.getD 0 (0,0,0)).2.1:Nat)=x2 at *;generalize ((L.getD 0 (0,0,0)).2.2:Nat)=x3 at *;have hL0':(0:Int)<(L.length:Int):=om;clear hHeld;refine hK.out _ _ ((fun h=>⟨h.1,h.2.1⟩) (KS.out _ B3.out)) (fun hHeld=>?_);clear hK K;refine tk 5 ?_;refine r1 6 (fun K hK=>?_);go_simp;skip;exact ua):p:=h
section
def lf (a b:Nat):Nat->Nat
 | 0=>a
 | _+1=>b
variable (la:Option Addr) (lc:Nat) (l:List TxA)
theorem docRest_two (sh:Nat) (X:Nat->SA) (K:Nat) (q:Q4) (w:World) (hl:IsTxs w la l) (lo:Nat) (hq:StaF lo (X 0) q w) (hp:aN (sh:Int) l=0) (hR:RW sh l X K) :
  Calls prog 58 #[ag #[Y I sh,J la l.length lc],ag #[J q.sa q.sn q.sc,J q.ra q.rn q.rc,J q.wa q.wn q.tc,J q.va q.vn q.vc]] w fun e w'=>∃q':Q4,e=rt (tu #[ag #[J q'.sa q'.sn q'.sc,J q'.ra q'.rn q'.rc,J q'.wa q'.wn q'.tc,J q'.va q'.vn q'.vc],Y I (K:Nat)])/\StaF (lf lo w.heap.size K) (X K) q' w'/\(K=0->q'=q)/\Below w.heap.size w w':=by
 obtain⟨qz,hqz⟩:=nm (q);have HQZ:=Hi hqz;clear hqz;have hK64:=hR.few;have WF:=Hi hR.fm;have WOV:=Hi hR.ov;have WR:=Hi hR;have HP:=Hi hp;obtain⟨Uuu,hUe⟩:=nm ((w.alloc (U #[Y I sh,J la l.length lc] 29)));obtain⟨W,hWe⟩:=nm ((((w.alloc (U #[Y I sh,J la l.length lc] 29)).alloc (U #[J q.sa q.sn q.sc,J q.ra q.rn q.rc,J q.wa q.wn q.tc,J q.va q.vn q.vc] 45)).alloc (U #[J Q 0 0,J Q 0 0,J Q 0 0,J Q 0 0] 45)));have szU:Hid (Uuu.heap.size=w.heap.size+1):=by subst hUe;show _=_;simp
 have szW:Hid (W.heap.size=w.heap.size+3):=by subst hWe;show _=_;simp
 have hU:Hid (Below w.heap.size w Uuu):=by subst hUe;exact(aA br _)
 have hUW:Hid (Below Uuu.heap.size Uuu W):=by subst hUe hWe;exact(aA (aA br _) _)
 have p0:Uuu.cell? ⟨w.heap.size,0,Q⟩=Y I sh:=by subst hUe;exact aF _ _ 29 _ 0 _ rfl rfl
 have p1:Uuu.cell? ⟨w.heap.size,1,Q⟩=J la l.length lc:=by subst hUe;exact aF _ _ 29 _ 1 _ rfl rfl
 have O0:Hid (W.cell? ⟨w.heap.size+1,0,Q⟩=J q.sa q.sn q.sc/\W.cell? ⟨w.heap.size+1,1,Q⟩=J q.ra q.rn q.rc/\W.cell? ⟨w.heap.size+1,2,Q⟩=J q.wa q.wn q.tc/\W.cell? ⟨w.heap.size+1,3,Q⟩=J q.va q.vn q.vc):=by subst hWe;exact⟨aB (aA br _) (aF _ _ 45 _ 0 _ sm rfl),aB (aA br _) (aF _ _ 45 _ 1 _ sm rfl),aB (aA br _) (aF _ _ 45 _ 2 _ sm rfl),aB (aA br _) (aF _ _ 45 _ 3 _ sm rfl)⟩
 have OF0:Hid (∀j,W.frozen? ⟨w.heap.size+1,j,Q⟩=false):=by subst hWe;exact fun j=>(((aA br _):Below _ _ _).frozen (p:=⟨w.heap.size+1,j,Q⟩) sm).trans (aU _ _ 45 _ j sm)
 have R0:Hid (W.cell? ⟨w.heap.size+2,0,Q⟩=J Q 0 0/\W.cell? ⟨w.heap.size+2,1,Q⟩=J Q 0 0/\W.cell? ⟨w.heap.size+2,2,Q⟩=J Q 0 0/\W.cell? ⟨w.heap.size+2,3,Q⟩=J Q 0 0):=by subst hWe;exact⟨aF _ _ 45 _ 0 _ sm rfl,aF _ _ 45 _ 1 _ sm rfl,aF _ _ 45 _ 2 _ sm rfl,aF _ _ 45 _ 3 _ sm rfl⟩
 have RF0:Hid (∀j,W.frozen? ⟨w.heap.size+2,j,Q⟩=false):=by subst hWe;exact fun j=>aU _ _ 45 _ j sm
 have K0:Hid (KO lo w.heap.size (w.heap.size+2) (X 0) q W):=hq.ko0 (aC hU.out hUW.out);have KEEP:Hid (∀w',Below _ Uuu w'->w'.cell? _=M _/\w'.cell? _=M _):=fun w' hb=>⟨aB hb p0,aB hb p1⟩
 have HL:=Hi (hl.below hU.out);have hUO:Hid (Uuu.heap.size<=w.heap.size+1):=by show _<=_;have:=szU.out;omega
 have hUR:Hid (Uuu.heap.size<=w.heap.size+2):=by show _<=_;have:=szU.out;omega
 have HWe:Hid (W=_):=hWe;clear hl hq hp hR p0 p1 hWe hUe;go_enter func58,ntmps58
 go_upto_region 1 with fail
 rw[<-HWe.out];clear HWe;go_wp2
 go_loopw [6] (fun c wr=>∃(i:Nat) (q:Q4),i<=K/\c=Y I (i:Nat)/\Hid (wr.cell? ⟨w.heap.size+1,0,Q⟩=J q.sa q.sn q.sc/\wr.cell? ⟨w.heap.size+1,1,Q⟩=J q.ra q.rn q.rc/\wr.cell? ⟨w.heap.size+1,2,Q⟩=J q.wa q.wn q.tc/\wr.cell? ⟨w.heap.size+1,3,Q⟩=J q.va q.vn q.vc)/\Hid (∀j,wr.frozen? ⟨w.heap.size+1,j,Q⟩=false)/\Hid (wr.cell? ⟨w.heap.size+2,0,Q⟩=J Q 0 0/\wr.cell? ⟨w.heap.size+2,1,Q⟩=J Q 0 0/\wr.cell? ⟨w.heap.size+2,2,Q⟩=J Q 0 0/\wr.cell? ⟨w.heap.size+2,3,Q⟩=J Q 0 0)/\Hid (∀j,wr.frozen? ⟨w.heap.size+2,j,Q⟩=false)/\Hid (KO (lf lo w.heap.size i) w.heap.size (w.heap.size+2) (X i) q wr)/\Hid (i=0->q=qz)/\Hid (Below Uuu.heap.size Uuu wr)) (fun c _=>K - (intOf c).toNat)
 case atStart=>exact⟨0,q,nz,rfl,O0,OF0,R0,RF0,K0,(fun _=>HQZ.out.symm),hUW⟩
 case round=>
  clear O0 OF0 R0 RF0 K0 hUW szW;obtain⟨i,q,hi,rfl,OCC,OF,RCC,RF,HK,HQI,hB⟩:=hrel;obtain⟨o0,o1,o2,o3⟩:=OCC.out;obtain⟨s0,s1,s2,s3⟩:=RCC.out;obtain⟨p0,p1⟩:=KEEP.out wr hB.out
  have CV:Hid (Kr 55 #[ag #[Y I sh,J la l.length lc],ag #[J q.sa q.sn q.sc,J q.ra q.rn q.rc,J q.wa q.wn q.tc,J q.va q.vn q.vc]] wr (bo (decide (i=K)))):=by
   have h:=mQ (lc:=lc) (HL.out.below hB.out) HK.out.sta HP.out (WF.out i hi);rw[WOV.out i hi]at h;exact h
  go_wp2_with fail
  refine CV.out.mono ?_;rintro e V ⟨rfl,hb1⟩;have hwr:_+2<_:=np wr ⟨w.heap.size+2,0,Q⟩ s0;have HK2:=Hi (HK.out.below hb1);have hB2:=Hi (aC hB.out hb1);have of_:=fun j=>(hb1.frozen (p:=⟨w.heap.size+1,j,Q⟩) (show w.heap.size+1<_ by omega)).trans (OF.out j)
  have sf:=fun j=>(hb1.frozen (p:=⟨w.heap.size+2,j,Q⟩) hwr).trans (RF.out j)
  have hVs:=nd hwr hb1.size;have o0:=aB hb1 o0;have o1:=aB hb1 o1;have o2:=aB hb1 o2;have o3:=aB hb1 o3;have s0:=aB hb1 s0;have s1:=aB hb1 s1;have s2:=aB hb1 s2;have s3:=aB hb1 s3;have p0:=aB hb1 p0;have p1:=aB hb1 p1;clear hb1 CV OCC OF RCC RF HK hB hwr;by_cases hend:i=K
  ·rw[decide_eq_true hend];subst hend;obtain⟨y0,y1,y2,y3⟩:=nY q s0 s1 s2 s3;have FS:Hid (StaF _ (X i) q ((((V.setCell _ (J q.sa q.sn q.sc)).setCell _ (J q.ra q.rn q.rc)).setCell _ (J q.wa q.wn q.tc)).setCell _ (J q.va q.vn q.vc))):=((((HK2.out.set om nr 0 _).set om nr 1 _).set om nr 2 _).set om nr 3 _).staF;have FB:Hid (Below _ w ((((V.setCell ⟨_+2,0,Q⟩ (J q.sa q.sn q.sc)).setCell ⟨_+2,1,Q⟩ (J q.ra q.rn q.rc)).setCell ⟨_+2,2,Q⟩ (J q.wa q.wn q.tc)).setCell ⟨_+2,3,Q⟩ (J q.va q.vn q.vc))):=aC hU.out (aG (aG (aG (aG hB2.out hUR.out _) hUR.out _) hUR.out _) hUR.out _);go_wp2;refine bodyPost_ret (v:=tu #[ag #[J q.sa q.sn q.sc,J q.ra q.rn q.rc,J q.wa q.wn q.tc,J q.va q.vn q.vc],Y I (i:Nat)]) (by simp[results,results58,go_sem,y0,y1,y2,y3]) rfl ⟨q,rfl,FS.out,fun h=>(HQI.out h).trans HQZ.out,FB.out⟩
  ·rw[decide_eq_false hend];have hlt:i<K:=om;have hL0:=WR.out.can i hlt;have CN:Hid (∀w',Below _ V w'->Calls _ 57 #[ag #[Y I sh,J la _ lc],ag _] w' fun e w''=>∃a c,e=rt _/\IsSteps w'' a _/\Below _ w' w''):=fun w' hb=>docCan_q (HL.out.below (aC hB2.out hb)) (HK2.out.below hb).sta HP.out (WF.out i hi)
   have CD:Hid (∀w',Below _ V w'->Calls _ 93 _ w' fun e w''=>∃q':Q4,e=rt _/\StaF _ _ q' w''/\Below _ w' w''):=fun w' hb=>by
    have h:=docDone_q (lc:=lc) (HL.out.below (aC hB2.out hb)) (HK2.out.below hb).sta HP.out (WF.out i hi) (WR.out.kd i hlt) (WR.out.tx i hlt) (WR.out.sd i hlt);rw[WR.out.nx i hlt]at h;exact h
   have hLn:(dF sh l (X i)).length<=64:=by
    obtain⟨h1,h4,hc⟩:=aX HP.out;exact canL_len _ _ _ (cJ hc) om
   generalize dF sh l (X i)=L at *;have KS:Hid (∀w',Below _ V w'->w'.cell? _=M _/\w'.cell? _=M _/\w'.cell? _=M _/\w'.cell? _=M _/\w'.cell? _=M _/\w'.cell? _=M _):=fun w' hb=>⟨aB hb p0,aB hb p1,aB hb o0,aB hb o1,aB hb o2,aB hb o3⟩
   clear p0 p1
   go_upto_region 3 with fail
   refine wp_region_held_drew (S:=(fun w'=>w'.cell? ⟨w.heap.size,0,Q⟩=Y I sh/\w'.cell? ⟨w.heap.size,1,Q⟩=J la l.length lc)) kr ?_ (fun hHeld=>?_)
   ·exact(fun h=>⟨h.1,h.2.1⟩) (KS.out _ (aD br))
   refine tk 0 ?_;refine tk 2 ?_;refine wpAnyH_ready (rs:=[1,3]) kr sm ?_;refine rq (fun K hK=>?_) (rq (fun K hK=>?_) (AllReadyH.nil))
   all_goals
    go_simp;obtain⟨_,_,n0,n1,n2,n3⟩:=KS.out _ (aD br);go_simp;clear n0 n1 n2 n3;clear hHeld;refine hK.out _ _ ((fun h=>⟨h.1,h.2.1⟩) (KS.out _ (aD br))) (fun hHeld=>?_);clear hK K
   ·refine r1 3 (fun K hK=>?_);exact us
   ·refine wpAnyH_ready (rs:=[1,4]) kr sm ?_;refine rq (fun K hK=>?_) (rq (fun K hK=>?_) (AllReadyH.nil))
    ·exact us
    ·go_simp
     go_wp2_with (go_at_call 57;refine(CN.out _ (aD br)).mono ?_;rintro e w3 ⟨a,c,rfl,hsp,hb3⟩)
     have B3:=Hi (aC (aD br) hb3);obtain⟨sb,so,es,_,c0,c1,c2⟩:=hsp 0 hL0;subst es;rw[Nat.zero_mul,Nat.add_zero]at c0 c1 c2;clear hsp hb3;generalize ((L.getD 0 (0,0,0)).1:Nat)=x1 at *;generalize ((L.getD 0 (0,0,0)).2.1:Nat)=x2 at *;generalize ((L.getD 0 (0,0,0)).2.2:Nat)=x3 at *;have hL0':(0:Int)<(L.length:Int):=om;clear hHeld;refine hK.out _ _ ((fun h=>⟨h.1,h.2.1⟩) (KS.out _ B3.out)) (fun hHeld=>?_);clear hK K;refine tk 5 ?_;refine wpAnyH_ready (rs:=[1,6]) kr sm ?_;refine rq (fun K hK=>?_) (rq (fun K hK=>?_) (AllReadyH.nil))
     focus
      go_simp;obtain⟨_,_,n0,n1,n2,n3⟩:=KS.out _ B3.out;go_simp;clear n0 n1 n2 n3;clear hHeld;refine hK.out _ _ ((fun h=>⟨h.1,h.2.1⟩) (KS.out _ B3.out)) (fun hHeld=>?_);clear hK K;refine r1 6 (fun K hK=>?_);go_simp;skip
     rotate_left
     focus
      go_simp;skip;clear hHeld;refine hK.out _ _ ((fun h=>⟨h.1,h.2.1⟩) (KS.out _ B3.out)) (fun hHeld=>?_);clear hK K;refine r1 1 (fun K hK=>?_);go_simp;obtain⟨_,_,n0,n1,n2,n3⟩:=KS.out _ B3.out;go_simp;clear n0 n1 n2 n3
     rotate_left
     all_goals
      exact ua
end
end Go.Proofs.YtcgpkonfneofdaaGreatDoor
