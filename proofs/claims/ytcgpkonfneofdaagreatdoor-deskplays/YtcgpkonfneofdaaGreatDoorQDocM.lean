/- Conditions: those that each theorem states. -/
import Derived.Test.YtcgpkonfneofdaaGreatDoorQDocJ
import Derived.Test.YtcgpkonfneofdaaGreatDoorQDocE
set_option maxRecDepth 100000
set_option maxHeartbeats 8000000
namespace Go.Proofs.YtcgpkonfneofdaaGreatDoor
open Go.RowKit Go.Proofs.Tryz
open Go.Value renaming slice->J,int->Y,bool->bo,pointer->pd,agg->ag,tuple->tu,string->sg,iface->fc
open Go.IntKind renaming i64->I
open Go.Obj renaming cells->U
open Go.Ending renaming returned->rt,panicked->pg
open Option renaming some->M,none->Q
variable {p:Prop}
theorem ur (h:p:=by
 obtain rfl:S9=mD:=HNS.out dc;have sf:=fun j=>(BVM.out.frozen (p:=⟨w.heap.size+3,j,Q⟩) (by have:=sz.out;show w.heap.size+3<_;omega)).trans (SF.out j)
 obtain⟨x0,x1,x2,x3⟩:=nY qNil s0 s1 s2 s3;dsimp only[qNil]at x0 x1 x2 x3;have FB:Hid (Below w.heap.size w ((((VM.setCell ⟨w.heap.size+3,0,Q⟩ (J qNil.sa qNil.sn qNil.sc)).setCell ⟨w.heap.size+3,1,Q⟩ (J qNil.ra qNil.rn qNil.rc)).setCell ⟨w.heap.size+3,2,Q⟩ (J qNil.wa qNil.wn qNil.tc)).setCell ⟨w.heap.size+3,3,Q⟩ (J qNil.va qNil.vn qNil.vc))):=aG (aG (aG (aG (aC hW.out BVM.out) sm _) sm _) sm _) sm _;clear BVM
 go_wp2_with fail
 refine bodyPost_ret (v:=tu #[ag #[J Q 0 0,J Q 0 0,J Q 0 0,J Q 0 0],Y I 6]) (by simp[results,results54,go_sem,x0,x1,x2,x3]) rfl ⟨qNil,rfl,fF _ _,FB.out⟩):p:=h
theorem yl (h:p:=by
 go_upto_region 13 with fail
 go_wp2_with fail
 refine bodyPost_ret (v:=tu #[ag #[J Q 0 0,J Q 0 0,J Q 0 0,J Q 0 0],Y I 5]) (by simp[results,results54,go_sem,x0,x1,x2,x3]) rfl ⟨qNil,rfl,fF _ _,FB.out⟩):p:=h
theorem ym (h:p:=by
 go_upto_region 13 with fail
 go_wp2_with fail
 refine bodyPost_ret (v:=tu #[ag #[J Q 0 0,J Q 0 0,J Q 0 0,J Q 0 0],Y I 7]) (by simp[results,results54,go_sem,x0,x1,x2,x3]) rfl ⟨qNil,rfl,fF _ _,FB.out⟩):p:=h
theorem yt (h:p:=by
 go_wp2_with fail
 refine bodyPost_ret (v:=tu #[ag #[J q.sa q.sn q.sc,J q.ra q.rn q.rc,J q.wa q.wn q.tc,J q.va q.vn q.vc],Y I 0]) (by simp[results,results54,go_sem,x0,x1,x2,x3]) rfl ⟨q,rfl,FS.out,FB.out⟩):p:=h
theorem yx (h:p:=by
 refine(fS la lc l sh n _ ((HL.out.below BV2.out).below hb) (HP.out n hn)).mono ?_;rintro e w2 ⟨a,c,rfl,hbs,hb2⟩;have hL:=bN sh (aT (aO l n));exact VA):p:=h
theorem VA (h:p:=by
 obtain⟨b3,o3,rfl,_,d3⟩:=hbs k (by rw[hL];exact hk);exact⟨b3,o3,c,by rw[hL],d3,hb2⟩):p:=h
section
variable (la:Option Addr) (lc:Nat) (l:List TxA) (sa ra wa va:Option Addr) (sc rc tc vc:Nat) (S:SA)
theorem qU (m kd n k:Int) (w:World) (hl:IsTxs w la l) (hs:Sta w sa ra wa va S) (E:Int)
  (hE:(¬cZ m l S=0/\E=cZ m l S)∨(cZ m l S=0/\¬kd=1/\¬kd=2/\E=4)∨(cZ m l S=0/\(kd=1∨kd=2)/\E=5/\(n<0∨(l.length:Int)<=n∨(0<=n/\n<(l.length:Int)/\(k<0∨m<=k))))) :
  Calls prog 54 #[ag #[Y I m,J la l.length lc],ag #[J sa S.st.length sc,J ra S.rd.length rc,J wa S.wr.length tc,J va S.vs.length vc],ag #[Y I kd,Y I n,Y I k]] w fun e w'=>∃q:Q4,e=rt (tu #[ag #[J q.sa q.sn q.sc,J q.ra q.rn q.rc,J q.wa q.wn q.tc,J q.va q.vn q.vc],Y I E])/\StaF w.heap.size mD q w'/\Below w.heap.size w w':=by
 obtain⟨W,hWe⟩:=nm (((((w.alloc (U #[Y I m,J la l.length lc] 29)).alloc (U #[J sa S.st.length sc,J ra S.rd.length rc,J wa S.wr.length tc,J va S.vs.length vc] 45)).alloc (U #[Y I kd,Y I n,Y I k] 33)).alloc (U #[J Q 0 0,J Q 0 0,J Q 0 0,J Q 0 0] 45)));have hW:Hid (Below w.heap.size w W):=by subst hWe;exact(aA (aA (aA (aA br _) _) _) _)
 have sz:Hid (W.heap.size=w.heap.size+4):=by subst hWe;show _=_;simp
 have p0:W.cell? ⟨w.heap.size,0,Q⟩=Y I m:=by subst hWe;exact aB (aA (aA (aA br _) _) _) (aF _ _ 29 _ 0 _ (by first | rfl | simp) rfl)
 have p1:W.cell? ⟨w.heap.size,1,Q⟩=J la l.length lc:=by subst hWe;exact aB (aA (aA (aA br _) _) _) (aF _ _ 29 _ 1 _ (by first | rfl | simp) rfl)
 have q0:W.cell? ⟨w.heap.size+1,0,Q⟩=J sa S.st.length sc:=by subst hWe;exact aB (aA (aA br _) _) (aF _ _ 45 _ 0 _ (by first | rfl | simp) rfl)
 have q1:W.cell? ⟨w.heap.size+1,1,Q⟩=J ra S.rd.length rc:=by subst hWe;exact aB (aA (aA br _) _) (aF _ _ 45 _ 1 _ (by first | rfl | simp) rfl)
 have q2:W.cell? ⟨w.heap.size+1,2,Q⟩=J wa S.wr.length tc:=by subst hWe;exact aB (aA (aA br _) _) (aF _ _ 45 _ 2 _ (by first | rfl | simp) rfl)
 have q3:W.cell? ⟨w.heap.size+1,3,Q⟩=J va S.vs.length vc:=by subst hWe;exact aB (aA (aA br _) _) (aF _ _ 45 _ 3 _ (by first | rfl | simp) rfl)
 have r0:W.cell? ⟨w.heap.size+2,0,Q⟩=Y I kd:=by subst hWe;exact aB (aA br _) (aF _ _ 33 _ 0 _ (by first | rfl | simp) rfl)
 have r1:W.cell? ⟨w.heap.size+2,1,Q⟩=Y I n:=by subst hWe;exact aB (aA br _) (aF _ _ 33 _ 1 _ (by first | rfl | simp) rfl)
 have r2:W.cell? ⟨w.heap.size+2,2,Q⟩=Y I k:=by subst hWe;exact aB (aA br _) (aF _ _ 33 _ 2 _ (by first | rfl | simp) rfl)
 have s0:W.cell? ⟨w.heap.size+3,0,Q⟩=J Q 0 0:=by subst hWe;exact aB br (aF _ _ 45 _ 0 _ (by first | rfl | simp) rfl)
 have s1:W.cell? ⟨w.heap.size+3,1,Q⟩=J Q 0 0:=by subst hWe;exact aB br (aF _ _ 45 _ 1 _ (by first | rfl | simp) rfl)
 have s2:W.cell? ⟨w.heap.size+3,2,Q⟩=J Q 0 0:=by subst hWe;exact aB br (aF _ _ 45 _ 2 _ (by first | rfl | simp) rfl)
 have s3:W.cell? ⟨w.heap.size+3,3,Q⟩=J Q 0 0:=by subst hWe;exact aB br (aF _ _ 45 _ 3 _ (by first | rfl | simp) rfl)
 have SF:Hid (∀j,W.frozen? ⟨w.heap.size+3,j,Q⟩=false):=by subst hWe;exact fun j=>aU _ _ 45 _ j sm
 have KEEP:Hid (∀w',Below W.heap.size W w'->w'.cell? ⟨w.heap.size,0,Q⟩=Y I m/\w'.cell? ⟨w.heap.size,1,Q⟩=J la l.length lc/\w'.cell? ⟨w.heap.size+1,0,Q⟩=J sa S.st.length sc/\w'.cell? ⟨w.heap.size+1,1,Q⟩=J ra S.rd.length rc/\w'.cell? ⟨w.heap.size+1,2,Q⟩=J wa S.wr.length tc/\w'.cell? ⟨w.heap.size+1,3,Q⟩=J va S.vs.length vc/\w'.cell? ⟨w.heap.size+2,0,Q⟩=Y I kd/\w'.cell? ⟨w.heap.size+2,1,Q⟩=Y I n/\w'.cell? ⟨w.heap.size+2,2,Q⟩=Y I k/\w'.cell? ⟨w.heap.size+3,0,Q⟩=J Q 0 0/\w'.cell? ⟨w.heap.size+3,1,Q⟩=J Q 0 0/\w'.cell? ⟨w.heap.size+3,2,Q⟩=J Q 0 0/\w'.cell? ⟨w.heap.size+3,3,Q⟩=J Q 0 0):=fun w' hb=>⟨aB hb p0,aB hb p1,aB hb q0,aB hb q1,aB hb q2,aB hb q3,aB hb r0,aB hb r1,aB hb r2,aB hb s0,aB hb s1,aB hb s2,aB hb s3⟩
 have CK:=Hi (kC la lc l sa ra wa va sc rc tc vc S m W (hl.below hW.out) (hs.below hW.out));have HL:=Hi (hl.below hW.out);have HS:=Hi (hs.below hW.out)
 have hl8:cZ m l S=0->l.length<=8/\1<=m/\m<=4:=fun h=>by
  obtain⟨sh,rfl,h1,h4,hc,_⟩:=aZ h;exact⟨cJ hc,by omega,by omega⟩
 clear hl hs HL HS p0 p1 q0 q1 q2 q3 r0 r1 r2 s0 s1 s2 s3;generalize cZ m l S=X at *;have HWe:Hid (W=_):=hWe;clear hWe;go_enter func54,ntmps54
 go_upto_region 1 with fail
 rw[<-HWe.out];clear HWe;obtain⟨p0,p1,q0,q1,q2,q3,r0,r1,r2,s0,s1,s2,s3⟩:=KEEP.out W br
 go_wp2_with fail
 refine CK.out.mono ?_;rintro e V ⟨rfl,hbV⟩;have BV:=Hi hbV;clear CK hbV p0 p1 q0 q1 q2 q3 r0 r1 r2 s0 s1 s2 s3;obtain⟨p0,p1,q0,q1,q2,q3,r0,r1,r2,s0,s1,s2,s3⟩:=KEEP.out V BV.out;rcases hE with ⟨hX,rfl⟩ | ⟨rfl,h1,h2,rfl⟩ | ⟨rfl,hkd,rfl,hrng⟩
 ·have hb:(E != 0)=true:=by simpa using hX
  have sf:=fun j=>(BV.out.frozen (p:=⟨w.heap.size+3,j,Q⟩) (by have:=sz.out;show w.heap.size+3<_;omega)).trans (SF.out j)
  obtain⟨x0,x1,x2,x3⟩:=nY qNil s0 s1 s2 s3;dsimp only[qNil]at x0 x1 x2 x3;have FB:Hid (Below w.heap.size w ((((V.setCell ⟨w.heap.size+3,0,Q⟩ (J qNil.sa qNil.sn qNil.sc)).setCell ⟨w.heap.size+3,1,Q⟩ (J qNil.ra qNil.rn qNil.rc)).setCell ⟨w.heap.size+3,2,Q⟩ (J qNil.wa qNil.wn qNil.tc)).setCell ⟨w.heap.size+3,3,Q⟩ (J qNil.va qNil.vn qNil.vc))):=aG (aG (aG (aG (aC hW.out BV.out) sm _) sm _) sm _) sm _;clear BV;clear hX hl8
  go_wp2_with fail
  refine bodyPost_ret (v:=tu #[ag #[J Q 0 0,J Q 0 0,J Q 0 0,J Q 0 0],Y I E]) (by simp[results,results54,go_sem,x0,x1,x2,x3]) rfl ⟨qNil,rfl,fF _ _,FB.out⟩
 ·have hb1:(kd != 1)=true:=by simpa using h1
  have hb2:(kd != 2)=true:=by simpa using h2
  have sf:=fun j=>(BV.out.frozen (p:=⟨w.heap.size+3,j,Q⟩) (by have:=sz.out;show w.heap.size+3<_;omega)).trans (SF.out j)
  obtain⟨x0,x1,x2,x3⟩:=nY qNil s0 s1 s2 s3;dsimp only[qNil]at x0 x1 x2 x3;have FB:Hid (Below w.heap.size w ((((V.setCell ⟨w.heap.size+3,0,Q⟩ (J qNil.sa qNil.sn qNil.sc)).setCell ⟨w.heap.size+3,1,Q⟩ (J qNil.ra qNil.rn qNil.rc)).setCell ⟨w.heap.size+3,2,Q⟩ (J qNil.wa qNil.wn qNil.tc)).setCell ⟨w.heap.size+3,3,Q⟩ (J qNil.va qNil.vn qNil.vc))):=aG (aG (aG (aG (aC hW.out BV.out) sm _) sm _) sm _) sm _;clear BV;clear h1 h2 hl8
  go_wp2_with fail
  refine bodyPost_ret (v:=tu #[ag #[J Q 0 0,J Q 0 0,J Q 0 0,J Q 0 0],Y I 4]) (by simp[results,results54,go_sem,x0,x1,x2,x3]) rfl ⟨qNil,rfl,fF _ _,FB.out⟩
 ·obtain⟨hl8,hm1,hm4⟩:=hl8 rfl;have sf:=fun j=>(BV.out.frozen (p:=⟨w.heap.size+3,j,Q⟩) (by have:=sz.out;show w.heap.size+3<_;omega)).trans (SF.out j)
  obtain⟨x0,x1,x2,x3⟩:=nY qNil s0 s1 s2 s3;dsimp only[qNil]at x0 x1 x2 x3;have FB:Hid (Below w.heap.size w ((((V.setCell ⟨w.heap.size+3,0,Q⟩ (J qNil.sa qNil.sn qNil.sc)).setCell ⟨w.heap.size+3,1,Q⟩ (J qNil.ra qNil.rn qNil.rc)).setCell ⟨w.heap.size+3,2,Q⟩ (J qNil.wa qNil.wn qNil.tc)).setCell ⟨w.heap.size+3,3,Q⟩ (J qNil.va qNil.vn qNil.vc))):=aG (aG (aG (aG (aC hW.out BV.out) sm _) sm _) sm _) sm _;clear BV;have hwa:=iX;rcases hrng with hn | hn | ⟨hn0,hn1,hk⟩
  focus
   have d1:(decide ((0:Int)<=n) && decide (n<=(l.length:Int) - 1))=false:=by simp;omega
  rotate_left
  focus
   have d1:(decide ((0:Int)<=n) && decide (n<=(l.length:Int) - 1))=false:=by simp;omega
  rotate_left
  focus
   have d1:(decide ((0:Int)<=n) && decide (n<=(l.length:Int) - 1))=true:=by simp;omega
   have d2:(decide ((0:Int)<=k) && decide (k<=m - 1))=false:=by simp;omega
  rotate_left
  all_goals
   rcases hkd with rfl | rfl
   all_goals (
    go_wp2_with (first | (go_at_call 86;refine(hwa _ _ _ _).mono ?_;rintro e w5 ⟨rfl,e5⟩;have e6:=e5.symm;subst e6))
    refine bodyPost_ret (v:=tu #[ag #[J Q 0 0,J Q 0 0,J Q 0 0,J Q 0 0],Y I 5]) (by simp[results,results54,go_sem,x0,x1,x2,x3]) rfl ⟨qNil,rfl,fF _ _,FB.out⟩
   )
end
section
variable (la:Option Addr) (lc:Nat) (l:List TxA) (sa ra wa va:Option Addr) (sc rc tc vc:Nat) (S:SA)
theorem docDo_read (sh n k:Nat) (w:World) (hl:IsTxs w la l) (hs:Sta w sa ra wa va S) (hst:cZ (sh:Int) l S=0) (hn:n<l.length) (hk:k<sh) :
  Calls prog 54 #[ag #[Y I sh,J la l.length lc],ag #[J sa S.st.length sc,J ra S.rd.length rc,J wa S.wr.length tc,J va S.vs.length vc],ag #[Y I 1,Y I n,Y I k]] w fun e w'=>∃q:Q4,e=rt (tu #[ag #[J q.sa q.sn q.sc,J q.ra q.rn q.rc,J q.wa q.wn q.tc,J q.va q.vn q.vc],Y I (gM sh l S 1 n k)])/\StaF w.heap.size (lU sh l S 1 n k) q w'/\Below w.heap.size w w':=by
 obtain⟨sh',e,h0,h4,hc,hp,hf,_⟩:=aZ hst;obtain rfl:sh=sh':=by omega
 clear e;have h8:=cJ hc;obtain⟨W,hWe⟩:=nm (((((w.alloc (U #[Y I sh,J la l.length lc] 29)).alloc (U #[J sa S.st.length sc,J ra S.rd.length rc,J wa S.wr.length tc,J va S.vs.length vc] 45)).alloc (U #[Y I 1,Y I n,Y I k] 33)).alloc (U #[J Q 0 0,J Q 0 0,J Q 0 0,J Q 0 0] 45)));have hW:Hid (Below w.heap.size w W):=by subst hWe;exact(aA (aA (aA (aA br _) _) _) _)
 have sz:Hid (W.heap.size=w.heap.size+4):=by subst hWe;show _=_;simp
 have p0:W.cell? ⟨w.heap.size,0,Q⟩=Y I sh:=by subst hWe;exact aB (aA (aA (aA br _) _) _) (aF _ _ 29 _ 0 _ (by first | rfl | simp) rfl)
 have p1:W.cell? ⟨w.heap.size,1,Q⟩=J la l.length lc:=by subst hWe;exact aB (aA (aA (aA br _) _) _) (aF _ _ 29 _ 1 _ (by first | rfl | simp) rfl)
 have q0:W.cell? ⟨w.heap.size+1,0,Q⟩=J sa S.st.length sc:=by subst hWe;exact aB (aA (aA br _) _) (aF _ _ 45 _ 0 _ (by first | rfl | simp) rfl)
 have q1:W.cell? ⟨w.heap.size+1,1,Q⟩=J ra S.rd.length rc:=by subst hWe;exact aB (aA (aA br _) _) (aF _ _ 45 _ 1 _ (by first | rfl | simp) rfl)
 have q2:W.cell? ⟨w.heap.size+1,2,Q⟩=J wa S.wr.length tc:=by subst hWe;exact aB (aA (aA br _) _) (aF _ _ 45 _ 2 _ (by first | rfl | simp) rfl)
 have q3:W.cell? ⟨w.heap.size+1,3,Q⟩=J va S.vs.length vc:=by subst hWe;exact aB (aA (aA br _) _) (aF _ _ 45 _ 3 _ (by first | rfl | simp) rfl)
 have r0:W.cell? ⟨w.heap.size+2,0,Q⟩=Y I 1:=by subst hWe;exact aB (aA br _) (aF _ _ 33 _ 0 _ (by first | rfl | simp) rfl)
 have r1:W.cell? ⟨w.heap.size+2,1,Q⟩=Y I n:=by subst hWe;exact aB (aA br _) (aF _ _ 33 _ 1 _ (by first | rfl | simp) rfl)
 have r2:W.cell? ⟨w.heap.size+2,2,Q⟩=Y I k:=by subst hWe;exact aB (aA br _) (aF _ _ 33 _ 2 _ (by first | rfl | simp) rfl)
 have s0:W.cell? ⟨w.heap.size+3,0,Q⟩=J Q 0 0:=by subst hWe;exact aB br (aF _ _ 45 _ 0 _ (by first | rfl | simp) rfl)
 have s1:W.cell? ⟨w.heap.size+3,1,Q⟩=J Q 0 0:=by subst hWe;exact aB br (aF _ _ 45 _ 1 _ (by first | rfl | simp) rfl)
 have s2:W.cell? ⟨w.heap.size+3,2,Q⟩=J Q 0 0:=by subst hWe;exact aB br (aF _ _ 45 _ 2 _ (by first | rfl | simp) rfl)
 have s3:W.cell? ⟨w.heap.size+3,3,Q⟩=J Q 0 0:=by subst hWe;exact aB br (aF _ _ 45 _ 3 _ (by first | rfl | simp) rfl)
 have SF:Hid (∀j,W.frozen? ⟨w.heap.size+3,j,Q⟩=false):=by subst hWe;exact fun j=>aU _ _ 45 _ j sm
 have KEEP:Hid (∀w',Below W.heap.size W w'->w'.cell? ⟨w.heap.size,0,Q⟩=Y I sh/\w'.cell? ⟨w.heap.size,1,Q⟩=J la l.length lc/\w'.cell? ⟨w.heap.size+1,0,Q⟩=J sa S.st.length sc/\w'.cell? ⟨w.heap.size+1,1,Q⟩=J ra S.rd.length rc/\w'.cell? ⟨w.heap.size+1,2,Q⟩=J wa S.wr.length tc/\w'.cell? ⟨w.heap.size+1,3,Q⟩=J va S.vs.length vc/\w'.cell? ⟨w.heap.size+2,0,Q⟩=Y I 1/\w'.cell? ⟨w.heap.size+2,1,Q⟩=Y I n/\w'.cell? ⟨w.heap.size+2,2,Q⟩=Y I k/\w'.cell? ⟨w.heap.size+3,0,Q⟩=J Q 0 0/\w'.cell? ⟨w.heap.size+3,1,Q⟩=J Q 0 0/\w'.cell? ⟨w.heap.size+3,2,Q⟩=J Q 0 0/\w'.cell? ⟨w.heap.size+3,3,Q⟩=J Q 0 0):=fun w' hb=>⟨aB hb p0,aB hb p1,aB hb q0,aB hb q1,aB hb q2,aB hb q3,aB hb r0,aB hb r1,aB hb r2,aB hb s0,aB hb s1,aB hb s2,aB hb s3⟩
 have CK:=Hi (kC la lc l sa ra wa va sc rc tc vc S (sh:Int) W (hl.below hW.out) (hs.below hW.out));have HL:=Hi (hl.below hW.out);have HS:=Hi (hs.below hW.out);rw[hst]at CK;have HF:=Hi (cH.1 hf);have HP:Hid (∀a,a<l.length->yO sh l a=0):=fun a ha=>xG hp ha
 have CM:=Hi (fun w' hb=>uQ la lc l sa ra wa va sc rc tc vc S sh n k w' ((hl.below hW.out).below hb) ((hs.below hW.out).below hb) HP.out HF.out hn h8 hk h4);have CD:=Hi (fun w' hb=>rZ la lc l sa ra wa va sc rc tc vc S sh n k w' ((hl.below hW.out).below hb) ((hs.below hW.out).below hb) hp HF.out hn hk)
 have HEE:Hid (gM sh l S 1 n k=if iF sh (gX l n) k=true then (if cR S.rd n k=true then 7 else if dD sh l S 1 n k=true then 0 else 6) else 5):=by
  have e1:gM sh l S 1 n k=dC sh l S 1 n k:=if_pos hst;show _=_;rw[e1];exact rB (kd:=1) (.inl rfl) hn hk
 have HMF:Hid (eD sh l S 1 n k=(iF sh _ k && !cR S.rd n k && dD sh l S 1 n k)):=rfl;have HNS:Hid (¬gM sh l S 1 n k=0->lU sh l S 1 n k=mD):=fun h=>if_neg h
 have HRS:Hid (gM sh l S 1 n k=0->lU sh l S 1 n k=gK sh l S n k):=fun h=>if_pos h
 have hwa:=iX;have d1:(decide ((0:Int)<=(n:Int)) && decide ((n:Int)<=(l.length:Int) - 1))=true:=by simp;omega
 have d2:(decide ((0:Int)<=(k:Int)) && decide ((k:Int)<=(sh:Int) - 1))=true:=by simp;omega
 clear hl hs hst hf hp hc p0 p1 q0 q1 q2 q3 r0 r1 r2 s0 s1 s2 s3;generalize gM sh l S 1 n k=E at *;generalize lU sh l S 1 n k=S9 at *;have HWe:Hid (W=_):=hWe;clear hWe;go_enter func54,ntmps54
 go_upto_region 1 with fail
 rw[<-HWe.out];clear HWe;obtain⟨p0,p1,q0,q1,q2,q3,r0,r1,r2,s0,s1,s2,s3⟩:=KEEP.out W br
 go_wp2_with fail
 refine CK.out.mono ?_;rintro e V ⟨rfl,hbV⟩;have BV:=Hi hbV;clear CK hbV p0 p1 q0 q1 q2 q3 r0 r1 r2 s0 s1 s2 s3;obtain⟨p0,p1,q0,q1,q2,q3,r0,r1,r2,s0,s1,s2,s3⟩:=KEEP.out V BV.out;obtain⟨b4,o4,b5,o5,c5,e4,_,_,z4,z5⟩:=(HS.out.below BV.out).rd.rows HF.out.rd HF.out.rn h0 n hn;have z5':=z5 k hk;rw[e4,HF.out.rd]at q1;clear z5
 go_upto_region 8 with (first | (go_at_call 86;refine(hwa _ _ _ _).mono ?_;rintro e w5 ⟨rfl,e5⟩;have e6:=e5.symm;subst e6;(first | rw[d1] | rw[d2])))
 go_quiet (fail)
 obtain⟨V2,eV,BV2⟩:∃V2,V.drewN nq=V2/\Hid (Below W.heap.size W V2):=⟨_,rfl,aV BV.out _⟩;rw[eV];clear eV BV p0 p1 q0 q1 q2 q3 r0 r1 r2 s0 s1 s2 s3 z4 z5' e4
 go_upto_region 9 with fail
 obtain⟨p0,p1,q0,q1,q2,q3,r0,r1,r2,s0,s1,s2,s3⟩:=KEEP.out V2 BV2.out
 have CA:Hid (∀w1,Below _ V2 w1->Calls _ 90 _ w1 fun e w'=>∃b3 o3 c3,e=rt (J (M ⟨b3,o3,Q⟩) sh c3)/\w'.cell? ⟨b3,o3+k,Q⟩=bo (iF sh (gX l n) k)/\Below _ w1 w'):=fun w1 hb=>by
  exact yx
 have KS:Hid (∀w',Below _ V2 w'->w'.cell? _=M _/\w'.cell? _=M _/\w'.cell? _=M _/\w'.cell? _=M _/\Hid _):=fun w' hb=>⟨aB hb p0,aB hb p1,aB hb r1,aB hb r2,hb⟩
 clear p0 p1 q0 q1 q2 q3 r0 r1 r2 s0 s1 s2 s3;refine wp_region_held_drew (S:=(fun w'=>w'.cell? ⟨w.heap.size,0,Q⟩=Y I sh/\w'.cell? ⟨w.heap.size,1,Q⟩=J la l.length lc/\w'.cell? ⟨w.heap.size+2,1,Q⟩=Y I n/\w'.cell? ⟨w.heap.size+2,2,Q⟩=Y I k/\Hid (Below V2.heap.size V2 w'))) kr ?_ (fun hHeld=>?_)
 ·exact vt
 refine tk 0 ?_;refine tk 1 ?_;refine tk 2 ?_;refine tk 4 ?_;refine tk 5 ?_;refine r1 3 (fun K hK=>?_);go_simp
 go_wp2_with (go_at_call 90;refine(CA.out _ (aD br)).mono ?_;rintro e V3 ⟨b3,o3,c3,rfl,d3,hb1⟩)
 have BW:=Hi (aC (aD br) hb1);clear hHeld;refine hK.out _ _ (KS.out _ BW.out) (fun hHeld=>?_);clear hK K;refine tk 6 ?_;refine r1 7 (fun K hK=>?_);go_simp;skip;clear hHeld;refine hK.out _ _ (KS.out _ BW.out) (fun hHeld=>?_);clear hK K;refine tk 8 ?_;refine wpAnyH_done kr ?_ _;have BV3:=Hi (aC BV2.out BW.out);clear BW hb1 d3 KS CA BV2 hHeld;obtain⟨p0,p1,q0,q1,q2,q3,r0,r1,r2,s0,s1,s2,s3⟩:=KEEP.out V3 BV3.out
 cases eP:iF sh (gX l n) k with
 | false=>
  obtain rfl:E=5:=by rw[HEE.out,eP];rfl
  obtain rfl:S9=mD:=HNS.out dc;have sf:=fun j=>(BV3.out.frozen (p:=⟨w.heap.size+3,j,Q⟩) (by have:=sz.out;show w.heap.size+3<_;omega)).trans (SF.out j)
  obtain⟨x0,x1,x2,x3⟩:=nY qNil s0 s1 s2 s3;dsimp only[qNil]at x0 x1 x2 x3;have FB:Hid (Below w.heap.size w ((((V3.setCell ⟨w.heap.size+3,0,Q⟩ (J qNil.sa qNil.sn qNil.sc)).setCell ⟨w.heap.size+3,1,Q⟩ (J qNil.ra qNil.rn qNil.rc)).setCell ⟨w.heap.size+3,2,Q⟩ (J qNil.wa qNil.wn qNil.tc)).setCell ⟨w.heap.size+3,3,Q⟩ (J qNil.va qNil.vn qNil.vc))):=aG (aG (aG (aG (aC hW.out BV3.out) sm _) sm _) sm _) sm _;clear BV3;exact yl
 | true=>
  cases eQ:cR S.rd n k with
  | true=>
   obtain rfl:E=7:=by rw[HEE.out,eP,eQ];rfl
   obtain rfl:S9=mD:=HNS.out dc;have sf:=fun j=>(BV3.out.frozen (p:=⟨w.heap.size+3,j,Q⟩) (by have:=sz.out;show w.heap.size+3<_;omega)).trans (SF.out j)
   obtain⟨x0,x1,x2,x3⟩:=nY qNil s0 s1 s2 s3;dsimp only[qNil]at x0 x1 x2 x3;have FB:Hid (Below w.heap.size w ((((V3.setCell ⟨w.heap.size+3,0,Q⟩ (J qNil.sa qNil.sn qNil.sc)).setCell ⟨w.heap.size+3,1,Q⟩ (J qNil.ra qNil.rn qNil.rc)).setCell ⟨w.heap.size+3,2,Q⟩ (J qNil.wa qNil.wn qNil.tc)).setCell ⟨w.heap.size+3,3,Q⟩ (J qNil.va qNil.vn qNil.vc))):=aG (aG (aG (aG (aC hW.out BV3.out) sm _) sm _) sm _) sm _;clear BV3;exact ym
  | false=>
   go_upto_region 13 with fail
   go_wp2_with fail
   refine(CM.out _ BV3.out).mono ?_;rintro e VM ⟨rfl,hbm⟩;have BVM:=Hi (aC BV3.out hbm);clear hbm p0 p1 q0 q1 q2 q3 r0 r1 r2 s0 s1 s2 s3;obtain⟨p0,p1,q0,q1,q2,q3,r0,r1,r2,s0,s1,s2,s3⟩:=KEEP.out VM BVM.out
   cases eF:eD sh l S 1 n k with
   | false=>
    obtain rfl:E=6:=by rw[HEE.out,eP,eQ];show (if dD sh l S 1 n k=true then (0:Int) else 6)=6;have h:=HMF.out;rw[eP,eQ,eF]at h;rw[<-show false=dD sh l S 1 n k by simpa using h];rfl
    exact ur
   | true=>
    obtain rfl:E=0:=by rw[HEE.out,eP,eQ];show (if dD sh l S 1 n k=true then (0:Int) else 6)=0;have h:=HMF.out;rw[eP,eQ,eF]at h;rw[<-show true=dD sh l S 1 n k by simpa using h];rfl
    obtain rfl:S9=gK sh l S n k:=HRS.out rfl
    go_wp2_with fail
    refine(CD.out _ BVM.out).mono ?_;rintro e VD ⟨q,rfl,hq,hbd⟩;have BVD:=Hi (aC BVM.out hbd);clear p0 p1 q0 q1 q2 q3 r0 r1 r2 s0 s1 s2 s3;obtain⟨p0,p1,q0,q1,q2,q3,r0,r1,r2,s0,s1,s2,s3⟩:=KEEP.out VD BVD.out;have sf:=fun j=>(BVD.out.frozen (p:=⟨w.heap.size+3,j,Q⟩) (by have:=sz.out;show w.heap.size+3<_;omega)).trans (SF.out j)
    obtain⟨x0,x1,x2,x3⟩:=nY q s0 s1 s2 s3;have hlt:w.heap.size+3<VM.heap.size:=by have:=sz.out;have:=BVM.out.size;omega
    have FS:Hid (StaF w.heap.size _ q ((((VD.setCell _ (J q.sa q.sn q.sc)).setCell _ (J q.ra q.rn q.rc)).setCell _ (J q.wa q.wn q.tc)).setCell _ (J q.va q.vn q.vc))):=((((hq.set _ 0 _ hlt).set _ 1 _ hlt).set _ 2 _ hlt).set _ 3 _ hlt).low om;have FB:Hid (Below w.heap.size w ((((VD.setCell ⟨w.heap.size+3,0,Q⟩ (J q.sa q.sn q.sc)).setCell ⟨w.heap.size+3,1,Q⟩ (J q.ra q.rn q.rc)).setCell ⟨w.heap.size+3,2,Q⟩ (J q.wa q.wn q.tc)).setCell ⟨w.heap.size+3,3,Q⟩ (J q.va q.vn q.vc))):=aG (aG (aG (aG (aC hW.out BVD.out) sm _) sm _) sm _) sm _;clear hq hbd BVD BVM BV3;exact yt
end
section
variable (la:Option Addr) (lc:Nat) (l:List TxA) (sa ra wa va:Option Addr) (sc rc tc vc:Nat) (S:SA)
theorem docDo_write (sh n k:Nat) (w:World) (hl:IsTxs w la l) (hs:Sta w sa ra wa va S) (hst:cZ (sh:Int) l S=0) (hn:n<l.length) (hk:k<sh) :
  Calls prog 54 #[ag #[Y I sh,J la l.length lc],ag #[J sa S.st.length sc,J ra S.rd.length rc,J wa S.wr.length tc,J va S.vs.length vc],ag #[Y I 2,Y I n,Y I k]] w fun e w'=>∃q:Q4,e=rt (tu #[ag #[J q.sa q.sn q.sc,J q.ra q.rn q.rc,J q.wa q.wn q.tc,J q.va q.vn q.vc],Y I (gM sh l S 2 n k)])/\StaF w.heap.size (lU sh l S 2 n k) q w'/\Below w.heap.size w w':=by
 obtain⟨sh',e,h0,h4,hc,hp,hf,_⟩:=aZ hst;obtain rfl:sh=sh':=by omega
 clear e;have h8:=cJ hc;obtain⟨W,hWe⟩:=nm (((((w.alloc (U #[Y I sh,J la l.length lc] 29)).alloc (U #[J sa S.st.length sc,J ra S.rd.length rc,J wa S.wr.length tc,J va S.vs.length vc] 45)).alloc (U #[Y I 2,Y I n,Y I k] 33)).alloc (U #[J Q 0 0,J Q 0 0,J Q 0 0,J Q 0 0] 45)));have hW:Hid (Below w.heap.size w W):=by subst hWe;exact(aA (aA (aA (aA br _) _) _) _)
 have sz:Hid (W.heap.size=w.heap.size+4):=by subst hWe;show _=_;simp
 have p0:W.cell? ⟨w.heap.size,0,Q⟩=Y I sh:=by subst hWe;exact aB (aA (aA (aA br _) _) _) (aF _ _ 29 _ 0 _ (by first | rfl | simp) rfl)
 have p1:W.cell? ⟨w.heap.size,1,Q⟩=J la l.length lc:=by subst hWe;exact aB (aA (aA (aA br _) _) _) (aF _ _ 29 _ 1 _ (by first | rfl | simp) rfl)
 have q0:W.cell? ⟨w.heap.size+1,0,Q⟩=J sa S.st.length sc:=by subst hWe;exact aB (aA (aA br _) _) (aF _ _ 45 _ 0 _ (by first | rfl | simp) rfl)
 have q1:W.cell? ⟨w.heap.size+1,1,Q⟩=J ra S.rd.length rc:=by subst hWe;exact aB (aA (aA br _) _) (aF _ _ 45 _ 1 _ (by first | rfl | simp) rfl)
 have q2:W.cell? ⟨w.heap.size+1,2,Q⟩=J wa S.wr.length tc:=by subst hWe;exact aB (aA (aA br _) _) (aF _ _ 45 _ 2 _ (by first | rfl | simp) rfl)
 have q3:W.cell? ⟨w.heap.size+1,3,Q⟩=J va S.vs.length vc:=by subst hWe;exact aB (aA (aA br _) _) (aF _ _ 45 _ 3 _ (by first | rfl | simp) rfl)
 have r0:W.cell? ⟨w.heap.size+2,0,Q⟩=Y I 2:=by subst hWe;exact aB (aA br _) (aF _ _ 33 _ 0 _ (by first | rfl | simp) rfl)
 have r1:W.cell? ⟨w.heap.size+2,1,Q⟩=Y I n:=by subst hWe;exact aB (aA br _) (aF _ _ 33 _ 1 _ (by first | rfl | simp) rfl)
 have r2:W.cell? ⟨w.heap.size+2,2,Q⟩=Y I k:=by subst hWe;exact aB (aA br _) (aF _ _ 33 _ 2 _ (by first | rfl | simp) rfl)
 have s0:W.cell? ⟨w.heap.size+3,0,Q⟩=J Q 0 0:=by subst hWe;exact aB br (aF _ _ 45 _ 0 _ (by first | rfl | simp) rfl)
 have s1:W.cell? ⟨w.heap.size+3,1,Q⟩=J Q 0 0:=by subst hWe;exact aB br (aF _ _ 45 _ 1 _ (by first | rfl | simp) rfl)
 have s2:W.cell? ⟨w.heap.size+3,2,Q⟩=J Q 0 0:=by subst hWe;exact aB br (aF _ _ 45 _ 2 _ (by first | rfl | simp) rfl)
 have s3:W.cell? ⟨w.heap.size+3,3,Q⟩=J Q 0 0:=by subst hWe;exact aB br (aF _ _ 45 _ 3 _ (by first | rfl | simp) rfl)
 have SF:Hid (∀j,W.frozen? ⟨w.heap.size+3,j,Q⟩=false):=by subst hWe;exact fun j=>aU _ _ 45 _ j sm
 have KEEP:Hid (∀w',Below W.heap.size W w'->w'.cell? ⟨w.heap.size,0,Q⟩=Y I sh/\w'.cell? ⟨w.heap.size,1,Q⟩=J la l.length lc/\w'.cell? ⟨w.heap.size+1,0,Q⟩=J sa S.st.length sc/\w'.cell? ⟨w.heap.size+1,1,Q⟩=J ra S.rd.length rc/\w'.cell? ⟨w.heap.size+1,2,Q⟩=J wa S.wr.length tc/\w'.cell? ⟨w.heap.size+1,3,Q⟩=J va S.vs.length vc/\w'.cell? ⟨w.heap.size+2,0,Q⟩=Y I 2/\w'.cell? ⟨w.heap.size+2,1,Q⟩=Y I n/\w'.cell? ⟨w.heap.size+2,2,Q⟩=Y I k/\w'.cell? ⟨w.heap.size+3,0,Q⟩=J Q 0 0/\w'.cell? ⟨w.heap.size+3,1,Q⟩=J Q 0 0/\w'.cell? ⟨w.heap.size+3,2,Q⟩=J Q 0 0/\w'.cell? ⟨w.heap.size+3,3,Q⟩=J Q 0 0):=fun w' hb=>⟨aB hb p0,aB hb p1,aB hb q0,aB hb q1,aB hb q2,aB hb q3,aB hb r0,aB hb r1,aB hb r2,aB hb s0,aB hb s1,aB hb s2,aB hb s3⟩
 have CK:=Hi (kC la lc l sa ra wa va sc rc tc vc S (sh:Int) W (hl.below hW.out) (hs.below hW.out));have HL:=Hi (hl.below hW.out);have HS:=Hi (hs.below hW.out);rw[hst]at CK;have HF:=Hi (cH.1 hf);have HP:Hid (∀a,a<l.length->yO sh l a=0):=fun a ha=>xG hp ha
 have CM:=Hi (fun w' hb=>rY la lc l sa ra wa va sc rc tc vc S sh n k w' ((hl.below hW.out).below hb) ((hs.below hW.out).below hb) HP.out HF.out hn h8 hk h4);have CD:=Hi (fun w' hb=>pU la lc l sa ra wa va sc rc tc vc S sh n k w' ((hl.below hW.out).below hb) ((hs.below hW.out).below hb) hp HF.out hn hk)
 have HEE:Hid (gM sh l S 2 n k=if mW sh (gX l n) k=true then (if cR S.wr n k=true then 7 else if dD sh l S 2 n k=true then 0 else 6) else 5):=by
  have e1:gM sh l S 2 n k=dC sh l S 2 n k:=if_pos hst;show _=_;rw[e1];exact rB (kd:=2) (.inr rfl) hn hk
 have HMF:Hid (eD sh l S 2 n k=(mW sh _ k && !cR S.wr n k && dD sh l S 2 n k)):=rfl;have HNS:Hid (¬gM sh l S 2 n k=0->lU sh l S 2 n k=mD):=fun h=>if_neg h
 have HRS:Hid (gM sh l S 2 n k=0->lU sh l S 2 n k=dM sh l S n k):=fun h=>if_pos h
 have hwa:=iX;have d1:(decide ((0:Int)<=(n:Int)) && decide ((n:Int)<=(l.length:Int) - 1))=true:=by simp;omega
 have d2:(decide ((0:Int)<=(k:Int)) && decide ((k:Int)<=(sh:Int) - 1))=true:=by simp;omega
 clear hl hs hst hf hp hc p0 p1 q0 q1 q2 q3 r0 r1 r2 s0 s1 s2 s3;generalize gM sh l S 2 n k=E at *;generalize lU sh l S 2 n k=S9 at *;have HWe:Hid (W=_):=hWe;clear hWe;go_enter func54,ntmps54
 go_upto_region 1 with fail
 rw[<-HWe.out];clear HWe;obtain⟨p0,p1,q0,q1,q2,q3,r0,r1,r2,s0,s1,s2,s3⟩:=KEEP.out W br
 go_wp2_with fail
 refine CK.out.mono ?_;rintro e V ⟨rfl,hbV⟩;have BV:=Hi hbV;clear CK hbV p0 p1 q0 q1 q2 q3 r0 r1 r2 s0 s1 s2 s3;obtain⟨p0,p1,q0,q1,q2,q3,r0,r1,r2,s0,s1,s2,s3⟩:=KEEP.out V BV.out;obtain⟨b4,o4,b5,o5,c5,e4,_,_,z4,z5⟩:=(HS.out.below BV.out).rd.rows HF.out.rd HF.out.rn h0 n hn;have z5':=z5 k hk;rw[e4,HF.out.rd]at q1;clear z5
 go_upto_region 8 with (first | (go_at_call 86;refine(hwa _ _ _ _).mono ?_;rintro e w5 ⟨rfl,e5⟩;have e6:=e5.symm;subst e6;(first | rw[d1] | rw[d2])))
 go_quiet (fail)
 obtain⟨V2,eV,BV2⟩:∃V2,V.drewN nq=V2/\Hid (Below W.heap.size W V2):=⟨_,rfl,aV BV.out _⟩;rw[eV];clear eV BV p0 p1 q0 q1 q2 q3 r0 r1 r2 s0 s1 s2 s3 z4 z5' e4
 go_upto_region 9 with fail
 obtain⟨p0,p1,q0,q1,q2,q3,r0,r1,r2,s0,s1,s2,s3⟩:=KEEP.out V2 BV2.out
 have CA:Hid (∀w1,Below _ V2 w1->Calls _ 90 _ w1 fun e w'=>∃b3 o3 c3,e=rt (J (M ⟨b3,o3,Q⟩) sh c3)/\w'.cell? ⟨b3,o3+k,Q⟩=bo (iF sh (gX l n) k)/\Below _ w1 w'):=fun w1 hb=>by
  exact yx
 have KS:Hid (∀w',Below _ V2 w'->w'.cell? _=M _/\w'.cell? _=M _/\w'.cell? _=M _/\w'.cell? _=M _/\Hid _):=fun w' hb=>⟨aB hb p0,aB hb p1,aB hb r1,aB hb r2,hb⟩
 clear p0 p1 q0 q1 q2 q3 r0 r1 r2 s0 s1 s2 s3;refine wp_region_held_drew (S:=(fun w'=>w'.cell? ⟨w.heap.size,0,Q⟩=Y I sh/\w'.cell? ⟨w.heap.size,1,Q⟩=J la l.length lc/\w'.cell? ⟨w.heap.size+2,1,Q⟩=Y I n/\w'.cell? ⟨w.heap.size+2,2,Q⟩=Y I k/\Hid (Below V2.heap.size V2 w'))) kr ?_ (fun hHeld=>?_)
 ·exact vt
 refine tk 0 ?_;refine tk 1 ?_;refine tk 2 ?_;refine tk 4 ?_;refine tk 5 ?_;refine r1 3 (fun K hK=>?_);go_simp
 go_wp2_with (go_at_call 90;refine(CA.out _ (aD br)).mono ?_;rintro e V3 ⟨b3,o3,c3,rfl,d3,hb1⟩)
 have BW:=Hi (aC (aD br) hb1);clear hHeld;refine hK.out _ _ (KS.out _ BW.out) (fun hHeld=>?_);clear hK K;refine tk 6 ?_;refine r1 7 (fun K hK=>?_);go_simp;skip;clear hHeld;refine hK.out _ _ (KS.out _ BW.out) (fun hHeld=>?_);clear hK K;refine tk 8 ?_;refine wpAnyH_done kr ?_ _;have BV3:=Hi (aC BV2.out BW.out);clear BW hb1 d3 KS CA BV2 hHeld;obtain⟨p0,p1,q0,q1,q2,q3,r0,r1,r2,s0,s1,s2,s3⟩:=KEEP.out V3 BV3.out;obtain⟨b4,o4,b5,o5,c5,e4,_,_,z4,z5⟩:=(HS.out.below BV3.out).wr.rows HF.out.wr HF.out.wn h0 n hn;have z5':=z5 k hk;rw[e4,HF.out.wr]at q2;clear z5
 go_upto_region 11 with fail
 go_quiet (fail)
 obtain⟨V4,eV,BV4⟩:∃V4,V3.drewN nq=V4/\Hid (Below W.heap.size W V4):=⟨_,rfl,aV BV3.out _⟩;rw[eV];clear eV BV3 p0 p1 q0 q1 q2 q3 r0 r1 r2 s0 s1 s2 s3 z4 z5' e4
 go_upto_region 12 with fail
 obtain⟨p0,p1,q0,q1,q2,q3,r0,r1,r2,s0,s1,s2,s3⟩:=KEEP.out V4 BV4.out
 have CA:Hid (∀w1,Below _ V4 w1->Calls _ 91 _ w1 fun e w'=>∃b3 o3 c3,e=rt (J (M ⟨b3,o3,Q⟩) sh c3)/\w'.cell? ⟨b3,o3+k,Q⟩=bo (mW sh (gX l n) k)/\Below _ w1 w'):=fun w1 hb=>by
  refine(gJ la lc l sh n _ ((HL.out.below BV4.out).below hb) (HP.out n hn)).mono ?_;rintro e w2 ⟨a,c,rfl,hbs,hb2⟩;have hL:=bN sh (aR (aO l n));exact VA
 have KS:Hid (∀w',Below _ V4 w'->w'.cell? _=M _/\w'.cell? _=M _/\w'.cell? _=M _/\w'.cell? _=M _/\Hid _):=fun w' hb=>⟨aB hb p0,aB hb p1,aB hb r1,aB hb r2,hb⟩
 clear p0 p1 q0 q1 q2 q3 r0 r1 r2 s0 s1 s2 s3;refine wp_region_held_drew (S:=(fun w'=>w'.cell? ⟨w.heap.size,0,Q⟩=Y I sh/\w'.cell? ⟨w.heap.size,1,Q⟩=J la l.length lc/\w'.cell? ⟨w.heap.size+2,1,Q⟩=Y I n/\w'.cell? ⟨w.heap.size+2,2,Q⟩=Y I k/\Hid (Below V4.heap.size V4 w'))) kr ?_ (fun hHeld=>?_)
 ·exact vt
 refine tk 0 ?_;refine tk 1 ?_;refine tk 2 ?_;refine tk 4 ?_;refine tk 5 ?_;refine r1 3 (fun K hK=>?_);go_simp
 go_wp2_with (go_at_call 91;refine(CA.out _ (aD br)).mono ?_;rintro e V5 ⟨b3,o3,c3,rfl,d3,hb1⟩)
 have BW:=Hi (aC (aD br) hb1);clear hHeld;refine hK.out _ _ (KS.out _ BW.out) (fun hHeld=>?_);clear hK K;refine tk 6 ?_;refine r1 7 (fun K hK=>?_);go_simp;skip;clear hHeld;refine hK.out _ _ (KS.out _ BW.out) (fun hHeld=>?_);clear hK K;refine tk 8 ?_;refine wpAnyH_done kr ?_ _;have BV5:=Hi (aC BV4.out BW.out);clear BW hb1 d3 KS CA BV4 hHeld;obtain⟨p0,p1,q0,q1,q2,q3,r0,r1,r2,s0,s1,s2,s3⟩:=KEEP.out V5 BV5.out
 cases eP:mW sh (gX l n) k with
 | false=>
  obtain rfl:E=5:=by rw[HEE.out,eP];rfl
  obtain rfl:S9=mD:=HNS.out dc;have sf:=fun j=>(BV5.out.frozen (p:=⟨w.heap.size+3,j,Q⟩) (by have:=sz.out;show w.heap.size+3<_;omega)).trans (SF.out j)
  obtain⟨x0,x1,x2,x3⟩:=nY qNil s0 s1 s2 s3;dsimp only[qNil]at x0 x1 x2 x3;have FB:Hid (Below w.heap.size w ((((V5.setCell ⟨w.heap.size+3,0,Q⟩ (J qNil.sa qNil.sn qNil.sc)).setCell ⟨w.heap.size+3,1,Q⟩ (J qNil.ra qNil.rn qNil.rc)).setCell ⟨w.heap.size+3,2,Q⟩ (J qNil.wa qNil.wn qNil.tc)).setCell ⟨w.heap.size+3,3,Q⟩ (J qNil.va qNil.vn qNil.vc))):=aG (aG (aG (aG (aC hW.out BV5.out) sm _) sm _) sm _) sm _;clear BV5;exact yl
 | true=>
  cases eQ:cR S.wr n k with
  | true=>
   obtain rfl:E=7:=by rw[HEE.out,eP,eQ];rfl
   obtain rfl:S9=mD:=HNS.out dc;have sf:=fun j=>(BV5.out.frozen (p:=⟨w.heap.size+3,j,Q⟩) (by have:=sz.out;show w.heap.size+3<_;omega)).trans (SF.out j)
   obtain⟨x0,x1,x2,x3⟩:=nY qNil s0 s1 s2 s3;dsimp only[qNil]at x0 x1 x2 x3;have FB:Hid (Below w.heap.size w ((((V5.setCell ⟨w.heap.size+3,0,Q⟩ (J qNil.sa qNil.sn qNil.sc)).setCell ⟨w.heap.size+3,1,Q⟩ (J qNil.ra qNil.rn qNil.rc)).setCell ⟨w.heap.size+3,2,Q⟩ (J qNil.wa qNil.wn qNil.tc)).setCell ⟨w.heap.size+3,3,Q⟩ (J qNil.va qNil.vn qNil.vc))):=aG (aG (aG (aG (aC hW.out BV5.out) sm _) sm _) sm _) sm _;clear BV5;exact ym
  | false=>
   go_upto_region 13 with fail
   go_wp2_with fail
   refine(CM.out _ BV5.out).mono ?_;rintro e VM ⟨rfl,hbm⟩;have BVM:=Hi (aC BV5.out hbm);clear hbm p0 p1 q0 q1 q2 q3 r0 r1 r2 s0 s1 s2 s3;obtain⟨p0,p1,q0,q1,q2,q3,r0,r1,r2,s0,s1,s2,s3⟩:=KEEP.out VM BVM.out
   cases eF:eD sh l S 2 n k with
   | false=>
    obtain rfl:E=6:=by rw[HEE.out,eP,eQ];show (if dD sh l S 2 n k=true then (0:Int) else 6)=6;have h:=HMF.out;rw[eP,eQ,eF]at h;rw[<-show false=dD sh l S 2 n k by simpa using h];rfl
    exact ur
   | true=>
    obtain rfl:E=0:=by rw[HEE.out,eP,eQ];show (if dD sh l S 2 n k=true then (0:Int) else 6)=0;have h:=HMF.out;rw[eP,eQ,eF]at h;rw[<-show true=dD sh l S 2 n k by simpa using h];rfl
    obtain rfl:S9=dM sh l S n k:=HRS.out rfl
    go_wp2_with fail
    refine(CD.out _ BVM.out).mono ?_;rintro e VD ⟨q,rfl,hq,hbd⟩;have BVD:=Hi (aC BVM.out hbd);clear p0 p1 q0 q1 q2 q3 r0 r1 r2 s0 s1 s2 s3;obtain⟨p0,p1,q0,q1,q2,q3,r0,r1,r2,s0,s1,s2,s3⟩:=KEEP.out VD BVD.out;have sf:=fun j=>(BVD.out.frozen (p:=⟨w.heap.size+3,j,Q⟩) (by have:=sz.out;show w.heap.size+3<_;omega)).trans (SF.out j)
    obtain⟨x0,x1,x2,x3⟩:=nY q s0 s1 s2 s3;have hlt:w.heap.size+3<VM.heap.size:=by have:=sz.out;have:=BVM.out.size;omega
    have FS:Hid (StaF w.heap.size _ q ((((VD.setCell _ (J q.sa q.sn q.sc)).setCell _ (J q.ra q.rn q.rc)).setCell _ (J q.wa q.wn q.tc)).setCell _ (J q.va q.vn q.vc))):=((((hq.set _ 0 _ hlt).set _ 1 _ hlt).set _ 2 _ hlt).set _ 3 _ hlt).low om;have FB:Hid (Below w.heap.size w ((((VD.setCell ⟨w.heap.size+3,0,Q⟩ (J q.sa q.sn q.sc)).setCell ⟨w.heap.size+3,1,Q⟩ (J q.ra q.rn q.rc)).setCell ⟨w.heap.size+3,2,Q⟩ (J q.wa q.wn q.tc)).setCell ⟨w.heap.size+3,3,Q⟩ (J q.va q.vn q.vc))):=aG (aG (aG (aG (aC hW.out BVD.out) sm _) sm _) sm _) sm _;clear hq hbd BVD BVM BV5;exact yt
end
end Go.Proofs.YtcgpkonfneofdaaGreatDoor
