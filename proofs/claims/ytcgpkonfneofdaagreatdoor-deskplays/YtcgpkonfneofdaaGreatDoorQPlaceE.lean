/- Conditions: those that each theorem states. -/
import Derived.Test.YtcgpkonfneofdaaGreatDoorQPlaceC
set_option maxRecDepth 100000
set_option maxHeartbeats 8000000
namespace Go.Proofs.YtcgpkonfneofdaaGreatDoor
open Go.RowKit Go.Proofs.Tryz
open Go.Value renaming slice->J,int->Y,bool->bo,pointer->pd,agg->ag,tuple->tu,string->sg,iface->fc
open Go.IntKind renaming i64->I
open Go.Obj renaming cells->U
open Go.Ending renaming returned->rt,panicked->pg
open Option renaming some->M,none->Q
variable {p:Prop}
theorem un (h:p:=by
 have H:=Hi h;clear h;go_enter_defers func265,ntmps265
 go_wp2_with fail
 refine H.out.mono ?_;clear H;rintro e w1 ⟨g,c,rfl,ho,hb⟩;have hc:w1.cell? ⟨w.heap.size,0,Q⟩=Y I 0:=by rw[hb.cell sm];simp
 have hf:w1.frozen? ⟨w.heap.size,0,Q⟩=false:=by rw[hb.frozen sm];simp
 have hB:=Hi (aC (aA br _) hb)
 have hgl:w.heap.size<g:=by
  have:=(ho.lt g (by simp[Value.ownBlock])).1;simp at this;omega
 have hO:Hid (w1.ownsRow w.heap.size 4 1 _ sh _):=lL ho sm;clear hb ho;go_wp2;refine leaves_cons (f:=279) (args:=#[pd (M ⟨w.heap.size,0,Q⟩)]) sm (by simp[go_sem]) ?_;refine(uW ⟨w.heap.size,0,Q⟩ _).mono ?_;rintro e u' w'' ⟨rfl,rfl,rfl⟩;simp[Leaves,settle,results,results265,go_sem,hc];refine⟨g,c,⟨rfl,rfl⟩,?_,?_⟩
 ·exact hO.out.kept (kO w1 w.heap.size 0 _) (.inr (by simp[Value.ownBlock];omega))
 ·exact aG hB.out nr _):p:=h
section
theorem uW (p:Addr) (w:World) :
  CallsD prog 279 #[pd (M p)] .returning w fun e u' w'=>e=rt (tu #[])/\u'=.returning/\w'=w:=by
 refine callsD_of_wpS func279 rfl fun c₀ cs hu=>?_
 apply wpS_seq;apply wpS_region;simp[wpOpsS,go_sem,recoverD,hu,ntmps279,Exit.thenS];apply wpS_seq;apply wpS_region;simp[wpOpsS,go_sem,Exit.thenS];refine wpS_cond (t:=false) (by simp[Act.eval,Array.replicate]) ?_;simp only[Bool.false_eq_true,if_false];refine wpS_of_wp (wp_skip ?_)
 cases c₀
 simp_all [bodyPostS,results,results279]
theorem vI (cap:Array Value) (sh:Nat) (bs:List Bool) (w:World)
  (h:Calls prog 266 cap (w.alloc (U #[Y I 0] 22)) fun e w'=>∃g c,e=rt (J (M ⟨g,0,Q⟩) sh c)/\w'.ownsRow (w.alloc (U #[Y I 0] 22)).heap.size 4 1 (J (M ⟨g,0,Q⟩) sh c) sh (bs.map bo)/\Below (w.alloc (U #[Y I 0] 22)).heap.size (w.alloc (U #[Y I 0] 22)) w') :
  Calls prog 265 #[.func (.func 266) #[] cap] w fun e w'=>∃g c,e=rt (tu #[J (M ⟨g,0,Q⟩) sh c,Y I 0])/\w'.ownsRow w.heap.size 4 1 (J (M ⟨g,0,Q⟩) sh c) sh (bs.map bo)/\Below w.heap.size w w':=by
 exact un
theorem sE (cap:Array Value) (sh:Nat) (bs:List Bool) (w:World)
  (h:Calls prog 269 cap (w.alloc (U #[Y I 0] 22)) fun e w'=>∃g c,e=rt (J (M ⟨g,0,Q⟩) sh c)/\w'.ownsRow (w.alloc (U #[Y I 0] 22)).heap.size 4 1 (J (M ⟨g,0,Q⟩) sh c) sh (bs.map bo)/\Below (w.alloc (U #[Y I 0] 22)).heap.size (w.alloc (U #[Y I 0] 22)) w') :
  Calls prog 265 #[.func (.func 269) #[] cap] w fun e w'=>∃g c,e=rt (tu #[J (M ⟨g,0,Q⟩) sh c,Y I 0])/\w'.ownsRow w.heap.size 4 1 (J (M ⟨g,0,Q⟩) sh c) sh (bs.map bo)/\Below w.heap.size w w':=by
 exact un
variable (la:Option Addr) (lc:Nat) (l:List TxA) (m n:Int)
end
theorem vd (h:p:=by
 go_wp2_with fail
 refine(jA ra ga sa rc gc sc rs gs ss j _ HXR.out).mono ?_;rintro e w' ⟨rfl,hw'⟩;rw[hw',hd];clear hw' w' hd t0 t1 d0 d1 d2 HXR hB
 go_wp2_with fail
 refine(dL ra ga sa rc gc sc rs gs ss j _ HX1.out).mono ?_;rintro e w' ⟨rfl,hw'⟩;rw[hw',hd2];clear hw' w' hd2 v0 v1 e0 e1 e2 HX1;generalize (wr.alloc (U #[J ra rs.length rc,J ga gs.length gc,J sa ss.length sc] 95)).alloc (U #[J ra rs.length rc,J ga gs.length gc,J sa ss.length sc] 95)=V at *;exact Vn):p:=h
theorem vk (h:p:=by
 rintro e w' ⟨rfl,hw'⟩;rw[hw',hd];clear hw' w' hd t0 t1 d0 d1 d2 HXR hB;generalize wr.alloc (U #[J ra rs.length rc,J ga gs.length gc,J sa ss.length sc] 95)=V at *;exact Vn):p:=h
theorem Us (h:p:=by
 have h:=(ho1.stored (j%sh) (bo true)).1;rw[HT.out,List.map_set];exact h):p:=h
theorem Vn (h:p:=by
 go_wp2;go_roundw
 case rel=>exact⟨j+1,by omega,by go_num,R1,R2.out⟩
 case measure=>simp[intOf];omega):p:=h
theorem X7 (h:p:=by
 go_wp2_with fail
 refine(dL ra ga sa rc gc sc rs gs ss j _ HXR.out).mono ?_;exact vk):p:=h
theorem X9 (h:p:=by
 clear hown hgr;go_wp2;go_ret;exact⟨M ⟨g,0,Q⟩,sh,rfl,hfin.out,hB.out⟩):p:=h
section
theorem aAw (rs ks:List Int) (j:Nat) (h:(j:Int)∈ks∨(j:Int)∈rs):aT (bQ rs ks (j+1))=aT (bQ rs ks j)++[(j:Int)]:=by
 rw[bQ,if_pos h];simp[aT]
theorem keysIn_off (rs ks:List Int) (j:Nat) (h:¬((j:Int)∈ks∨(j:Int)∈rs)):aT (bQ rs ks (j+1))=aT (bQ rs ks j):=by
 rw[bQ,if_neg h];simp[aT]
theorem setsIn_on (rs ks:List Int) (j:Nat) (h:(j:Int)∈ks):aR (bQ rs ks (j+1))=aR (bQ rs ks j)++[(j:Int)]:=by
 rw[bQ,if_pos (.inl h)];unfold aR;rw[List.filter_append,ny];simp[h]
theorem setsIn_off (rs ks:List Int) (j:Nat) (h:¬(j:Int)∈ks):aR (bQ rs ks (j+1))=aR (bQ rs ks j):=by
 rw[bQ];unfold aR;rw[List.filter_append,ny];by_cases c:(j:Int)∈ks∨(j:Int)∈rs
 ·rw[if_pos c];simp[h]
 ·rw[if_neg c];simp
theorem xM (sh j:Nat) (ks:List Int):aY sh (ks++[(j:Int)])=(aY sh ks).set (j%sh) true:=by rw[xL];simp
variable (la:Option Addr) (lc:Nat) (l:List TxA)
theorem fS (sh k:Nat) (w:World) (hl:IsTxs w la l) (he:yO sh l k=0) :
  Calls prog 90 #[ag #[Y I sh,J la l.length lc],Y I k] w fun e w'=>∃a c,e=rt (J a (aY sh (aT (aO l k))).length c)/\IsBools w' a (aY sh (aT (aO l k)))/\Below w.heap.size w w':=by
 obtain⟨i0,hi,hz0,hz1,hz2⟩:=info_parts info4;have hsh:=aX (kV he).1;have hkl:k<l.length:=by have:=qM (kV he).2;omega
 have s0:0<sh:=om;have s4:sh<=4:=om;have HM:=Hi (qP sh s4);rw[bN];obtain⟨b,off,rfl,hb,c0,c1,c2,hx⟩:=hl k hkl;have HX:=Hi hx;have HLK:Hid (aO l k=bQ (l.getD k x0).rs _ 8):=rfl;clear hx hl he hsh;generalize aO l k=L at *;generalize l.getD k x0=x at *;obtain⟨ra,ga,sa,rc,gc,sc,rs,gs,ss⟩:=x;simp only at c0 c1 c2 HLK;have q0:(w.alloc (U #[Y I sh,J (M ⟨b,off,Q⟩) l.length lc] 29)).cell? ⟨w.heap.size,0,Q⟩=Y I sh:=sm;have q1:(w.alloc (U #[Y I sh,J (M ⟨b,off,Q⟩) l.length lc] 29)).cell? ⟨w.heap.size,1,Q⟩=J (M ⟨b,off,Q⟩) l.length lc:=sm;have hU:Below _ w (w.alloc (U #[Y I sh,J (M ⟨b,off,Q⟩) l.length lc] 29)):=aA br _;have hsz:w.heap.size+1=(w.alloc (U #[Y I sh,J (M ⟨b,off,Q⟩) l.length lc] 29)).heap.size:=sm;go_enter func90,ntmps90
 go_wp2_with (first | (at_make;refine wpList_make_full _ rfl _ _ 104 rfl (w.heap.size+1) 4 i0 (bo false) 1 underlying104 hi hz0 hz1 I I _ _ sh rfl rfl rfl rfl (by rw[hz2];omega) (by unfold maxLen;omega) sm ?_;intro w1 hown hgrow) | go_in)
 generalize w.alloc (U #[Y I sh,J (M ⟨b,off,Q⟩) l.length lc] 29)=W at *;rw[HM.out]at hown;have UW:=l9 (n7 (w.heap.size+1) W) hgrow om (fun j hj=>by cases hj);have r0:=(UW.cell (p:=⟨w.heap.size,0,Q⟩) sm).trans q0;have r1:=(UW.cell (p:=⟨w.heap.size,1,Q⟩) sm).trans q1;have hW1:=Hi (hU.trans (UW.mono om))
 have hg1:W.heap.size<w1.heap.size:=by
  exact UN
 have hm0:Hid (w1.ownsRow _ 4 1 _ sh ((aY sh (aT (bQ rs (aJ ss) 0))).map _)):=hown;clear q0 q1 hU UW hown hgrow HM;generalize W.heap.size=g at *;have hgw:w.heap.size≠g:=om;go_wp2
 go_loopw [6] (fun i wr=>∃j:Nat,j<=8/\i=Y I j/\Hid (wr.ownsRow (w.heap.size+1) 4 1 (J (M ⟨g,0,Q⟩) sh sh) sh ((aY sh (aT (bQ rs (aJ ss) j))).map bo))/\w1.grownBy wr (M g)) (fun i _=>8 - (intOf i).toNat)
 case atStart=>exact⟨0,nz,rfl,hm0,wv _ _⟩
 case round=>
  obtain⟨j,hj,rfl,hown,hgr⟩:=hrel;clear hm0;have hB:=Hi (hW1.out.trans ((l9 (n7 w.heap.size w1) hgr om (fun j hj=>by injection hj with hj;omega))));by_cases hlt:j<8
  ·have t0:=hgr.cell r0 (by simpa using hgw);have t1:=hgr.cell r1 (by simpa using hgw);have d0:=aB hB.out c0;have d1:=aB hB.out c1;have d2:=aB hB.out c2;have HXR:Hid (IsTx wr ra ga sa rs gs ss):=HX.out.t.below hB.out;have ku:∀o,Below _ wr (wr.alloc o):=fun o=>aA br _
   have kv:∀o,Below (wr.alloc o).heap.size _ ((wr.alloc o).alloc o):=fun o=>aA br _
   have hm1:(0:Int)<=((j%sh:Nat):Int):=om;have hm2:((j%sh:Nat):Int)<(sh:Int):=by have:=l7 j s0;omega
   by_cases hr:(j:Int)∈rs
   ·have HT:Hid (aY sh (aT (bQ rs (aJ ss) (j+1)))=(aY sh (aT (bQ rs (aJ ss) j))).set (j%sh) true):=by show _=_;rw[aAw _ _ _ (.inr hr),xM]
    have hMl:(aY sh (aT (bQ rs (aJ ss) j))).length=sh:=bN sh _;have ho1:=bY hown.out (ku (U #[J ra rs.length rc,J ga gs.length gc,J sa ss.length sc] 95));have q3:=mU ho1 (j%sh) (by rw[hMl];exact l7 j s0);have q4:=ho1.frozenAt (j%sh)
    have R1:Hid (((wr.alloc (U #[J ra rs.length rc,J ga gs.length gc,J sa ss.length sc] 95)).setCell ⟨g,j%sh,Q⟩ (bo true)).ownsRow (w.heap.size+1) 4 1 (J (M ⟨g,0,Q⟩) sh sh) sh ((aY sh (aT (bQ rs (aJ ss) (j+1)))).map bo)):=by
     exact Us
    have R2:Hid (w1.grownBy ((wr.alloc (U #[J ra rs.length rc,J ga gs.length gc,J sa ss.length sc] 95)).setCell _ (bo true)) _):=(hgr.trans (lb wr _ _)).trans (kO _ g (j%sh) _);generalize (aY sh (aT (bQ rs (aJ ss) j))).getD (j%sh) false=old at *;have v0:=aB (ku (U #[J ra rs.length rc,J ga gs.length gc,J sa ss.length sc] 95)) t0;have v1:=aB (ku (U #[J ra rs.length rc,J ga gs.length gc,J sa ss.length sc] 95)) t1;have e0:=aB (ku (U #[J ra rs.length rc,J ga gs.length gc,J sa ss.length sc] 95)) d0;have e1:=aB (ku (U #[J ra rs.length rc,J ga gs.length gc,J sa ss.length sc] 95)) d1;have e2:=aB (ku (U #[J ra rs.length rc,J ga gs.length gc,J sa ss.length sc] 95)) d2;have hd:decide ((j:Int)∈rs)=true:=by simp[hr]
    clear hown hgr hr hMl ho1 ku kv HT
    go_wp2_with fail
    refine(jA ra ga sa rc gc sc rs gs ss j _ HXR.out).mono ?_;exact vk
   ·have hd:decide ((j:Int)∈rs)=false:=by simp[hr]
    have HX1:Hid (IsTx (wr.alloc (U #[J ra rs.length rc,J ga gs.length gc,J sa ss.length sc] 95)) ra ga sa rs gs ss):=HXR.out.below (ku _);by_cases hk:(j:Int)∈aJ ss
    ·have HT:Hid (aY sh (aT (bQ rs (aJ ss) (j+1)))=(aY sh (aT (bQ rs (aJ ss) j))).set (j%sh) true):=by show _=_;rw[aAw _ _ _ (.inl hk),xM]
     have hMl:(aY sh (aT (bQ rs (aJ ss) j))).length=sh:=bN sh _;have ho1:=bY (bY hown.out (ku (U #[J ra rs.length rc,J ga gs.length gc,J sa ss.length sc] 95))) (kv (U #[J ra rs.length rc,J ga gs.length gc,J sa ss.length sc] 95));have q3:=mU ho1 (j%sh) (by rw[hMl];exact l7 j s0);have q4:=ho1.frozenAt (j%sh)
     have R1:Hid (letI Z:=U #[J ra rs.length rc,J ga gs.length gc,J sa ss.length sc] 95;(((wr.alloc Z).alloc Z).setCell ⟨g,j%sh,Q⟩ (bo true)).ownsRow (w.heap.size+1) 4 1 (J (M ⟨g,0,Q⟩) sh sh) sh ((aY sh (aT (bQ rs (aJ ss) (j+1)))).map bo)):=by
      exact Us
     have R2:Hid (letI Z:=U #[J ra rs.length rc,J ga gs.length gc,J sa ss.length sc] 95;w1.grownBy (((wr.alloc Z).alloc Z).setCell _ (bo true)) _):=(hgr.trans ((lb wr _ _).trans (lb _ _ _))).trans (kO _ g (j%sh) _);generalize (aY sh (aT (bQ rs (aJ ss) j))).getD (j%sh) false=old at *;have hd2:decide ((j:Int)∈aJ ss)=true:=by simp[hk]
     have v0:=aB (ku (U #[J ra rs.length rc,J ga gs.length gc,J sa ss.length sc] 95)) t0;have v1:=aB (ku (U #[J ra rs.length rc,J ga gs.length gc,J sa ss.length sc] 95)) t1;have e0:=aB (ku (U #[J ra rs.length rc,J ga gs.length gc,J sa ss.length sc] 95)) d0;have e1:=aB (ku (U #[J ra rs.length rc,J ga gs.length gc,J sa ss.length sc] 95)) d1;have e2:=aB (ku (U #[J ra rs.length rc,J ga gs.length gc,J sa ss.length sc] 95)) d2;have f0:=aB (kv (U #[J ra rs.length rc,J ga gs.length gc,J sa ss.length sc] 95)) v0;clear hown hgr hr hk hMl ho1 ku kv HT;exact vd
    ·have HT:=Hi (keysIn_off _ _ _ (fun h=>h.elim hk hr))
     have R1:Hid (letI Z:=U #[J ra rs.length rc,J ga gs.length gc,J sa ss.length sc] 95;((wr.alloc Z).alloc Z).ownsRow (w.heap.size+1) 4 1 (J (M ⟨g,0,Q⟩) sh sh) sh ((aY sh (aT (bQ rs (aJ ss) (j+1)))).map bo)):=by
      rw[HT.out];exact bY (bY hown.out (ku _)) (kv _)
     have R2:Hid (letI Z:=U #[J ra rs.length rc,J ga gs.length gc,J sa ss.length sc] 95;w1.grownBy ((wr.alloc Z).alloc Z) _):=hgr.trans ((lb wr _ _).trans (lb _ _ _));have hd2:decide ((j:Int)∈aJ ss)=false:=by simp[hk]
     have v0:=aB (ku (U #[J ra rs.length rc,J ga gs.length gc,J sa ss.length sc] 95)) t0;have v1:=aB (ku (U #[J ra rs.length rc,J ga gs.length gc,J sa ss.length sc] 95)) t1;have e0:=aB (ku (U #[J ra rs.length rc,J ga gs.length gc,J sa ss.length sc] 95)) d0;have e1:=aB (ku (U #[J ra rs.length rc,J ga gs.length gc,J sa ss.length sc] 95)) d1;have e2:=aB (ku (U #[J ra rs.length rc,J ga gs.length gc,J sa ss.length sc] 95)) d2;clear hown hgr hr hk ku kv HT;exact vd
  ·have hjj:j=8:=om
   have hfin:Hid (IsBools wr (M ⟨g,0,Q⟩) (aY sh (aT L))):=by
    have h:=hown.out;rw[hjj,<-HLK.out]at h;exact pW h
   exact X9
theorem gJ (sh k:Nat) (w:World) (hl:IsTxs w la l) (he:yO sh l k=0) :
  Calls prog 91 #[ag #[Y I sh,J la l.length lc],Y I k] w fun e w'=>∃a c,e=rt (J a (aY sh (aR (aO l k))).length c)/\IsBools w' a (aY sh (aR (aO l k)))/\Below w.heap.size w w':=by
 obtain⟨i0,hi,hz0,hz1,hz2⟩:=info_parts info4;have hsh:=aX (kV he).1;have hkl:k<l.length:=by have:=qM (kV he).2;omega
 have s0:0<sh:=om;have s4:sh<=4:=om;have HM:=Hi (qP sh s4);rw[bN];obtain⟨b,off,rfl,hb,c0,c1,c2,hx⟩:=hl k hkl;have HX:=Hi hx;have HLK:Hid (aO l k=bQ (l.getD k x0).rs _ 8):=rfl;clear hx hl he hsh;generalize aO l k=L at *;generalize l.getD k x0=x at *;obtain⟨ra,ga,sa,rc,gc,sc,rs,gs,ss⟩:=x;simp only at c0 c1 c2 HLK;have q0:(w.alloc (U #[Y I sh,J (M ⟨b,off,Q⟩) l.length lc] 29)).cell? ⟨w.heap.size,0,Q⟩=Y I sh:=sm;have q1:(w.alloc (U #[Y I sh,J (M ⟨b,off,Q⟩) l.length lc] 29)).cell? ⟨w.heap.size,1,Q⟩=J (M ⟨b,off,Q⟩) l.length lc:=sm;have hU:Below _ w (w.alloc (U #[Y I sh,J (M ⟨b,off,Q⟩) l.length lc] 29)):=aA br _;have hsz:w.heap.size+1=(w.alloc (U #[Y I sh,J (M ⟨b,off,Q⟩) l.length lc] 29)).heap.size:=sm;go_enter func91,ntmps91
 go_wp2_with (first | (at_make;refine wpList_make_full _ rfl _ _ 104 rfl (w.heap.size+1) 4 i0 (bo false) 1 underlying104 hi hz0 hz1 I I _ _ sh rfl rfl rfl rfl (by rw[hz2];omega) (by unfold maxLen;omega) sm ?_;intro w1 hown hgrow) | go_in)
 generalize w.alloc (U #[Y I sh,J (M ⟨b,off,Q⟩) l.length lc] 29)=W at *;rw[HM.out]at hown;have UW:=l9 (n7 (w.heap.size+1) W) hgrow om (fun j hj=>by cases hj);have r0:=(UW.cell (p:=⟨w.heap.size,0,Q⟩) sm).trans q0;have r1:=(UW.cell (p:=⟨w.heap.size,1,Q⟩) sm).trans q1;have hW1:=Hi (hU.trans (UW.mono om))
 have hg1:W.heap.size<w1.heap.size:=by
  exact UN
 have hm0:Hid (w1.ownsRow _ 4 1 _ sh ((aY sh (aR (bQ rs (aJ ss) 0))).map _)):=hown;clear q0 q1 hU UW hown hgrow HM;generalize W.heap.size=g at *;have hgw:w.heap.size≠g:=om;go_wp2
 go_loopw [6] (fun i wr=>∃j:Nat,j<=8/\i=Y I j/\Hid (wr.ownsRow (w.heap.size+1) 4 1 (J (M ⟨g,0,Q⟩) sh sh) sh ((aY sh (aR (bQ rs (aJ ss) j))).map bo))/\w1.grownBy wr (M g)) (fun i _=>8 - (intOf i).toNat)
 case atStart=>exact⟨0,nz,rfl,hm0,wv _ _⟩
 case round=>
  obtain⟨j,hj,rfl,hown,hgr⟩:=hrel;clear hm0;have hB:=Hi (hW1.out.trans ((l9 (n7 w.heap.size w1) hgr om (fun j hj=>by injection hj with hj;omega))));by_cases hlt:j<8
  ·have t0:=hgr.cell r0 (by simpa using hgw);have t1:=hgr.cell r1 (by simpa using hgw);have d0:=aB hB.out c0;have d1:=aB hB.out c1;have d2:=aB hB.out c2;have HXR:Hid (IsTx wr ra ga sa rs gs ss):=HX.out.t.below hB.out;have ku:∀o,Below _ wr (wr.alloc o):=fun o=>aA br _
   have hm1:(0:Int)<=((j%sh:Nat):Int):=om;have hm2:((j%sh:Nat):Int)<(sh:Int):=by have:=l7 j s0;omega
   by_cases hk:(j:Int)∈aJ ss
   ·have HT:Hid (aY sh (aR (bQ rs (aJ ss) (j+1)))=(aY sh (aR (bQ rs (aJ ss) j))).set (j%sh) true):=by show _=_;rw[setsIn_on _ _ _ hk,xM]
    have hMl:(aY sh (aR (bQ rs (aJ ss) j))).length=sh:=bN sh _;have ho1:=bY hown.out (ku (U #[J ra rs.length rc,J ga gs.length gc,J sa ss.length sc] 95));have q3:=mU ho1 (j%sh) (by rw[hMl];exact l7 j s0);have q4:=ho1.frozenAt (j%sh)
    have R1:Hid (((wr.alloc (U #[J ra rs.length rc,J ga gs.length gc,J sa ss.length sc] 95)).setCell ⟨g,j%sh,Q⟩ (bo true)).ownsRow (w.heap.size+1) 4 1 (J (M ⟨g,0,Q⟩) sh sh) sh ((aY sh (aR (bQ rs (aJ ss) (j+1)))).map bo)):=by
     exact Us
    have R2:Hid (w1.grownBy ((wr.alloc (U #[J ra rs.length rc,J ga gs.length gc,J sa ss.length sc] 95)).setCell _ (bo true)) _):=(hgr.trans (lb wr _ _)).trans (kO _ g (j%sh) _);generalize (aY sh (aR (bQ rs (aJ ss) j))).getD (j%sh) false=old at *;have v0:=aB (ku (U #[J ra rs.length rc,J ga gs.length gc,J sa ss.length sc] 95)) t0;have hd:decide ((j:Int)∈aJ ss)=true:=by simp[hk]
    clear hown hgr hk hMl ho1 ku HT;exact X7
   ·have HT:Hid (aR _=aR (bQ rs _ j)):=setsIn_off _ _ _ hk
    have R1:Hid ((wr.alloc (U #[J ra rs.length rc,J ga gs.length gc,J sa ss.length sc] 95)).ownsRow (w.heap.size+1) 4 1 (J (M ⟨g,0,Q⟩) sh sh) sh ((aY sh (aR (bQ rs (aJ ss) (j+1)))).map bo)):=by
     rw[HT.out];exact bY hown.out (ku _)
    have R2:Hid (w1.grownBy (wr.alloc (U #[J ra rs.length rc,J ga gs.length gc,J sa ss.length sc] 95)) _):=hgr.trans (lb wr _ _);have hd:decide ((j:Int)∈aJ ss)=false:=by simp[hk]
    clear hown hgr hk ku HT;exact X7
  ·have hjj:j=8:=om
   have hfin:Hid (IsBools wr (M ⟨g,0,Q⟩) (aY sh (aR L))):=by
    have h:=hown.out;rw[hjj,<-HLK.out]at h;exact pW h
   exact X9
end
end Go.Proofs.YtcgpkonfneofdaaGreatDoor
