/- Conditions: those that each theorem states. -/
import Derived.Test.YtcgpkonfneofdaaGreatDoorQEithB
set_option maxRecDepth 100000
set_option maxHeartbeats 8000000
namespace Go.Proofs.YtcgpkonfneofdaaGreatDoor
open Go.RowKit Go.Proofs.Tryz
open Go.Value renaming slice->J,int->Y,bool->bo,pointer->pd,agg->ag,tuple->tu,string->sg,iface->fc
open Go.IntKind renaming i64->I
open Go.Obj renaming cells->U
open Go.Ending renaming returned->rt,panicked->pg
open Option renaming some->M,none->Q
variable {w w' V:World} {C j g0 c1 c2 c3 hi gr gw gv b i:Nat} {v u:Value} {S':SA}
section
theorem xJ {s:List Int} {ad:Addr} (hs:IsInts w (M ad) s):∀j u,((List.range s.length).map (fun k=>Y I (s.getD k 0)))[j]?=M u->w.cell? (ad.add j)=M u:=by
 intro j u hj
 have hlt:j<s.length:=by
  exact xg
 obtain⟨b,off,ha,hb,hc⟩:=hs j hlt;injection ha with ha
 subst ha;rw[bZ,hc];rw[<-hj];simp[hlt]
theorem aAn (s:List Int) (n:Nat):∀u∈(List.range n).map (fun k=>Y I (s.getD k 0)),u.oneCell'=true:=by
 intro u hu;obtain⟨k,_,rfl⟩:=List.mem_map.1 hu;rfl
variable (la:Option Addr) (lc:Nat) (l:List TxA) (sa:Option Addr) (sc:Nat) (s:List Int)
theorem sA (sh:Nat) (w:World) (hl:IsTxs w la l) (hs:IsInts w sa s) (hp:aN (sh:Int) l=0) (h8:s.length=8) :
  Calls prog 24 #[ag #[Y I sh,J la l.length lc],J sa s.length sc] w fun e w'=>∃q:Q4,e=rt (ag #[J q.sa q.sn q.sc,J q.ra q.rn q.rc,J q.wa q.wn q.tc,J q.va q.vn q.vc])/\StaF w.heap.size (jW sh l s) q w'/\Below w.heap.size w w':=by
 have hz:=aX hp;have hl8:=gZ hz.2.2;have hs0:0<sh:=om;have hr4:∀i,i<l.length->(gX l i).rs.length<=4:=fun i hi=>(bI _ _ _ (bR (eG hz.2.2 i hi)).1).1
 have HR4:=Hi hr4;have FORM:=Hi ((inv_beg sh l s h8 (fun n hn=>lR (eG hz.2.2 n hn))).f);obtain⟨W,hWe⟩:=nm (((w.alloc (U #[Y I sh,J la l.length lc] 29)).alloc (U #[J Q 0 0,J Q 0 0,J Q 0 0,J Q 0 0] 45)));have hW:Hid (Below w.heap.size w W):=by subst hWe;exact aA (aA br _) _
 have y0:W.cell? ⟨w.heap.size,0,Q⟩=Y I sh:=by subst hWe;exact aB (aA br _) (aF w _ 29 _ 0 _ rfl rfl)
 have y1:W.cell? ⟨w.heap.size,1,Q⟩=J la l.length lc:=by subst hWe;exact aB (aA br _) (aF w _ 29 _ 1 _ rfl rfl)
 have HLW:=Hi (hl.below hW.out);have HSW:=Hi (hs.below hW.out)
 have T0:Hid (∀j,j<4->W.cell? ⟨w.heap.size+1,j,Q⟩=J Q 0 0):=by
  exact Vw
 have TF:Hid (∀j,W.frozen? ⟨w.heap.size+1,j,Q⟩=false):=by subst hWe;exact fun j=>aU _ _ 45 _ j sm
 have sz:Hid (W.heap.size=w.heap.size+2):=by subst hWe;show _=_;simp
 have H8:=Hi h8;obtain⟨i4,hi4,hz4,hs4',hb4'⟩:=info_parts info4;obtain⟨i3,hi3,hz3,hs3,hb3'⟩:=info_parts info3;obtain⟨i65,hi65,hz65,hs65,hb65⟩:=info_parts info104;obtain⟨i25,hi25,hz25,hs25,hb25⟩:=info_parts info41;have hb4:i4.bytes<=24:=om;have hb3:i3.bytes<=24:=om;have hm1:sh<=8:=om;obtain⟨MK4,hMK4⟩:=nm (madeCells (bo false).cells sh);have hmk4:∀w,(Instr.makeSlice 104 _ _).run prog w=.ok _ (w.alloc (U MK4 4)):=fun w=>by rw[hMK4];exact wY w 104 4 i4 _ underlying104 hi4 hz4 hs4' hb4 sh hm1
 have HMK4:=Hi hMK4;obtain⟨sb,so,esa,_,_⟩:=hs 0 om;subst esa;have hnews:=Hi (fun o=>xJ ((hs.below hW.out).below (aA br o)));clear hl hs hz hp hr4 h8 hMK4;have HWe:Hid (W=_):=hWe;clear hWe;go_enter func24,ntmps24
 go_upto_region 1 with fail
 rw[<-HWe.out];clear HWe;have Y1:=Hi y1;have Y0:=Hi y0;clear y0 y1
 go_upto_region 2 with (first
   | (at_builtin;refine wpList_append_own _ rfl _ _ 41 rfl W.heap.size 3 i3 (.int .i64 0) 1 8 underlying41 hi3 hz3 hs3 hb3' rfl dc _ 0 [] rfl (lv W #[] 0 nr dc rfl) ⟨sb,so,none⟩ s.length sc ((List.range s.length).map (fun k=>Y I (s.getD k 0))) rfl sm (hnews.out _) (aAn s _) (by have:=H8.out;unfold maxLen;omega) (by have:=H8.out;omega) sm ?_;intro v' w2 hown' hgrow _;rw[List.nil_append,nw]at hown';obtain⟨a',c',g0,rfl,hn0⟩:=pC hown')
   | go_in)
 rw[H8.out]at hn0 ⊢;have hb2:=(aA br _).grown hgrow sm (fun j hj=>by cases hj;exact nr);have B2:=Hi hb2;have R0:=Hi hn0
 have hWw:Hid (w.heap.size+2<=W.heap.size/\w.heap.size+1<w2.heap.size/\g0<w2.heap.size):=by
  exact VL
 have bU:Below w2.heap.size w2 (w2.alloc (U #[J a' 8 c',J Q 0 0,J Q 0 0,J Q 0 0] 45)):=aA br _
 have BG0:Hid (Beg w2 _ w2.heap.size (J a' 8 c') _ _ _ 0 0 0 sh l [] [] [] (fun _=>0) (fun _=>0) (fun _=>0)):=
  ⟨aF _ _ 45 _ 0 _ rfl rfl,aF _ _ 45 _ 1 _ rfl rfl,aF _ _ 45 _ 2 _ rfl rfl,aF _ _ 45 _ 3 _ rfl rfl,fun j=>aU _ _ 45 _ j rfl,CR.nil _ _ _ _ _ _,CR.nil _ _ _ _ _ _,CR.nil _ _ _ _ _ _,(fun b h _=>h.elim (fun h=>by cases h) (fun ⟨i,hi,_⟩=>absurd hi (nl _))),(fun b h _=>h.elim (fun h=>by cases h) (fun ⟨i,hi,_⟩=>absurd hi (nl _))),(fun b h _=>h.elim (fun h=>by cases h) (fun ⟨i,hi,_⟩=>absurd hi (nl _))),bU,nr,by simp⟩
 clear bU hn0 hb2 hown' hgrow hnews
 go_upto_region 2 with fail
 generalize (w2.alloc (U #[J a' 8 c',J Q 0 0,J Q 0 0,J Q 0 0] 45))=W3 at *
 go_upto_region 3 with fail
 go_loopw [6] (fun i wr=>∃(k:Nat) (v1 v2 v3:Value) (L1 L2 L3:List (Option Addr×Nat×Nat)) (B1 B2 B3:Nat->Nat),k<=l.length/\i=Y I k/\Hid (Beg w2 wr w2.heap.size (J a' 8 c') v1 v2 v3 k k k sh l L1 L2 L3 B1 B2 B3)) (fun i _=>l.length - (intOf i).toNat)
 case atStart=>exact⟨0,_,_,_,_,_,_,_,_,_,nz,rfl,BG0⟩
 case round=>
  obtain⟨k,v1,v2,v3,L1,L2,L3,B1,B2',B3,hk,rfl,hB⟩:=hrel;clear BG0;by_cases hlt:k<l.length
  ·obtain⟨b,off,ea,_,t0,t1,t2,hx⟩:=(HLW.out.below B2.out) k hlt;subst ea;have d0:=aB hB.out.bl t0;have i1:(k:Int)<(l.length:Int):=om;have i0:(0:Int)<=(k:Int):=om;have hr4:=HR4.out k hlt;have y1:=aB (aC B2.out hB.out.bl) Y1.out;clear t1 t2 hx;generalize hgx:l.getD k x0=x at d0 t0;have D0:=Hi t0;clear t0;have HXE:Hid (gX l k=x):=hgx;rw[show gX l k=x from hgx]at hr4;clear hgx;obtain⟨MK3,hMK3⟩:=nm (madeCells (Y I 0).cells x.rs.length);have hmk3:∀w,(Instr.makeSlice 41 _ _).run prog w=.ok _ (w.alloc (U MK3 3)):=fun w=>by rw[hMK3];exact wY w 41 3 i3 _ underlying41 hi3 hz3 hs3 hb3 _ om
   have HMK3:=Hi hMK3;clear hMK3
   go_upto_region 5 with fail
   clear d0 y1;have HB1:=hB;clear hB;obtain⟨V,hren⟩:=nm (wr);subst hren;have P0:Hid (∀w',Below w2.heap.size w2 w'->w'.cell? _=M _):=fun w' hb=>aB (aC B2.out hb) Y0.out
   have e0:=P0.out V HB1.out.bl;have hbN:Below V.heap.size V (((V.drew).alloc (U MK4 4)).alloc (U #[J (M ⟨V.heap.size,0,Q⟩) sh sh] 104)):=aA (aA (aD br) _) _;have HBN:=Hi hbN;have HN:=Hi (HB1.out.below hbN);have c1:=HB1.out.c1;have od1:=fun o=>aB (aA br o) c1
   have od2:=fun o o'=>aB (aA (aA br o) o') c1
   have hsm:Hid (L1.length<=100):=by show _<=_;have e:=HB1.out.r1.n;omega
   clear hbN
   go_cut [] (fun wx=>∃(v1':Value) (L1':List (Option Addr×Nat×Nat)) (B1':Nat->Nat),Hid (Beg w2 wx w2.heap.size (J a' 8 c') v1' v2 v3 (k+1) k k sh l L1' L2 L3 B1' B2' B3))
   case first=>
    go_region_law (first
      | (refine bO (by rfl) _ _ 42 104 (by rfl) i65 _ underlying42 hi65 hz65 hs65 hb65 rfl (w2.heap.size+1) v1 L1.length _ (by rfl) HN.out.r1.o ⟨_,0,none⟩ 1 (.slice (some ⟨V.heap.size,0,none⟩) sh sh) (by rfl) (aF _ _ 104 _ 0 _ sm rfl) rfl hsm.out HN.out.hs ?_;intro v' w5 ho3 hg3 hv3;obtain⟨g',cap',rfl,_,_⟩:=ho3.form sm;have oc:=hg3.cell HN.out.c1 (fun e=>by have:=(HN.out.r1.o.lt w2.heap.size e.symm).1;omega);have of3:=(nv (a:=⟨w2.heap.size,1,Q⟩) (hg3.block w2.heap.size HN.out.hs (fun e=>by have:=(HN.out.r1.o.lt w2.heap.size e.symm).1;omega))).trans (HN.out.fz 1)))
    all_goals (
     go_wp2_with fail
     go_meet;obtain⟨B',PB⟩:=Beg.push1 HB1.out HBN.out ho3 hg3 hv3 (by rw[HMK4.out];exact mN rfl);exact⟨_,_,B',PB⟩)
   case rest=>
    obtain⟨v1',L1',B1',HB2⟩:=hcut;obtain⟨V2,hren⟩:=nm (wc);subst hren;clear c1 od1 od2 hsm HN HBN HB1 e0;have e0:=P0.out V2 HB2.out.bl;have hbN:Below V2.heap.size V2 (((V2.drew).alloc (U MK4 4)).alloc (U #[J (M ⟨V2.heap.size,0,Q⟩) sh sh] 104)):=aA (aA (aD br) _) _;have HBN:=Hi hbN;have HN:=Hi (HB2.out.below hbN);have c2:=HB2.out.c2;have od1:=fun o=>aB (aA br o) c2
    have od2:=fun o o'=>aB (aA (aA br o) o') c2
    have hsm:Hid (L2.length<=100):=by show _<=_;have e:=HB2.out.r2.n;omega
    clear hbN
    go_upto_region 6 with fail
    go_cut [] (fun wx=>∃(v2':Value) (L2':List (Option Addr×Nat×Nat)) (B2'':Nat->Nat),Hid (Beg w2 wx w2.heap.size (J a' 8 c') v1' v2' v3 (k+1) (k+1) k sh l L1' L2' L3 B1' B2'' B3))
    case first=>
     go_region_law (first
      | (refine bO (by rfl) _ _ 42 104 (by rfl) i65 _ underlying42 hi65 hz65 hs65 hb65 rfl (w2.heap.size+1) v2 L2.length _ (by rfl) HN.out.r2.o ⟨_,0,none⟩ 1 (.slice (some ⟨V2.heap.size,0,none⟩) sh sh) (by rfl) (aF _ _ 104 _ 0 _ sm rfl) rfl hsm.out HN.out.hs ?_;intro v' w5 ho3 hg3 hv3;obtain⟨g',cap',rfl,_,_⟩:=ho3.form sm;have oc:=hg3.cell HN.out.c2 (fun e=>by have:=(HN.out.r2.o.lt w2.heap.size e.symm).1;omega);have of3:=(nv (a:=⟨w2.heap.size,2,Q⟩) (hg3.block w2.heap.size HN.out.hs (fun e=>by have:=(HN.out.r2.o.lt w2.heap.size e.symm).1;omega))).trans (HN.out.fz 2)))
     all_goals (
      go_wp2_with fail
      go_meet;obtain⟨B',PB⟩:=Beg.push2 HB2.out HBN.out ho3 hg3 hv3 (by rw[HMK4.out];exact mN rfl);exact⟨_,_,B',PB⟩)
    case rest=>
     obtain⟨v2',L2',B2'',HB3⟩:=hcut;obtain⟨V3,hren⟩:=nm (wc);subst hren;clear c2 od1 od2 hsm HN HBN HB2 e0 P0;have hbN:Below V3.heap.size V3 (((V3.drew).alloc (U MK3 3)).alloc (U #[J (M ⟨V3.heap.size,0,Q⟩) x.rs.length x.rs.length] 41)):=aA (aA (aD br) _) _;have HBN:=Hi hbN;have HN:=Hi (HB3.out.below hbN);have c3:=HB3.out.c3;have od1:=fun o=>aB (aA br o) c3
     have od2:=fun o o'=>aB (aA (aA br o) o') c3
     have hsm:Hid (L3.length<=100):=by show _<=_;have e:=HB3.out.r3.n;omega
     clear hbN;have e1:=aB (aC B2.out HB3.out.bl) Y1.out;have e2:=aB HB3.out.bl D0.out
     go_upto_region 7 with fail
     go_region_law (first
      | (refine bO (by rfl) _ _ 43 41 (by rfl) i25 _ underlying43 hi25 hz25 hs25 hb25 rfl (w2.heap.size+1) v3 L3.length _ (by rfl) HN.out.r3.o ⟨_,0,none⟩ 1 (.slice (some ⟨V3.heap.size,0,none⟩) x.rs.length x.rs.length) (by rfl) (aF _ _ 41 _ 0 _ sm rfl) rfl hsm.out HN.out.hs ?_;intro v' w5 ho3 hg3 hv3;obtain⟨g',cap',rfl,_,_⟩:=ho3.form sm;have oc:=hg3.cell HN.out.c3 (fun e=>by have:=(HN.out.r3.o.lt w2.heap.size e.symm).1;omega);have of3:=(nv (a:=⟨w2.heap.size,3,Q⟩) (hg3.block w2.heap.size HN.out.hs (fun e=>by have:=(HN.out.r3.o.lt w2.heap.size e.symm).1;omega))).trans (HN.out.fz 3)))
     all_goals (
      have HP:=Hi (Beg.push3 (g:=V3.heap.size) HB3.out HBN.out (by rw[HXE.out];exact ho3) hg3 hv3 (by rw[HXE.out,HMK3.out];exact mN rfl));clear c3 od1 od2 hsm HN HBN HB3 ho3 hg3 hv3 oc of3 e1 e2;generalize (w5.setCell ⟨w2.heap.size,3,Q⟩ (J (M ⟨g',0,Q⟩) (L3.length+1) cap'))=WF at *;go_wp2;go_roundw
      case rel=>exact Vv
      case measure=>simp[intOf];omega)
  ·have hkk:k=l.length:=om;subst hkk;have i1:¬(l.length:Int)<(l.length:Int):=om;obtain⟨a1,k1,g1,hv1,o1⟩:=hB.out.r1.fin;obtain⟨a2,k2,g2,hv2,o2⟩:=hB.out.r2.fin;obtain⟨a3,k3,g3,hv3,o3⟩:=hB.out.r3.fin;subst hv1 hv2 hv3;have z0:=hB.out.c0;have z1:=hB.out.c1;have z2:=hB.out.c2;have z3:=hB.out.c3;have bw:=aC B2.out hB.out.bl;have yy:=aB bw Y1.out;have v0:=aB bw (T0.out 0 dc);have v1:=aB bw (T0.out 1 dc);have v2:=aB bw (T0.out 2 dc);have v3:=aB bw (T0.out 3 dc);have vf:=fun j=>(bw.frozen (p:=⟨w.heap.size+1,j,Q⟩) (by have:=sz.out;show w.heap.size+1<_;omega)).trans (TF.out j)
   have RN:NewRow (w.heap.size+2) wr a' c' g0 8 (fun k=>Y I (s.getD k 0)):=by
    exact zu
   have FQ:Hid (BegQ (w.heap.size+2) l sh (jW sh l s) ⟨a',a1,a2,a3,8,l.length,l.length,l.length,c',k1,k2,k3⟩ wr):=by
    have hC:w.heap.size+2<=w2.heap.size+1:=by have:=hWw.out;omega
    exact vw
   have FF:Hid (BegQ (w.heap.size+2) l sh (jW sh l s) _ ((((wr.setCell _ (J a' 8 c')).setCell _ (J a1 l.length k1)).setCell _ (J a2 l.length k2)).setCell _ (J a3 l.length k3))/\Below w.heap.size w ((((wr.setCell ⟨w.heap.size+1,0,Q⟩ (J a' 8 c')).setCell ⟨w.heap.size+1,1,Q⟩ (J a1 l.length k1)).setCell ⟨w.heap.size+1,2,Q⟩ (J a2 l.length k2)).setCell ⟨w.heap.size+1,3,Q⟩ (J a3 l.length k3))):=⟨(((FQ.out.set _ 0 _ (nk _)).set _ 1 _ (nk _)).set _ 2 _ (nk _)).set _ 3 _ (nk _),aG (aG (aG (aG (aC hW.out bw) (ll _) _) (ll _) _) (ll _) _) (ll _) _⟩;clear FQ RN o1 o2 o3 hB bw
   go_wp2_with fail
   have x0:((((wr.setCell _ _).setCell ⟨w.heap.size+1,1,Q⟩ (J a1 l.length k1)).setCell ⟨w.heap.size+1,2,Q⟩ (J a2 l.length k2)).setCell ⟨w.heap.size+1,3,Q⟩ (J a3 l.length k3)).cell? _=J a' 8 c':=(aE dc (aE dc (aE dc (aK v0))));have x1:((((wr.setCell ⟨w.heap.size+1,0,Q⟩ (J a' 8 c')).setCell _ _).setCell ⟨w.heap.size+1,2,Q⟩ (J a2 l.length k2)).setCell ⟨w.heap.size+1,3,Q⟩ (J a3 l.length k3)).cell? _=J a1 l.length k1:=(aE dc (aE dc (aK (aE dc v1))));have x2:((((wr.setCell ⟨w.heap.size+1,0,Q⟩ (J a' 8 c')).setCell ⟨w.heap.size+1,1,Q⟩ (J a1 l.length k1)).setCell _ _).setCell ⟨w.heap.size+1,3,Q⟩ (J a3 l.length k3)).cell? _=J a2 l.length k2:=(aE dc (aK (aE dc (aE dc v2))));have x3:((((wr.setCell ⟨w.heap.size+1,0,Q⟩ (J a' 8 c')).setCell ⟨w.heap.size+1,1,Q⟩ (J a1 l.length k1)).setCell ⟨w.heap.size+1,2,Q⟩ (J a2 l.length k2)).setCell _ _).cell? _=J a3 l.length k3:=(aK (aE dc (aE dc (aE dc v3))));generalize ((((wr.setCell ⟨w.heap.size+1,0,Q⟩ (J a' 8 c')).setCell ⟨w.heap.size+1,1,Q⟩ (J a1 l.length k1)).setCell ⟨w.heap.size+1,2,Q⟩ (J a2 l.length k2)).setCell ⟨w.heap.size+1,3,Q⟩ (J a3 l.length k3))=W7 at *;refine bodyPost_ret (v:=ag #[J a' 8 c',J a1 l.length k1,J a2 l.length k2,J a3 l.length k3]) (by simp[results,results24,go_sem,x0,x1,x2,x3]) rfl ⟨⟨a',a1,a2,a3,8,l.length,l.length,l.length,c',k1,k2,k3⟩,rfl,(FF.out.1.staF hs0).low om,FF.out.2⟩
end
section
theorem tK {e:Nat} {n:Nat} {xs:List Value} (hh:w'.heap=w.heap) (h:w.ownsRow C e 1 v n xs):w'.ownsRow C e 1 v n xs:=by
 unfold World.ownsRow at *;rw[hh];exact h
theorem iJ {ops:Array Oper} {o:Oper} {a:Act} {K:Act->World->Prop} {Qq:Exit->Act->World->Prop} {E:Prop} (hgd:o.guard=Q) (s x:Operand) (t e:TypeId)
  (ho:o.op=.call {callee:=.builtin .append,args:=#[s,x],argTypes:=#[t,t]}) (i:TypeInfo) (z:Value) (ht:prog.underlying t=M (.slice e)) (hi:prog.info? e=M i) (hz:i.zero=M z) (h1:i.size=1) (h24:i.bytes<=24) (hzs:z.cells.size=1)
  (C G0:Nat) (hs:a.eval s=J (M ⟨G0,0,Q⟩) 0 0) (hown:w.ownsRow C e 1 (J (M ⟨G0,0,Q⟩) 0 0) 0 [])
  (n:Nat) (G:Nat->Value) (ra:Option Addr) (c:Nat) (hx:a.eval x=J ra n c) (hcells:∀k,k<n->∃b off,ra=M (⟨b,off,Q⟩:Addr)/\w.cell? ⟨b,off+k,Q⟩=M (G k)) (hone:∀k,k<n->(G k).oneCell'=true)
  (hsm:n<=100) (hbase:C<=w.heap.size)
  (h:∀a' c' g w',NewRow C w' a' c' g n G->w.grownBy w' (M G0)->K (a.put o.dst (J a' n c')) w') :
  if Region.wanted o (yielded ops a.tmps)=true then Oper.wp prog o a w K Qq else E:=by
 have hw:Region.wanted o (yielded ops a.tmps)=true:=by simp[Region.wanted,hgd]
 rw[if_pos hw]
 cases ra with
 | none=>
  have h0:n=0:=by
   by_cases c0:n=0
   ·exact c0
   ·obtain⟨_,_,e,_⟩:=hcells 0 om;cases e
  subst h0
  have hrun:(Builtin.append_ #[t,t] o.type #[J (M ⟨G0,0,Q⟩) 0 0,J Q 0 c]).run prog w=.ok (J (M ⟨G0,0,Q⟩) 0 0) w:=by
   simp[Builtin.append_,run_underlying ht,sizeOf,typeInfo,hi,Builtin.lenOf,Builtin.firstCells,storeCells]
  have hC:=(hown.lt G0 rfl).1;unfold Oper.wp execOp;simp only[ho,resolve,invoke,builtin,Sem.run_bind,Sem.run_pure,Result.andThen_ok,List.map_toArray,List.map_cons,List.map_nil,hs,hx,hrun];exact h _ _ G0 w ⟨fun hn=>absurd hn (Nat.lt_irrefl _),(fun e=>by cases e),(fun ad e=>by injection e with e;subst e;exact hC)⟩ (cC br _)
 | some ad=>
  obtain⟨v',w',hrun,h2,h3,_,_⟩:=run_append_own_at (P:=prog) w C t o.type e i z 1 i.bytes ht hi hz h1 rfl hzs dc _ 0 [] hown ad n c ((List.range n).map G) sm (fun j u hj=>by
   have hlt:j<n:=by
    exact xg
   obtain⟨b,off,e,d⟩:=hcells j hlt;injection e with e
   subst e;rw[bZ,d,<-hj];simp[hlt]) (fun u hu=>by
   obtain⟨k,hk,rfl⟩:=List.mem_map.1 hu
   exact hone k (List.mem_range.1 hk)) (by unfold maxLen;omega) (by
   have:(0+n)*i.bytes<=100*24:=l5 om h24;omega) hbase
  rw[List.nil_append,nw]at h2;obtain⟨a',c',g,rfl,hn⟩:=pC h2;unfold Oper.wp execOp;simp only[ho,resolve,invoke,builtin,Sem.run_bind,Sem.run_pure,Result.andThen_ok,List.map_toArray,List.map_cons,List.map_nil,hs,hx,hrun];exact h a' c' g w' hn h3
structure OS (w2 Wj:World) (O T C j:Nat) (u:Nat->Value) (wr:World) (v:Value) (k:Nat) (len:Nat->Nat) (G:Nat->Nat->Value) (L:List (Option Addr×Nat×Nat)) (B:Nat->Nat):Prop where
 c:∀m,m<4->m≠j->wr.cell? ⟨O,m,Q⟩=M (u m)
 cj:wr.cell? ⟨O,j,Q⟩=M v
 fz:∀m,wr.frozen? ⟨O,m,Q⟩=false
 cr:CR T C wr v k len G L B
 bl:Below O w2 wr
 sm:∀b,O<b->b<C->wr.heap[b]?=Wj.heap[b]?
 hC:C<=wr.heap.size
 hO:O<C
theorem OS.push {w2 Wj wN w3:World} {O T:Nat} {u:Nat->Value} {v':Value} {k:Nat} {len:Nat->Nat} {G:Nat->Nat->Value} {L:List (Option Addr×Nat×Nat)} {B:Nat->Nat} {a:Option Addr} {c g:Nat} (h:OS w2 Wj O T C j u V v k len G L B) (hb:Below V.heap.size V wN)
  (ho:w3.ownsRow C T 1 v' (L.length+1) ((L.map fun p=>J p.1 p.2.1 p.2.2)++[J a (len k) c])) (hg:wN.grownBy w3 v.ownBlock) (hv:v'.ownBlock=v.ownBlock∨v'.ownBlock=M wN.heap.size)
  (hn:NewRow V.heap.size wN a c g (len k) (G k)):∃B',OS w2 Wj O T C j u (w3.setCell ⟨O,j,Q⟩ v') v' (k+1) len G (L++[(a,len k,c)]) B':=by
 obtain⟨B',P,_⟩:=h.cr.pushed hb ho hg hv hn h.hC O j h.hO v';have hOV:=nd h.hO h.hC;have hvb:=fun b e=>(h.cr.o.lt b e).1
 have hON:=nd hOV hb.size;have blk:=fun b hbC=>(hg.block b (nd (nd hbC h.hC) hb.size) (fun e=>by have:=hvb b e.symm;omega)).trans (hb.block b (nd hbC h.hC))
 have cel:∀m x,V.cell? _=M x->w3.cell? _=M x:=fun m x e=>(nu (a:=⟨O,m,Q⟩) (blk O h.hO)).trans e
 refine⟨B',⟨fun m hm hne=>?_,?_,fun m=>?_,P,?_,fun b h1 h2=>?_,?_,h.hO⟩⟩
 ·exact aE hne (cel m _ (h.c m hm hne))
 ·exact aK (cel j _ h.cj)
 ·have e:=(nv (a:=⟨O,m,Q⟩) (blk O h.hO)).trans (h.fz m);simpa using e
 ·exact(((h.bl.trans (hb.mono (wi hOV))).grown hg (wi hON) (fun q e=>by have:=hvb q e;have:=h.hO;omega)).setCell nr _)
 ·exact(eB w3 O j v' b om).trans ((blk b h2).trans (h.sm b h1 h2))
 ·rw[n9];exact nh h.hC (nh hb.size hg.size)
variable (sa ra wa va:Option Addr) (sc rc tc vc:Nat) (l:List TxA) (sh:Nat) (S:SA)
theorem xX (w:World) (h0:0<sh) (h4:sh<=4) (h8:l.length<=8) (hr4:∀i,i<l.length->(gX l i).rs.length<=4) (hf:Form sh l S) (hs:Sta w sa ra wa va S) :
  Calls prog 132 #[ag #[J sa 8 sc,J ra l.length rc,J wa l.length tc,J va l.length vc]] w fun e w'=>∃sa' ra' wa' va' sc' rc' tc' vc' g0 c1 c2 c3 gr gw gv Br Bw Bv,e=rt (ag #[J sa' 8 sc',J ra' l.length rc',J wa' l.length tc',J va' l.length vc'])/\OwnSt w.heap.size w' sa' ra' wa' va' sc' l sh S g0 c1 c2 c3 w'.heap.size gr gw gv Br Bw Bv/\Below w.heap.size w w':=by
 obtain⟨W,hWe⟩:=nm (((w.alloc (U #[J sa 8 sc,J ra l.length rc,J wa l.length tc,J va l.length vc] 45)).alloc (U #[J Q 0 0,J Q 0 0,J Q 0 0,J Q 0 0] 45)));have hW:Hid (Below w.heap.size w W):=by subst hWe;exact aA (aA br _) _
 have Y0:Hid (W.cell? ⟨w.heap.size,0,Q⟩=J sa 8 sc):=by subst hWe;exact aB (aA br _) (aF w _ 45 _ 0 _ rfl rfl)
 have Y1:Hid (W.cell? ⟨w.heap.size,1,Q⟩=J ra l.length rc):=by subst hWe;exact aB (aA br _) (aF w _ 45 _ 1 _ rfl rfl)
 have Y2:Hid (W.cell? ⟨w.heap.size,2,Q⟩=J wa l.length tc):=by subst hWe;exact aB (aA br _) (aF w _ 45 _ 2 _ rfl rfl)
 have Y3:Hid (W.cell? ⟨w.heap.size,3,Q⟩=J va l.length vc):=by subst hWe;exact aB (aA br _) (aF w _ 45 _ 3 _ rfl rfl)
 have T0:Hid (∀j,j<4->W.cell? ⟨w.heap.size+1,j,Q⟩=J Q 0 0):=by
  exact Vw
 have TF:Hid (∀j,W.frozen? ⟨w.heap.size+1,j,Q⟩=false):=by subst hWe;exact fun j=>aU _ _ 45 _ j sm
 have sz:Hid (W.heap.size=w.heap.size+2):=by subst hWe;show _=_;simp
 have HS:=Hi (hs.below hW.out);have HF:=Hi hf;have HR4:=Hi hr4;obtain⟨i4,hi4,hz4,hs4,hb4'⟩:=info_parts info4;obtain⟨i3,hi3,hz3,hs3,hb3'⟩:=info_parts info3;obtain⟨i65,hi65,hz65,hs65,hb65⟩:=info_parts info104;obtain⟨i25,hi25,hz25,hs25,hb25⟩:=info_parts info41;have hb4:i4.bytes<=24:=om;have hb3:i3.bytes<=24:=om;have H8:=Hi hf.st;obtain⟨sb,so,esa,_,_⟩:=hs.st 0 (by rw[hf.st];decide);have hst:∀a,a=sa->IsInts _ a S.st:=fun a e=>by rw[e];exact(hs.below hW.out).st
 have hnews:=Hi (fun o=>xJ ((hst _ esa.symm).below (aA br o)));have ESA:=Hi esa;clear hs hf hr4 hst esa;have HWe:Hid (W=_):=hWe;clear hWe;go_enter func132,ntmps132
 go_upto_region 1 with fail
 rw[<-HWe.out];clear HWe;have y0:=Y0.out;rw[ESA.out,<-H8.out]at y0;have y0':=fun o=>aB (aA br o) y0
 go_upto_region 2 with (first
   | (at_builtin;refine wpList_append_own _ rfl _ _ 41 rfl W.heap.size 3 i3 (.int .i64 0) 1 8 underlying41 hi3 hz3 hs3 hb3' rfl dc _ 0 [] rfl (lv W #[] 0 nr dc rfl) ⟨sb,so,none⟩ S.st.length sc ((List.range S.st.length).map (fun k=>Y I (S.st.getD k 0))) rfl sm (hnews.out _) (aAn S.st _) (by have:=H8.out;unfold maxLen;omega) (by have:=H8.out;omega) sm ?_;intro v' w2 hown' hgrow _;rw[List.nil_append,nw]at hown';obtain⟨a',c',g0,rfl,hn0⟩:=pC hown')
   | go_in)
 rw[H8.out]at hn0 ⊢;have hb2:=(aA br _).grown hgrow sm (fun j hj=>by cases hj;exact nr);have B2:=Hi hb2;have R0:=Hi hn0
 have hWw:Hid (w.heap.size+2=W.heap.size/\w.heap.size+1<w2.heap.size/\g0<w2.heap.size/\W.heap.size<=w2.heap.size):=by
  have e2:=hb2.size;have e3:=sz.out;exact⟨by omega,by omega,(hn0.e dc).2.2.1,e2⟩
 have OS0:Hid (OS w2 _ _ 104 (w2.alloc (U #[J a' 8 c',J Q 0 0,J Q 0 0,J Q 0 0] 45)).heap.size 1 (fun m=>if m=0 then J a' 8 c' else J Q 0 0) _ _ 0 (fun _=>sh) (fun i k=>bo (cR S.rd i k)) [] (fun _=>0)):=
  ⟨(fun m hm hne=>by
   match m,hm,hne with
   | 0,_,_=>exact aF _ _ 45 _ 0 _ rfl rfl
   | 2,_,_=>exact aF _ _ 45 _ 2 _ rfl rfl
   | 3,_,_=>exact aF _ _ 45 _ 3 _ rfl rfl),aF _ _ 45 _ 1 _ rfl rfl,fun j=>aU _ _ 45 _ j rfl,CR.nil _ _ _ _ _ _,aA br _,(fun _ _ _=>rfl),nr,by simp⟩
 clear hn0 hb2 hown' hgrow hnews y0 y0'
 go_upto_region 2 with fail
 generalize (w2.alloc (U #[J a' 8 c',J Q 0 0,J Q 0 0,J Q 0 0] 45))=W1 at *
 go_upto_region 3 with fail
 go_loopw [4] (fun i wr=>∃(k:Nat) (v:Value) (L:List (Option Addr×Nat×Nat)) (B:Nat->Nat),k<=l.length/\i=Y I k/\Hid (OS w2 W1 w2.heap.size 104 W1.heap.size 1 (fun m=>if m=0 then J a' 8 c' else J Q 0 0) wr v k (fun _=>sh) (fun i k=>bo (cR S.rd i k)) L B)) (fun i _=>l.length - (intOf i).toNat)
 case atStart=>exact⟨0,_,[],(fun _=>0),nz,rfl,OS0⟩
 case round=>
  obtain⟨k,v,L,B,hk,rfl,hO⟩:=hrel;clear OS0;obtain⟨V,hren⟩:=nm (wr);subst hren;have x0:=aB (aC B2.out hO.out.bl) Y1.out;by_cases hlt:k<l.length
  ·have i1:(k:Int)<(l.length:Int):=om;obtain⟨b,off,b',off',rc',eR,q1,q2,z0,z1⟩:=(HS.out.below (aC B2.out hO.out.bl)).rd.rows HF.out.rd HF.out.rn h0 k hlt;have RC:Hid (∀m,m<sh->∃b1 o1,M _=M (⟨b1,o1,Q⟩:Addr)/\V.cell? ⟨b1,o1+m,Q⟩=M _):=fun m hm=>⟨b',off',rfl,z1 m hm⟩
   have z0:=z0;rw[eR]at x0;clear z1 q1 q2 eR;have c1:=hO.out.cj;have oa1:=fun o=>aB (aA br o) c1
   have ob1:=fun o=>aB (aA br o) x0
   have oc1:=fun o=>aB (aA br o) z0
   have hsm:Hid (L.length<=100):=by show _<=_;have e:=hO.out.cr.n;omega
   have hVO:=Hi (nd hO.out.hO hO.out.hC);have hvO:Hid (_≠M w2.heap.size):=fun e=>by have:=(hO.out.cr.o.lt _ e).1;have:=hO.out.hO;omega
   skip;have A1:Hid (∀(X:World),_=(V.alloc _).heap->X.ownsRow _ 4 1 _ 0 []):=fun X hX=>tK hX (lv V #[] 0 nr dc rfl)
   go_upto_region 5 with fail
   go_region_law (first
    | (refine iJ (by rfl) _ _ 104 4 (by rfl) i4 _ underlying104 hi4 hz4 hs4 hb4 rfl V.heap.size V.heap.size (by rfl) (A1.out _ rfl) sh (fun m=>bo (cR S.rd k m)) (M ⟨b',off',Q⟩) _ (by rfl) (fun m hm=>by obtain⟨b1,o1,e,d⟩:=RC.out m hm;exact⟨b1,o1,e,aB (aA (aD br) _) d⟩) (fun m _=>rfl) om sm ?_;intro an cn gn w4 hn4 hg4;have hb4:=((aA (aD br) _:Below V.heap.size V _)).grown hg4 sm (fun q hq=>by cases hq;exact nr);have od:=aB hb4 c1;have od2:=fun o=>aB (aA hb4 o) c1)
    | (refine bO (by rfl) _ _ 42 104 (by rfl) i65 _ underlying42 hi65 hz65 hs65 hb65 rfl W1.heap.size v L.length _ (by rfl) ((hO.out.cr.below (aA hb4 _)).o) ⟨_,0,none⟩ 1 (.slice an sh cn) (by rfl) (aF _ _ 104 _ 0 _ sm rfl) rfl hsm.out (nh hO.out.hC (aA hb4 _:Below V.heap.size V _).size) ?_;intro v' w5 ho5 hg5 hv5;obtain⟨g',cap',rfl,_,_⟩:=ho5.form sm;have oc:=hg5.cell (aB (aA hb4 _) c1) (fun e=>hvO.out e.symm);have of5:=(nv (a:=⟨w2.heap.size,1,Q⟩) (hg5.block w2.heap.size (nd hVO.out (aA hb4 _:Below V.heap.size V _).size) (fun e=>hvO.out e.symm))).trans (((aA hb4 _:Below V.heap.size V _).frozen (p:=⟨w2.heap.size,1,Q⟩) hVO.out).trans (hO.out.fz 1))))
   all_goals (
    obtain⟨B',hp⟩:=hO.out.push (aA hb4 _) ho5 hg5 hv5 (hn4.below (aA br _));have HP:=Hi hp;clear hp hO c1 oa1 ob1 oc1 ho5 hg5 hv5 hn4 hg4 hb4 od od2 oc of5 x0 z0 RC A1;generalize (w5.setCell ⟨w2.heap.size,1,Q⟩ (J (M ⟨g',0,Q⟩) (L.length+1) cap'))=WF at *;go_wp2;go_roundw
    case rel=>exact⟨k+1,_,_,B',by omega,by go_num,HP⟩
    case measure=>simp[intOf];omega)
  ·have hkk:k=l.length:=om;subst hkk;have i1:¬(l.length:Int)<(l.length:Int):=om;obtain⟨a1,k1,g1,hv1,o1⟩:=hO.out.cr.fin;subst hv1;have HO1:=Hi o1;have HS1:=Hi hO.out.sm;have HZ1:Hid (_<=_/\_<_/\_<_):=⟨hO.out.hC,nd hO.out.hO hO.out.hC,hO.out.hO⟩
   have OS0:Hid (OS w2 V _ 104 _ 2 (fun m=>if m=0 then J a' 8 c' else if m=1 then J a1 _ k1 else J Q 0 0) V (J Q 0 0) 0 (fun _=>sh) (fun i k=>bo (cR S.wr i k)) [] (fun _=>0)):=
    ⟨(fun m hm hne=>by
     match m,hm,hne with
     | 0,_,_=>exact hO.out.c 0 dc dc
     | 1,_,_=>exact hO.out.cj
     | 3,_,_=>exact hO.out.c 3 dc dc),hO.out.c 2 dc dc,hO.out.fz,CR.nil _ _ _ _ _ _,hO.out.bl,(fun _ _ _=>rfl),nr,nd hO.out.hO hO.out.hC⟩
   clear o1 hO
   go_upto_region 7 with fail
   clear x0;obtain⟨W2,hren⟩:=nm (V);subst hren;obtain⟨BB1,hBB1⟩:∃BB1:Nat->Nat,BB1=B:=⟨_,rfl⟩;subst hBB1
   go_loopw [5] (fun i wr=>∃(k:Nat) (v:Value) (L:List (Option Addr×Nat×Nat)) (B:Nat->Nat),k<=l.length/\i=Y I k/\Hid (OS w2 W2 w2.heap.size 104 W2.heap.size 2 (fun m=>if m=0 then J a' 8 c' else if m=1 then J a1 l.length k1 else J Q 0 0) wr v k (fun _=>sh) (fun i k=>bo (cR S.wr i k)) L B)) (fun i _=>l.length - (intOf i).toNat)
   case atStart=>exact⟨0,_,[],(fun _=>0),nz,rfl,OS0⟩
   case round=>
    obtain⟨k,v,L,B,hk,rfl,hO⟩:=hrel;clear OS0;obtain⟨V,hren⟩:=nm (wr);subst hren;have x0:=aB (aC B2.out hO.out.bl) Y2.out;by_cases hlt:k<l.length
    ·have i1:(k:Int)<(l.length:Int):=om;obtain⟨b,off,b',off',rc',eR,q1,q2,z0,z1⟩:=(HS.out.below (aC B2.out hO.out.bl)).wr.rows HF.out.wr HF.out.wn h0 k hlt;have RC:Hid (∀m,m<sh->∃b1 o1,M _=M (⟨b1,o1,Q⟩:Addr)/\V.cell? ⟨b1,o1+m,Q⟩=M _):=fun m hm=>⟨b',off',rfl,z1 m hm⟩
     have z0:=z0;rw[eR]at x0;clear z1 q1 q2 eR;have c1:=hO.out.cj;have oa1:=fun o=>aB (aA br o) c1
     have ob1:=fun o=>aB (aA br o) x0
     have oc1:=fun o=>aB (aA br o) z0
     have hsm:Hid (L.length<=100):=by show _<=_;have e:=hO.out.cr.n;omega
     have hVO:=Hi (nd hO.out.hO hO.out.hC);have hvO:Hid (_≠M w2.heap.size):=fun e=>by have:=(hO.out.cr.o.lt _ e).1;have:=hO.out.hO;omega
     skip;have A1:Hid (∀(X:World),_=(V.alloc _).heap->X.ownsRow _ 4 1 _ 0 []):=fun X hX=>tK hX (lv V #[] 0 nr dc rfl)
     go_upto_region 9 with fail
     go_region_law (first
      | (refine iJ (by rfl) _ _ 104 4 (by rfl) i4 _ underlying104 hi4 hz4 hs4 hb4 rfl V.heap.size V.heap.size (by rfl) (A1.out _ rfl) sh (fun m=>bo (cR S.wr k m)) (M ⟨b',off',Q⟩) _ (by rfl) (fun m hm=>by obtain⟨b1,o1,e,d⟩:=RC.out m hm;exact⟨b1,o1,e,aB (aA (aD br) _) d⟩) (fun m _=>rfl) om sm ?_;intro an cn gn w4 hn4 hg4;have hb4:=((aA (aD br) _:Below V.heap.size V _)).grown hg4 sm (fun q hq=>by cases hq;exact nr);have od:=aB hb4 c1;have od2:=fun o=>aB (aA hb4 o) c1)
      | (refine bO (by rfl) _ _ 42 104 (by rfl) i65 _ underlying42 hi65 hz65 hs65 hb65 rfl W2.heap.size v L.length _ (by rfl) ((hO.out.cr.below (aA hb4 _)).o) ⟨_,0,none⟩ 1 (.slice an sh cn) (by rfl) (aF _ _ 104 _ 0 _ sm rfl) rfl hsm.out (nh hO.out.hC (aA hb4 _:Below V.heap.size V _).size) ?_;intro v' w5 ho5 hg5 hv5;obtain⟨g',cap',rfl,_,_⟩:=ho5.form sm;have oc:=hg5.cell (aB (aA hb4 _) c1) (fun e=>hvO.out e.symm);have of5:=(nv (a:=⟨w2.heap.size,2,Q⟩) (hg5.block w2.heap.size (nd hVO.out (aA hb4 _:Below V.heap.size V _).size) (fun e=>hvO.out e.symm))).trans (((aA hb4 _:Below V.heap.size V _).frozen (p:=⟨w2.heap.size,2,Q⟩) hVO.out).trans (hO.out.fz 2))))
     all_goals (
      obtain⟨B',hp⟩:=hO.out.push (aA hb4 _) ho5 hg5 hv5 (hn4.below (aA br _));have HP:=Hi hp;clear hp hO c1 oa1 ob1 oc1 ho5 hg5 hv5 hn4 hg4 hb4 od od2 oc of5 x0 z0 RC A1;generalize (w5.setCell ⟨w2.heap.size,2,Q⟩ (J (M ⟨g',0,Q⟩) (L.length+1) cap'))=WF at *;go_wp2;go_roundw
      case rel=>exact⟨k+1,_,_,B',by omega,by go_num,HP⟩
      case measure=>simp[intOf];omega)
    ·have hkk:k=l.length:=om;subst hkk;have i1:¬(l.length:Int)<(l.length:Int):=om;obtain⟨a2,k2,g2,hv2,o2⟩:=hO.out.cr.fin;subst hv2;have HO2:=Hi o2;have HS2:=Hi hO.out.sm;have HZ2:Hid (_<=_/\_<_/\_<_):=⟨hO.out.hC,nd hO.out.hO hO.out.hC,hO.out.hO⟩
     have OS0:Hid (OS w2 V _ 41 _ 3 (fun m=>if m=0 then J a' 8 c' else if m=1 then J a1 _ k1 else J a2 _ k2) V (J Q 0 0) 0 (fun i=>(gX l i).rs.length) (fun i k=>Y I ((S.vs.getD i []).getD k 0)) [] (fun _=>0)):=
      ⟨(fun m hm hne=>by
       match m,hm,hne with
       | 0,_,_=>exact hO.out.c 0 dc dc
       | 1,_,_=>exact hO.out.c 1 dc dc
       | 2,_,_=>exact hO.out.cj
       | m+3,h1,h2=>exact absurd om h2),hO.out.c 3 dc dc,hO.out.fz,CR.nil _ _ _ _ _ _,hO.out.bl,(fun _ _ _=>rfl),nr,nd hO.out.hO hO.out.hC⟩
     clear o2 hO
     go_upto_region 11 with fail
     clear x0;obtain⟨W3,hren⟩:=nm (V);subst hren;obtain⟨BB2,hBB2⟩:∃BB2:Nat->Nat,BB2=B:=⟨_,rfl⟩;subst hBB2
     go_loopw [6] (fun i wr=>∃(k:Nat) (v:Value) (L:List (Option Addr×Nat×Nat)) (B:Nat->Nat),k<=l.length/\i=Y I k/\Hid (OS w2 W3 w2.heap.size 41 W3.heap.size 3 (fun m=>if m=0 then J a' 8 c' else if m=1 then J a1 l.length k1 else J a2 l.length k2) wr v k (fun i=>(gX l i).rs.length) (fun i k=>Y I ((S.vs.getD i []).getD k 0)) L B)) (fun i _=>l.length - (intOf i).toNat)
     case atStart=>exact⟨0,_,[],(fun _=>0),nz,rfl,OS0⟩
     case round=>
      obtain⟨k,v,L,B,hk,rfl,hO⟩:=hrel;clear OS0;obtain⟨V,hren⟩:=nm (wr);subst hren;have x0:=aB (aC B2.out hO.out.bl) Y3.out;by_cases hlt:k<l.length
      ·have i1:(k:Int)<(l.length:Int):=om;obtain⟨b,off,ar,rc',eR,q1,z0,z3,z1,_⟩:=(HS.out.below (aC B2.out hO.out.bl)).vs.rows HF.out.vs HF.out.vn k hlt
       have RC:Hid (∀m,m<(gX l k).rs.length->∃b1 o1,ar=M (_:Addr)/\V.cell? _=M _):=fun m hm=>by
        obtain⟨b1,o1,e,_,d⟩:=z1 m (by rw[z3];exact hm);exact⟨b1,o1,e,d⟩
       clear z3;rw[eR]at x0;clear z1 q1 eR;have c1:=hO.out.cj;have oa1:=fun o=>aB (aA br o) c1
       have ob1:=fun o=>aB (aA br o) x0
       have oc1:=fun o=>aB (aA br o) z0
       have hsm:Hid (L.length<=100):=by show _<=_;have e:=hO.out.cr.n;omega
       have hVO:=Hi (nd hO.out.hO hO.out.hC);have hvO:Hid (_≠M w2.heap.size):=fun e=>by have:=(hO.out.cr.o.lt _ e).1;have:=hO.out.hO;omega
       have hr4:=HR4.out k hlt;have A1:Hid (∀(X:World),_=(V.alloc _).heap->X.ownsRow _ 3 1 _ 0 []):=fun X hX=>tK hX (lv V #[] 0 nr dc rfl)
       go_upto_region 13 with fail
       go_region_law (first
        | (refine iJ (by rfl) _ _ 41 3 (by rfl) i3 _ underlying41 hi3 hz3 hs3 hb3 rfl V.heap.size V.heap.size (by rfl) (A1.out _ rfl) (gX l k).rs.length (fun m=>Y I ((S.vs.getD k []).getD m 0)) ar _ (by rfl) (fun m hm=>by obtain⟨b1,o1,e,d⟩:=RC.out m hm;exact⟨b1,o1,e,aB (aA (aD br) _) d⟩) (fun m _=>rfl) om sm ?_;intro an cn gn w4 hn4 hg4;have hb4:=((aA (aD br) _:Below V.heap.size V _)).grown hg4 sm (fun q hq=>by cases hq;exact nr);have od:=aB hb4 c1;have od2:=fun o=>aB (aA hb4 o) c1)
        | (refine bO (by rfl) _ _ 43 41 (by rfl) i25 _ underlying43 hi25 hz25 hs25 hb25 rfl W3.heap.size v L.length _ (by rfl) ((hO.out.cr.below (aA hb4 _)).o) ⟨_,0,none⟩ 1 (.slice an (gX l k).rs.length cn) (by rfl) (aF _ _ 41 _ 0 _ sm rfl) rfl hsm.out (nh hO.out.hC (aA hb4 _:Below V.heap.size V _).size) ?_;intro v' w5 ho5 hg5 hv5;obtain⟨g',cap',rfl,_,_⟩:=ho5.form sm;have oc:=hg5.cell (aB (aA hb4 _) c1) (fun e=>hvO.out e.symm);have of5:=(nv (a:=⟨w2.heap.size,3,Q⟩) (hg5.block w2.heap.size (nd hVO.out (aA hb4 _:Below V.heap.size V _).size) (fun e=>hvO.out e.symm))).trans (((aA hb4 _:Below V.heap.size V _).frozen (p:=⟨w2.heap.size,3,Q⟩) hVO.out).trans (hO.out.fz 3))))
       all_goals (
        obtain⟨B',hp⟩:=hO.out.push (aA hb4 _) ho5 hg5 hv5 (hn4.below (aA br _));have HP:=Hi hp;clear hp hO c1 oa1 ob1 oc1 ho5 hg5 hv5 hn4 hg4 hb4 od od2 oc of5 x0 z0 RC A1;generalize (w5.setCell ⟨w2.heap.size,3,Q⟩ (J (M ⟨g',0,Q⟩) (L.length+1) cap'))=WF at *;go_wp2;go_roundw
        case rel=>exact⟨k+1,_,_,B',by omega,by go_num,HP⟩
        case measure=>simp[intOf];omega)
      ·have hkk:k=l.length:=om;subst hkk;have i1:¬(l.length:Int)<(l.length:Int):=om;obtain⟨a3,k3,g3,hv3,o3⟩:=hO.out.cr.fin;subst hv3;have z0:V.cell? _=J a' 8 c':=hO.out.c 0 dc dc;have z1:V.cell? _=J a1 _ k1:=hO.out.c 1 dc dc;have z2:V.cell? _=J a2 _ k2:=hO.out.c 2 dc dc;have z3:=hO.out.cj;have bw:=aC B2.out hO.out.bl;have t0:=aB bw (T0.out 0 dc);have t1:=aB bw (T0.out 1 dc);have t2:=aB bw (T0.out 2 dc);have t3:=aB bw (T0.out 3 dc);have tf:=fun j=>(bw.frozen (p:=⟨w.heap.size+1,j,Q⟩) (by have:=sz.out;show w.heap.size+1<_;omega)).trans (TF.out j)
       have OWN:Hid (OwnSt W.heap.size V a' a1 a2 a3 c' l sh S g0 W1.heap.size W2.heap.size W3.heap.size V.heap.size g1 g2 g3 BB1 BB2 B):=by
        have e1:=hWw.out;have e2:=HZ1.out;have e3:=HZ2.out;have e4:=hO.out.hC;exact⟨R0.out.below hO.out.bl,⟨by omega,by omega⟩,by omega,by omega,by omega,nr,(HO1.out.keep (fun b h1 h2=>(HS2.out b om h2))).keep (fun b h1 h2=>hO.out.sm b om om),HO2.out.keep (fun b h1 h2=>hO.out.sm b om h2),o3,HF.out⟩
       have hlt:w.heap.size+1<W.heap.size:=by have:=sz.out;omega
       have FO:Hid (OwnSt W.heap.size ((((V.setCell ⟨w.heap.size+1,0,Q⟩ (J a' 8 c')).setCell ⟨w.heap.size+1,1,Q⟩ (J a1 l.length k1)).setCell ⟨w.heap.size+1,2,Q⟩ (J a2 l.length k2)).setCell ⟨w.heap.size+1,3,Q⟩ (J a3 l.length k3)) a' a1 a2 a3 c' l sh S g0 W1.heap.size W2.heap.size W3.heap.size V.heap.size g1 g2 g3 BB1 BB2 B):=(((OWN.out.set _ 0 _ hlt).set _ 1 _ hlt).set _ 2 _ hlt).set _ 3 _ hlt;have FB:Hid (Below w.heap.size w ((((V.setCell ⟨w.heap.size+1,0,Q⟩ (J a' 8 c')).setCell ⟨w.heap.size+1,1,Q⟩ (J a1 l.length k1)).setCell ⟨w.heap.size+1,2,Q⟩ (J a2 l.length k2)).setCell ⟨w.heap.size+1,3,Q⟩ (J a3 l.length k3))):=aG (aG (aG (aG (aC hW.out bw) sm _) sm _) sm _) sm _;have SZ:Hid (((((V.setCell ⟨w.heap.size+1,0,Q⟩ (J a' 8 c')).setCell ⟨w.heap.size+1,1,Q⟩ (J a1 l.length k1)).setCell ⟨w.heap.size+1,2,Q⟩ (J a2 l.length k2)).setCell ⟨w.heap.size+1,3,Q⟩ (J a3 l.length k3)).heap.size=V.heap.size):=by show _=_;simp
       have u0:((((V.setCell _ (J a' 8 c')).setCell ⟨_+1,1,Q⟩ (J a1 l.length k1)).setCell ⟨_+1,2,Q⟩ (J a2 l.length k2)).setCell ⟨_+1,3,Q⟩ (J a3 l.length k3)).cell? _=M _:=(aE dc (aE dc (aE dc (aK t0))));have u1:((((V.setCell ⟨_+1,0,Q⟩ (J a' 8 c')).setCell _ _).setCell ⟨_+1,2,Q⟩ (J a2 l.length k2)).setCell ⟨_+1,3,Q⟩ (J a3 l.length k3)).cell? _=J a1 l.length k1:=(aE dc (aE dc (aK (aE dc t1))));have u2:((((V.setCell ⟨_+1,0,Q⟩ (J a' 8 c')).setCell ⟨_+1,1,Q⟩ (J a1 l.length k1)).setCell _ (J a2 l.length k2)).setCell ⟨_+1,3,Q⟩ (J a3 l.length k3)).cell? _=M _:=(aE dc (aK (aE dc (aE dc t2))));have u3:((((V.setCell ⟨_+1,0,Q⟩ (J a' 8 c')).setCell ⟨_+1,1,Q⟩ (J a1 l.length k1)).setCell ⟨_+1,2,Q⟩ (J a2 l.length k2)).setCell _ _).cell? _=J a3 l.length k3:=(aK (aE dc (aE dc (aE dc t3))));clear OWN o3 hO HO1 HO2 HS1 HS2 HZ1 HZ2 bw
       go_wp2_with fail
       generalize ((((V.setCell ⟨w.heap.size+1,0,Q⟩ (J a' 8 c')).setCell ⟨w.heap.size+1,1,Q⟩ (J a1 l.length k1)).setCell ⟨w.heap.size+1,2,Q⟩ (J a2 l.length k2)).setCell ⟨w.heap.size+1,3,Q⟩ (J a3 l.length k3))=WF at *;refine bodyPost_ret (v:=ag #[J a' 8 c',J a1 l.length k1,J a2 l.length k2,J a3 l.length k3]) (by simp[results,results132,go_sem,u0,u1,u2,u3]) rfl ⟨a',a1,a2,a3,c',⟨k1,k2,k3,rfl⟩,⟨g0,W1.heap.size,W2.heap.size,W3.heap.size,g1,g2,g3,BB1,BB2,B,?_⟩,FB.out⟩;rw[SZ.out];exact FO.out.low (by have:=sz.out;omega)
end
theorem uk {p:Prop} (h:p:=by
 have sf:=fun j=>(BR.out.frozen (p:=⟨w.heap.size+3,j,Q⟩) VC.out).trans (SF.out j)
 have vlt:=VC.out;have FS:Hid (StaF w.heap.size _ _ ((((wr.setCell _ (J sa' 8 sc')).setCell _ (J ra' l.length rc')).setCell _ (J wa' l.length tc')).setCell _ (J va' l.length vc'))):=(((((HQ.out.staF h0).set _ 0 _ vlt).set _ 1 _ vlt).set _ 2 _ vlt).set _ 3 _ vlt).low om;have FB:Hid (Below w.heap.size w ((((wr.setCell ⟨w.heap.size+3,0,Q⟩ (J sa' 8 sc')).setCell ⟨w.heap.size+3,1,Q⟩ (J ra' l.length rc')).setCell ⟨w.heap.size+3,2,Q⟩ (J wa' l.length tc')).setCell ⟨w.heap.size+3,3,Q⟩ (J va' l.length vc'))):=aG (aG (aG (aG (aC hW.out BR.out) sm _) sm _) sm _) sm _;obtain⟨x0,x1,x2,x3⟩:=nY ⟨sa',ra',wa',va',8,l.length,l.length,l.length,sc',rc',tc',vc'⟩ s0 s1 s2 s3;dsimp only at x0 x1 x2 x3;clear o0' o1' o2' o3' hD HQ BR
 go_wp2_with fail
 refine bodyPost_ret (v:=ag #[J sa' 8 sc',J ra' l.length rc',J wa' l.length tc',J va' l.length vc']) (by simp[results,results93,go_sem,x0,x1,x2,x3]) rfl ⟨⟨sa',ra',wa',va',8,l.length,l.length,l.length,sc',rc',tc',vc'⟩,rfl,FS.out,FB.out⟩):p:=h
section
structure DN (V w:World) (C:Nat) (sa ra wa va:Option Addr) (sc:Nat) (l:List TxA) (sh:Nat) (S:SA) (g0 c1 c2 c3 hi gr gw gv:Nat) (Br Bw Bv:Nat->Nat):Prop where
 own:OwnSt C w sa ra wa va sc l sh S g0 c1 c2 c3 hi gr gw gv Br Bw Bv
 bl:Below C V w
 up:∀b,hi<=b->b<V.heap.size->w.heap[b]?=V.heap[b]?
 hC:C<=V.heap.size
theorem DN.low {sa ra wa va:Option Addr} {sc:Nat} {l:List TxA} {sh:Nat} {S:SA} {Br Bw Bv:Nat->Nat} (D:DN V w C sa ra wa va sc l sh S g0 c1 c2 c3 hi gr gw gv Br Bw Bv) (hb:b<C) (h:V.cell? ⟨b,i,Q⟩=M u):w.cell? ⟨b,i,Q⟩=M u:=(D.bl.cell (p:=⟨b,i,Q⟩) hb).trans h
theorem DN.high {sa ra wa va:Option Addr} {sc:Nat} {l:List TxA} {sh:Nat} {S:SA} {Br Bw Bv:Nat->Nat} (D:DN V w C sa ra wa va sc l sh S g0 c1 c2 c3 hi gr gw gv Br Bw Bv) (hb:hi<=b) (h:V.cell? ⟨b,i,Q⟩=M u):w.cell? ⟨b,i,Q⟩=M u:=(nu (a:=⟨b,i,Q⟩) (D.up b hb (np V ⟨b,i,Q⟩ h))).trans h
theorem DN.set {sa ra wa va:Option Addr} {sc:Nat} {l:List TxA} {sh:Nat} {S:SA} {Br Bw Bv:Nat->Nat} (D:DN V w C sa ra wa va sc l sh S g0 c1 c2 c3 hi gr gw gv Br Bw Bv) (h1:C<=b) (h2:b<hi) (ho:OwnSt C (w.setCell ⟨b,j,Q⟩ u) sa ra wa va sc l sh S' g0 c1 c2 c3 hi gr gw gv Br Bw Bv):DN V (w.setCell ⟨b,j,Q⟩ u) C sa ra wa va sc l sh S' g0 c1 c2 c3 hi gr gw gv Br Bw Bv:=
 ⟨ho,D.bl.setCell h1 _,fun c hc hv=>(eB w b j u c om).trans (D.up c hc hv),D.hC⟩
theorem DN.below {sa ra wa va:Option Addr} {sc:Nat} {l:List TxA} {sh:Nat} {S:SA} {Br Bw Bv:Nat->Nat} (D:DN V w C sa ra wa va sc l sh S g0 c1 c2 c3 hi gr gw gv Br Bw Bv) (hb:Below w.heap.size w w'):DN V w' C sa ra wa va sc l sh S g0 c1 c2 c3 hi gr gw gv Br Bw Bv:=
 ⟨D.own.below hb,D.bl.trans (hb.mono (nh D.hC D.bl.size)),fun c hc hv=>(hb.block c (nd hv D.bl.size)).trans (D.up c hc hv),D.hC⟩
theorem DN.as {sa ra wa va:Option Addr} {sc:Nat} {l:List TxA} {sh:Nat} {S:SA} {Br Bw Bv:Nat->Nat} (D:DN V w C sa ra wa va sc l sh S g0 c1 c2 c3 hi gr gw gv Br Bw Bv) (ho:OwnSt C w sa ra wa va sc l sh S' g0 c1 c2 c3 hi gr gw gv Br Bw Bv):DN V w C sa ra wa va sc l sh S' g0 c1 c2 c3 hi gr gw gv Br Bw Bv:=⟨ho,D.bl,D.up,D.hC⟩
variable (la:Option Addr) (lc:Nat) (l:List TxA) (sa ra wa va:Option Addr) (sc rc tc vc:Nat) (S:SA)
theorem rZ (sh n k:Nat) (w:World) (hl:IsTxs w la l) (hs:Sta w sa ra wa va S) (hp:aN (sh:Int) l=0) (hF:Form sh l S) (hn:n<l.length) (hk:k<sh) :
  Calls prog 93 #[ag #[Y I sh,J la l.length lc],ag #[J sa S.st.length sc,J ra S.rd.length rc,J wa S.wr.length tc,J va S.vs.length vc],ag #[Y I 1,Y I n,Y I k]] w fun e w'=>∃q:Q4,e=rt (ag #[J q.sa q.sn q.sc,J q.ra q.rn q.rc,J q.wa q.wn q.tc,J q.va q.vn q.vc])/\StaF w.heap.size (gK sh l S n k) q w'/\Below w.heap.size w w':=by
 obtain⟨h1z,h4z,hc⟩:=aX hp;have h0:0<sh:=om;have h4:sh<=4:=om;have h8:=cJ hc;have hr4:∀i,i<_->(gX l i).rs.length<=4:=fun i hi=>(bI _ _ _ (bR (eG hc i hi)).1).1
 rw[hF.st,hF.rd,hF.wr,hF.vs];obtain⟨W,hWe⟩:=nm (((((w.alloc (U #[Y I sh,J la l.length lc] 29)).alloc (U #[J sa 8 sc,J ra l.length rc,J wa l.length tc,J va l.length vc] 45)).alloc (U #[Y I 1,Y I n,Y I k] 33)).alloc (U #[J Q 0 0,J Q 0 0,J Q 0 0,J Q 0 0] 45)));have hW:Hid (Below w.heap.size w W):=by subst hWe;exact(aA (aA (aA (aA br _) _) _) _)
 have sz:Hid (W.heap.size=w.heap.size+4):=by subst hWe;show _=_;simp
 have p0:W.cell? ⟨w.heap.size,0,Q⟩=Y I sh:=by subst hWe;exact aB (aA (aA (aA br _) _) _) (aF _ _ 29 _ 0 _ (by first | rfl | simp) rfl)
 have p1:W.cell? ⟨w.heap.size,1,Q⟩=J la l.length lc:=by subst hWe;exact aB (aA (aA (aA br _) _) _) (aF _ _ 29 _ 1 _ (by first | rfl | simp) rfl)
 have q0:W.cell? ⟨w.heap.size+1,0,Q⟩=J sa 8 sc:=by subst hWe;exact aB (aA (aA br _) _) (aF _ _ 45 _ 0 _ (by first | rfl | simp) rfl)
 have q1:W.cell? ⟨w.heap.size+1,1,Q⟩=J ra l.length rc:=by subst hWe;exact aB (aA (aA br _) _) (aF _ _ 45 _ 1 _ (by first | rfl | simp) rfl)
 have q2:W.cell? ⟨w.heap.size+1,2,Q⟩=J wa l.length tc:=by subst hWe;exact aB (aA (aA br _) _) (aF _ _ 45 _ 2 _ (by first | rfl | simp) rfl)
 have q3:W.cell? ⟨w.heap.size+1,3,Q⟩=J va l.length vc:=by subst hWe;exact aB (aA (aA br _) _) (aF _ _ 45 _ 3 _ (by first | rfl | simp) rfl)
 have r0:W.cell? ⟨w.heap.size+2,0,Q⟩=Y I 1:=by subst hWe;exact aB (aA br _) (aF _ _ 33 _ 0 _ (by first | rfl | simp) rfl)
 have r1:W.cell? ⟨w.heap.size+2,1,Q⟩=Y I n:=by subst hWe;exact aB (aA br _) (aF _ _ 33 _ 1 _ (by first | rfl | simp) rfl)
 have r2:W.cell? ⟨w.heap.size+2,2,Q⟩=Y I k:=by subst hWe;exact aB (aA br _) (aF _ _ 33 _ 2 _ (by first | rfl | simp) rfl)
 have s0:W.cell? ⟨w.heap.size+3,0,Q⟩=J Q 0 0:=by subst hWe;exact aB br (aF _ _ 45 _ 0 _ (by first | rfl | simp) rfl)
 have s1:W.cell? ⟨w.heap.size+3,1,Q⟩=J Q 0 0:=by subst hWe;exact aB br (aF _ _ 45 _ 1 _ (by first | rfl | simp) rfl)
 have s2:W.cell? ⟨w.heap.size+3,2,Q⟩=J Q 0 0:=by subst hWe;exact aB br (aF _ _ 45 _ 2 _ (by first | rfl | simp) rfl)
 have s3:W.cell? ⟨w.heap.size+3,3,Q⟩=J Q 0 0:=by subst hWe;exact aB br (aF _ _ 45 _ 3 _ (by first | rfl | simp) rfl)
 have SF:Hid (∀j,W.frozen? ⟨w.heap.size+3,j,Q⟩=false):=by subst hWe;exact fun j=>aU _ _ 45 _ j sm
 have KEEP:Hid (∀w',Below W.heap.size W w'->w'.cell? ⟨w.heap.size,0,Q⟩=Y I sh/\w'.cell? ⟨w.heap.size,1,Q⟩=J la l.length lc/\w'.cell? ⟨w.heap.size+1,0,Q⟩=J sa 8 sc/\w'.cell? ⟨w.heap.size+1,1,Q⟩=J ra l.length rc/\w'.cell? ⟨w.heap.size+1,2,Q⟩=J wa l.length tc/\w'.cell? ⟨w.heap.size+1,3,Q⟩=J va l.length vc/\w'.cell? ⟨w.heap.size+2,0,Q⟩=Y I 1/\w'.cell? ⟨w.heap.size+2,1,Q⟩=Y I n/\w'.cell? ⟨w.heap.size+2,2,Q⟩=Y I k/\w'.cell? ⟨w.heap.size+3,0,Q⟩=J Q 0 0/\w'.cell? ⟨w.heap.size+3,1,Q⟩=J Q 0 0/\w'.cell? ⟨w.heap.size+3,2,Q⟩=J Q 0 0/\w'.cell? ⟨w.heap.size+3,3,Q⟩=J Q 0 0):=fun w' hb=>⟨aB hb p0,aB hb p1,aB hb q0,aB hb q1,aB hb q2,aB hb q3,aB hb r0,aB hb r1,aB hb r2,aB hb s0,aB hb s1,aB hb s2,aB hb s3⟩
 have CO:=Hi (xX sa ra wa va sc rc tc vc l sh S W h0 h4 h8 hr4 hF (hs.below hW.out));have HL:=Hi (hl.below hW.out);have HS:=Hi (hs.below hW.out);have HF:=Hi hF;have HG:Hid (Good (gX l n)):=lR (eG hc n hn);clear hl hs hF hp h1z h4z p0 p1 q0 q1 q2 q3 r0 r1 r2 s0 s1 s2 s3;have HWe:Hid (W=_):=hWe;clear hWe;go_enter func93,ntmps93
 go_upto_region 1 with fail
 rw[<-HWe.out];clear HWe;obtain⟨p0,p1,q0,q1,q2,q3,r0,r1,r2,s0,s1,s2,s3⟩:=KEEP.out W br
 go_wp2_with fail
 refine CO.out.mono ?_;rintro e w1 ⟨sa',ra',wa',va',sc',rc',tc',vc',g0,c1,c2,c3,gr,gw,gv,Br,Bw,Bv,rfl,hown,hb1⟩;have gA:Below _ w1 (w1.alloc (U #[J sa' 8 sc',J ra' l.length rc',J wa' l.length tc',J va' l.length vc'] 45)):=aA br _;have gB:Below _ w1 ((w1.alloc _).alloc (U #[J (gX l n).ra (gX l n).rs.length (gX l n).rc,J (gX l n).ga (gX l n).gs.length (gX l n).gc,J (gX l n).sa (gX l n).ss.length (gX l n).sc] 95)):=aA gA _;have OW:=Hi (hown.below gB);have BV:=Hi (aC hb1 gB);have BV1:=Hi (aC hb1 gA);have o0:((w1.alloc (U #[J sa' 8 sc',J ra' l.length rc',J wa' l.length tc',J va' l.length vc'] 45)).alloc (U #[J (gX l n).ra (gX l n).rs.length (gX l n).rc,J (gX l n).ga (gX l n).gs.length (gX l n).gc,J (gX l n).sa (gX l n).ss.length (gX l n).sc] 95)).cell? _=J sa' 8 sc':=aB (aA br _) (aF _ _ 45 _ 0 _ rfl rfl);have o1:((w1.alloc (U #[J sa' 8 sc',J ra' _ rc',J wa' l.length tc',J va' l.length vc'] 45)).alloc (U #[J (gX l n).ra (gX l n).rs.length (gX l n).rc,J (gX l n).ga (gX l n).gs.length (gX l n).gc,J (gX l n).sa (gX l n).ss.length (gX l n).sc] 95)).cell? _=J ra' l.length rc':=aB (aA br _) (aF _ _ 45 _ 1 _ rfl rfl);have o2:((w1.alloc (U #[J sa' 8 sc',J ra' l.length rc',J wa' l.length tc',J va' l.length vc'] 45)).alloc (U #[J (gX l n).ra (gX l n).rs.length (gX l n).rc,J (gX l n).ga (gX l n).gs.length (gX l n).gc,J (gX l n).sa (gX l n).ss.length (gX l n).sc] 95)).cell? _=J wa' _ tc':=aB (aA br _) (aF _ _ 45 _ 2 _ rfl rfl);have o3:((w1.alloc (U #[J sa' 8 sc',J ra' l.length rc',J wa' l.length tc',J va' l.length vc'] 45)).alloc (U #[J (gX l n).ra (gX l n).rs.length (gX l n).rc,J (gX l n).ga (gX l n).gs.length (gX l n).gc,J (gX l n).sa (gX l n).ss.length (gX l n).sc] 95)).cell? _=J va' _ vc':=aB (aA br _) (aF _ _ 45 _ 3 _ rfl rfl);have t0:((w1.alloc (U #[J sa' 8 sc',J ra' l.length rc',J wa' l.length tc',J va' l.length vc'] 45)).alloc (U #[J (gX l n).ra (gX l n).rs.length (gX l n).rc,J (gX l n).ga (gX l n).gs.length (gX l n).gc,J (gX l n).sa (gX l n).ss.length (gX l n).sc] 95)).cell? ⟨w1.heap.size+1,0,Q⟩=J (gX l n).ra (gX l n).rs.length (gX l n).rc:=aF _ _ 95 _ 0 _ sm rfl;have t1:((w1.alloc (U #[J sa' 8 sc',J ra' l.length rc',J wa' l.length tc',J va' l.length vc'] 45)).alloc (U #[J (gX l n).ra (gX l n).rs.length (gX l n).rc,J (gX l n).ga (gX l n).gs.length (gX l n).gc,J (gX l n).sa (gX l n).ss.length (gX l n).sc] 95)).cell? ⟨w1.heap.size+1,1,Q⟩=J (gX l n).ga (gX l n).gs.length (gX l n).gc:=aF _ _ 95 _ 1 _ sm rfl;have t2:((w1.alloc (U #[J sa' 8 sc',J ra' l.length rc',J wa' l.length tc',J va' l.length vc'] 45)).alloc (U #[J (gX l n).ra (gX l n).rs.length (gX l n).rc,J (gX l n).ga (gX l n).gs.length (gX l n).gc,J (gX l n).sa (gX l n).ss.length (gX l n).sc] 95)).cell? ⟨w1.heap.size+1,2,Q⟩=J (gX l n).sa (gX l n).ss.length (gX l n).sc:=aF _ _ 95 _ 2 _ sm rfl;have OT:Hid (letI Z:=w1.alloc (U #[J sa' 8 sc',J ra' l.length rc',J wa' l.length tc',J va' l.length vc'] 45);(Z.alloc _).cell? ⟨w1.heap.size,0,Q⟩=J sa' 8 sc'/\(Z.alloc _).cell? ⟨w1.heap.size,1,Q⟩=J ra' l.length rc'/\(Z.alloc _).cell? ⟨w1.heap.size,2,Q⟩=J wa' l.length tc'/\(Z.alloc _).cell? ⟨w1.heap.size,3,Q⟩=J va' l.length vc'/\(Z.alloc _).cell? ⟨w1.heap.size+1,0,Q⟩=J (gX l n).ra (gX l n).rs.length (gX l n).rc/\(Z.alloc _).cell? ⟨w1.heap.size+1,1,Q⟩=J (gX l n).ga (gX l n).gs.length (gX l n).gc/\(Z.alloc _).cell? ⟨w1.heap.size+1,2,Q⟩=J (gX l n).sa (gX l n).ss.length (gX l n).sc):=⟨o0,o1,o2,o3,t0,t1,t2⟩
 have DD:Hid (DN _ _ _ sa' ra' wa' va' sc' l sh S g0 c1 c2 c3 _ gr gw gv Br Bw Bv):=⟨OW.out,br,fun _ _ _=>rfl,BV.out.size⟩;clear o0 o1 o2 o3 t0 t1 t2;obtain⟨tb,tof,etl,_,v0,v1,v2,_⟩:=(HL.out.below BV1.out) n hn;have u0:(w1.alloc _).cell? _=J (gX l n).ra (gX l n).rs.length (gX l n).rc:=v0;have u1:(w1.alloc _).cell? _=J (gX l n).ga (gX l n).gs.length (gX l n).gc:=v1;have u2:(w1.alloc _).cell? _=J (gX l n).sa (gX l n).ss.length (gX l n).sc:=v2;clear v0 v1 v2;have hnl:(n:Int)<(l.length:Int):=om;clear hb1 gA gB hown CO p0 p1 q0 q1 q2 q3 r0 r1 r2 s0 s1 s2 s3
 go_upto_region 2 with fail
 obtain⟨p0,p1,q0,q1,q2,q3,r0,r1,r2,s0,s1,s2,s3⟩:=KEEP.out _ BV1.out;rw[etl]at p1;clear etl
 go_upto_region 3 with fail
 clear p0 p1 q0 q1 q2 q3 r0 r1 r2 s0 s1 s2 s3 u0 u1 u2 OW BV1;generalize ((w1.alloc (U #[J sa' 8 sc',J ra' l.length rc',J wa' l.length tc',J va' l.length vc'] 45)).alloc (U #[J (gX l n).ra (gX l n).rs.length (gX l n).rc,J (gX l n).ga (gX l n).gs.length (gX l n).gc,J (gX l n).sa (gX l n).ss.length (gX l n).sc] 95))=V at *;generalize w1.heap.size=hi at *;obtain⟨p0,p1,q0,q1,q2,q3,r0,r1,r2,s0,s1,s2,s3⟩:=KEEP.out V BV.out;have VC:Hid (w.heap.size+3<W.heap.size):=by have:=sz.out;show _<_;omega
 go_upto_region 4 with fail
 obtain⟨⟨o0,o1,o2,o3,t0,t1,t2⟩⟩:Nonempty _:=⟨OT.out⟩;obtain⟨era,_,_⟩:=DD.out.own.rd.ad om;obtain⟨a1,cc,z0,z1,_,_⟩:=DD.out.own.rd.o n hn;have z1:=z1 h0;subst z1;have z2:=DD.out.own.rd.c n k hn hk;have z3:=DD.out.own.rd.f n k hn h0;rw[era]at o1
 have D1:Hid (DN V (V.setCell ⟨Br n,k,Q⟩ (bo true)) W.heap.size sa' ra' wa' va' sc' l sh {S with rd:=eM S.rd n k} g0 c1 c2 c3 hi gr gw gv Br Bw Bv):=by
  have e1:=DD.out.own.h1;have e3:=DD.out.own.h3;have e4:=DD.out.own.h4;obtain⟨b1,b2,_⟩:=DD.out.own.rd.b n hn h0;exact DD.out.set om om (DD.out.own.setRd hn hk)
 have hki:(k:Int)<(sh:Int):=om
 have DS:Hid (DN V (V.setCell ⟨Br n,k,Q⟩ (bo true)) W.heap.size sa' ra' wa' va' sc' l sh {S with rd:=eM S.rd n k,vs:=S.vs.set n (fG sh k S.st ((gX l n).rs.take 0) (S.vs.getD n []))} g0 c1 c2 c3 hi gr gw gv Br Bw Bv):=by
  exact xk
 have HVL:=Hi (HF.out.vn n hn);have FIN:Hid ((gX l n).rs.take (gX l n).rs.length=(gX l n).rs):=ld
 have HRL:Hid (∀i,i<(gX l n).rs.length->(gX l n).rs.getD i 0∈(gX l n).rs):=fun i hi=>by
  exact X4
 have HIX:Hid (∀w',Below _ W w'->IsInts w' (gX l n).ra (gX l n).rs):=fun w' hb=>by
  obtain⟨_,_,_,_,_,_,_,hx⟩:=(HL.out.below hb) n hn;exact hx.t.r
 have HIS:Hid (∀w',Below _ W w'->IsInts w' sa S.st):=fun w' hb=>(HS.out.below hb).st
 have HRX:Hid (gK sh l S n k = {S with rd:=eM S.rd n k,vs:=S.vs.set n (fG sh k S.st ((gX l n).rs.take (gX l n).rs.length) (S.vs.getD n []))}):=by show _=_;rw[FIN.out];rfl
 have hl4:=hr4 n hn;clear era D1
 go_region
 all_goals (
  clear p0 p1 q0 q1 q2 q3 r0 r1 r2 s0 s1 s2 s3 o0 o1 o2 o3 t0 t1 t2 z0 z2 z3;have DS:=Hi (DS.out.below (aD br));generalize ((V.setCell ⟨Br n,k,Q⟩ (bo true)).drew)=V3 at *;go_wp2;generalize hN:(gX l n).rs.length=N at *
  go_loopw [9] (fun i wr=>∃j:Nat,j<=N/\i=Y I j/\Hid (DN V wr W.heap.size sa' ra' wa' va' sc' l sh {S with rd:=eM S.rd n k,vs:=S.vs.set n (fG sh k S.st ((gX l n).rs.take j) (S.vs.getD n []))} g0 c1 c2 c3 hi gr gw gv Br Bw Bv)) (fun i _=>N - (intOf i).toNat)
  case atStart=>exact⟨0,nz,rfl,DS⟩
  case round=>
   clear DS;obtain⟨j,hj,rfl,hD⟩:=hrel;have BR:=Hi (BV.out.trans hD.out.bl);obtain⟨⟨p0,p1,q0,q1,q2,q3,r0,r1,r2,s0,s1,s2,s3⟩⟩:Nonempty _:=⟨KEEP.out wr BR.out⟩;obtain⟨⟨o0,o1,o2,o3,t0,t1,t2⟩⟩:Nonempty _:=⟨OT.out⟩;have t0:=hD.out.high (ll _) t0;have o3:=hD.out.high nr o3;clear o0 o1 o2 t1 t2;by_cases hlt:j<N
   ·have i1:(j:Int)<(N:Int):=om;obtain⟨b',off',ea,_,k0⟩:=(HIX.out wr BR.out) j om;rw[ea]at t0;have HT:=Hi (HRL.out j hlt);obtain⟨hz,hz'⟩:=HG.out.r _ HT.out;generalize hz0:(gX l n).rs.getD j 0=z at hz hz' k0 HT;obtain⟨c,rfl⟩:=wg hz;have hc8:c<8:=om;have HC:=Hi hz0
    have hVL:Hid (∀V:List Int,V.length=N->∀a,a<_->((S.vs.set n V).getD a []).length=(gX l a).rs.length):=fun V hV a ha=>by
     exact UC
    have HML:Hid (∀i,(fG sh k S.st ((gX l n).rs.take i) _).length=N):=fun i=>by rw[rQ,HVL.out]
    have HV:Hid (∀a m,a<l.length->m<(gX l a).rs.length->((S.vs.set n (fG sh k S.st ((gX l n).rs.take (j+1)) _)).getD a []).getD m 0=if (c%sh==k)=true/\a=n/\m=j then S.st.getD c 0 else ((S.vs.set n (fG sh k S.st ((gX l n).rs.take j) _)).getD a []).getD m 0):=fun a m ha hm=>by
     exact vq
    have HSL:Hid (∀V:List Int,(S.vs.set n V).length=l.length):=fun V=>by rw[we];exact HF.out.vs
    clear hz0 HT hz hz';by_cases hq:c%sh=k
    ·have hm:((c:Int)%(sh:Int)==(k:Int))=true:=by rw[beq_iff_eq];omega
     have hqb:(c%sh==k)=true:=by simpa using hq
     go_upto_region 8 with fail
     go_quiet (fail)
     obtain⟨V4,eV4,D4⟩:∃V4,wr.drewN nq=V4/\Hid (DN V V4 W.heap.size sa' ra' wa' va' sc' l sh {S with rd:=eM S.rd n k,vs:=S.vs.set n (fG sh k S.st ((gX l n).rs.take j) (S.vs.getD n []))} g0 c1 c2 c3 hi gr gw gv Br Bw Bv):=⟨_,rfl,hD.out.below (aV br _)⟩;rw[eV4];have BR4:=Hi (BV.out.trans D4.out.bl);clear eV4 hD BR p0 p1 q0 q1 q2 q3 r0 r1 r2 s0 s1 s2 s3 o3 t0 k0 ea hm
     have E2:Hid (DN V (V4.setCell ⟨Bv n,j,Q⟩ (Y I (S.st.getD c 0))) W.heap.size sa' ra' wa' va' sc' l sh {S with rd:=eM S.rd n k,vs:=S.vs.set n (fG sh k S.st ((gX l n).rs.take (j+1)) (S.vs.getD n []))} g0 c1 c2 c3 hi gr gw gv Br Bw Bv):=by
      have o:=D4.out.own.setV hn (by rw[hN];exact hlt) (S.st.getD c 0) (S.vs.set n (fG sh k S.st ((gX l n).rs.take (j+1)) (S.vs.getD n []))) (fun a m ha hm=>by rw[HV.out a m ha hm,hqb];simp) (HSL.out _) (hVL.out _ (HML.out _));have g1:=D4.out.own.h1;have g3:=D4.out.own.h3;obtain⟨b1,b2,_⟩:=D4.out.own.vs.b n hn (by rw[hN];omega);exact D4.out.set om om o
     obtain⟨⟨p0,p1,q0,q1,q2,q3,r0,r1,r2,s0,s1,s2,s3⟩⟩:Nonempty _:=⟨KEEP.out V4 BR4.out⟩;obtain⟨⟨o0,o1,o2,o3',t0',t1,t2⟩⟩:Nonempty _:=⟨OT.out⟩;have t0:=D4.out.high (ll _) t0';have o3:=D4.out.high nr o3';obtain⟨b',off',ea,_,k0'⟩:=(HIX.out V4 BR4.out) j om;have k0:V4.cell? ⟨b',off'+j,Q⟩=Y I c:=by rw[<-HC.out];exact k0'
     rw[ea]at t0;obtain⟨sb,so,es,_,y0'⟩:=(HIS.out V4 BR4.out) c (by rw[HF.out.st];exact hc8);have y0:=y0';rw[es]at q0;obtain⟨f1,_,_⟩:=D4.out.own.vs.ad om;obtain⟨av,cv,v0,v1,_,_⟩:=D4.out.own.vs.o n hn;have v1':=v1 (by rw[hN];omega);have v2:=D4.out.own.vs.c n j hn (by rw[hN];exact hlt);have v3:=D4.out.own.vs.f n j hn (by rw[hN];omega);rw[v1',hN]at v0;rw[f1]at o3;have hc8i:(c:Int)<8:=om;clear o0 o1 o2 o3' t0' t1 t2 k0' y0' v1 v1' f1 ea es D4 BR4 HV HSL hVL HML hqb hq;generalize S.st.getD c 0=uu at *;generalize Y I (((S.vs.set n (fG sh k S.st ((gX l n).rs.take j) (S.vs.getD n []))).getD n []).getD j 0)=old at *
     go_wp2_with fail
     go_region
     all_goals go_wp2
     all_goals (
      go_roundw
      case rel=>exact⟨j+1,by omega,by go_num,E2.out.below (aD br)⟩
      case measure=>simp[intOf];omega)
    ·have hm:((c:Int)%(sh:Int)==(k:Int))=false:=by
      rw[beq_eq_false_iff_ne];intro e;exact hq om
     have hqb:(c%sh==k)=false:=by simpa using hq
     have E2:Hid (DN V wr _ sa' ra' wa' va' sc' l sh {S with rd:=eM S.rd n k,vs:=S.vs.set n _} g0 c1 c2 c3 hi gr gw gv Br Bw Bv):=hD.out.as (hD.out.own.asV (S.vs.set n (fG sh k S.st ((gX l n).rs.take (j+1)) (S.vs.getD n []))) (fun a m ha hm=>by rw[HV.out a m ha hm,hqb];simp) (HSL.out _) (hVL.out _ (HML.out _)));have E3:∀N',Hid (DN V (wr.drewN N') W.heap.size sa' ra' wa' va' sc' l sh {S with rd:=eM S.rd n k,vs:=S.vs.set n (fG sh k S.st ((gX l n).rs.take (j+1)) (S.vs.getD n []))} g0 c1 c2 c3 hi gr gw gv Br Bw Bv):=fun N'=>E2.out.below (aV br _)
     clear hD HV HSL hVL HML hq hqb
     go_upto_region 8 with fail
     go_quiet (fail)
     go_wp2;go_roundw
     case rel=>exact⟨j+1,by omega,by go_num,E3 _⟩
     case measure=>simp[intOf];omega
   ·have hjN:j=N:=om;subst hjN;have i1:¬(j:Int)<(j:Int):=om;have HQ:Hid (OwnQ _ l sh (gK sh l S n k) ⟨sa',ra',wa',va',8,_,_,_,sc',rc',tc',vc'⟩ wr):=⟨rfl,rfl,rfl,rfl,g0,c1,c2,c3,hi,gr,gw,gv,Br,Bw,Bv,by rw[HRX.out];exact hD.out.own⟩;obtain⟨⟨o0',o1',o2',o3',_,_,_⟩⟩:Nonempty _:=⟨OT.out⟩;have y0:=hD.out.high nr o0';have y1:=hD.out.high nr o1';have y2:=hD.out.high nr o2';exact uk
   )
end
section
variable (la:Option Addr) (lc:Nat) (l:List TxA) (sa ra wa va:Option Addr) (sc rc tc vc:Nat) (S:SA)
theorem pU (sh n k:Nat) (w:World) (hl:IsTxs w la l) (hs:Sta w sa ra wa va S) (hp:aN (sh:Int) l=0) (hF:Form sh l S) (hn:n<l.length) (hk:k<sh) :
  Calls prog 93 #[ag #[Y I sh,J la l.length lc],ag #[J sa S.st.length sc,J ra S.rd.length rc,J wa S.wr.length tc,J va S.vs.length vc],ag #[Y I 2,Y I n,Y I k]] w fun e w'=>∃q:Q4,e=rt (ag #[J q.sa q.sn q.sc,J q.ra q.rn q.rc,J q.wa q.wn q.tc,J q.va q.vn q.vc])/\StaF w.heap.size (dM sh l S n k) q w'/\Below w.heap.size w w':=by
 obtain⟨h1z,h4z,hc⟩:=aX hp;have h0:0<sh:=om;have h4:sh<=4:=om;have h8:=cJ hc;have hr4:∀i,i<_->(gX l i).rs.length<=4:=fun i hi=>(bI _ _ _ (bR (eG hc i hi)).1).1
 rw[hF.st,hF.rd,hF.wr,hF.vs];obtain⟨W,hWe⟩:=nm (((((w.alloc (U #[Y I sh,J la l.length lc] 29)).alloc (U #[J sa 8 sc,J ra l.length rc,J wa l.length tc,J va l.length vc] 45)).alloc (U #[Y I 2,Y I n,Y I k] 33)).alloc (U #[J Q 0 0,J Q 0 0,J Q 0 0,J Q 0 0] 45)));have hW:Hid (Below w.heap.size w W):=by subst hWe;exact(aA (aA (aA (aA br _) _) _) _)
 have sz:Hid (W.heap.size=w.heap.size+4):=by subst hWe;show _=_;simp
 have p0:W.cell? ⟨w.heap.size,0,Q⟩=Y I sh:=by subst hWe;exact aB (aA (aA (aA br _) _) _) (aF _ _ 29 _ 0 _ (by first | rfl | simp) rfl)
 have p1:W.cell? ⟨w.heap.size,1,Q⟩=J la l.length lc:=by subst hWe;exact aB (aA (aA (aA br _) _) _) (aF _ _ 29 _ 1 _ (by first | rfl | simp) rfl)
 have q0:W.cell? ⟨w.heap.size+1,0,Q⟩=J sa 8 sc:=by subst hWe;exact aB (aA (aA br _) _) (aF _ _ 45 _ 0 _ (by first | rfl | simp) rfl)
 have q1:W.cell? ⟨w.heap.size+1,1,Q⟩=J ra l.length rc:=by subst hWe;exact aB (aA (aA br _) _) (aF _ _ 45 _ 1 _ (by first | rfl | simp) rfl)
 have q2:W.cell? ⟨w.heap.size+1,2,Q⟩=J wa l.length tc:=by subst hWe;exact aB (aA (aA br _) _) (aF _ _ 45 _ 2 _ (by first | rfl | simp) rfl)
 have q3:W.cell? ⟨w.heap.size+1,3,Q⟩=J va l.length vc:=by subst hWe;exact aB (aA (aA br _) _) (aF _ _ 45 _ 3 _ (by first | rfl | simp) rfl)
 have r0:W.cell? ⟨w.heap.size+2,0,Q⟩=Y I 2:=by subst hWe;exact aB (aA br _) (aF _ _ 33 _ 0 _ (by first | rfl | simp) rfl)
 have r1:W.cell? ⟨w.heap.size+2,1,Q⟩=Y I n:=by subst hWe;exact aB (aA br _) (aF _ _ 33 _ 1 _ (by first | rfl | simp) rfl)
 have r2:W.cell? ⟨w.heap.size+2,2,Q⟩=Y I k:=by subst hWe;exact aB (aA br _) (aF _ _ 33 _ 2 _ (by first | rfl | simp) rfl)
 have s0:W.cell? ⟨w.heap.size+3,0,Q⟩=J Q 0 0:=by subst hWe;exact aB br (aF _ _ 45 _ 0 _ (by first | rfl | simp) rfl)
 have s1:W.cell? ⟨w.heap.size+3,1,Q⟩=J Q 0 0:=by subst hWe;exact aB br (aF _ _ 45 _ 1 _ (by first | rfl | simp) rfl)
 have s2:W.cell? ⟨w.heap.size+3,2,Q⟩=J Q 0 0:=by subst hWe;exact aB br (aF _ _ 45 _ 2 _ (by first | rfl | simp) rfl)
 have s3:W.cell? ⟨w.heap.size+3,3,Q⟩=J Q 0 0:=by subst hWe;exact aB br (aF _ _ 45 _ 3 _ (by first | rfl | simp) rfl)
 have SF:Hid (∀j,W.frozen? ⟨w.heap.size+3,j,Q⟩=false):=by subst hWe;exact fun j=>aU _ _ 45 _ j sm
 have KEEP:Hid (∀w',Below W.heap.size W w'->w'.cell? ⟨w.heap.size,0,Q⟩=Y I sh/\w'.cell? ⟨w.heap.size,1,Q⟩=J la l.length lc/\w'.cell? ⟨w.heap.size+1,0,Q⟩=J sa 8 sc/\w'.cell? ⟨w.heap.size+1,1,Q⟩=J ra l.length rc/\w'.cell? ⟨w.heap.size+1,2,Q⟩=J wa l.length tc/\w'.cell? ⟨w.heap.size+1,3,Q⟩=J va l.length vc/\w'.cell? ⟨w.heap.size+2,0,Q⟩=Y I 2/\w'.cell? ⟨w.heap.size+2,1,Q⟩=Y I n/\w'.cell? ⟨w.heap.size+2,2,Q⟩=Y I k/\w'.cell? ⟨w.heap.size+3,0,Q⟩=J Q 0 0/\w'.cell? ⟨w.heap.size+3,1,Q⟩=J Q 0 0/\w'.cell? ⟨w.heap.size+3,2,Q⟩=J Q 0 0/\w'.cell? ⟨w.heap.size+3,3,Q⟩=J Q 0 0):=fun w' hb=>⟨aB hb p0,aB hb p1,aB hb q0,aB hb q1,aB hb q2,aB hb q3,aB hb r0,aB hb r1,aB hb r2,aB hb s0,aB hb s1,aB hb s2,aB hb s3⟩
 have CO:=Hi (xX sa ra wa va sc rc tc vc l sh S W h0 h4 h8 hr4 hF (hs.below hW.out));have HL:=Hi (hl.below hW.out);have HS:=Hi (hs.below hW.out);have HF:=Hi hF;have HG:Hid (Good (gX l n)):=lR (eG hc n hn);have HCK:Hid (bP (gX l n).rs (gX l n).gs (gX l n).ss=0):=eG hc n hn;clear hl hs hF hp h1z h4z p0 p1 q0 q1 q2 q3 r0 r1 r2 s0 s1 s2 s3;have HWe:Hid (W=_):=hWe;clear hWe;go_enter func93,ntmps93
 go_upto_region 1 with fail
 rw[<-HWe.out];clear HWe;obtain⟨p0,p1,q0,q1,q2,q3,r0,r1,r2,s0,s1,s2,s3⟩:=KEEP.out W br
 go_wp2_with fail
 refine CO.out.mono ?_;rintro e w1 ⟨sa',ra',wa',va',sc',rc',tc',vc',g0,c1,c2,c3,gr,gw,gv,Br,Bw,Bv,rfl,hown,hb1⟩;have gA:Below _ w1 (w1.alloc (U #[J sa' 8 sc',J ra' l.length rc',J wa' l.length tc',J va' l.length vc'] 45)):=aA br _;have gB:Below _ w1 ((w1.alloc _).alloc (U #[J (gX l n).ra (gX l n).rs.length (gX l n).rc,J (gX l n).ga (gX l n).gs.length (gX l n).gc,J (gX l n).sa (gX l n).ss.length (gX l n).sc] 95)):=aA gA _;have OW:=Hi (hown.below gB);have BV:=Hi (aC hb1 gB);have BV1:=Hi (aC hb1 gA);have o0:((w1.alloc (U #[J sa' 8 sc',J ra' l.length rc',J wa' l.length tc',J va' l.length vc'] 45)).alloc (U #[J (gX l n).ra (gX l n).rs.length (gX l n).rc,J (gX l n).ga (gX l n).gs.length (gX l n).gc,J (gX l n).sa (gX l n).ss.length (gX l n).sc] 95)).cell? _=J sa' 8 sc':=aB (aA br _) (aF _ _ 45 _ 0 _ rfl rfl);have o1:((w1.alloc (U #[J sa' 8 sc',J ra' _ rc',J wa' l.length tc',J va' l.length vc'] 45)).alloc (U #[J (gX l n).ra (gX l n).rs.length (gX l n).rc,J (gX l n).ga (gX l n).gs.length (gX l n).gc,J (gX l n).sa (gX l n).ss.length (gX l n).sc] 95)).cell? _=J ra' l.length rc':=aB (aA br _) (aF _ _ 45 _ 1 _ rfl rfl);have o2:((w1.alloc (U #[J sa' 8 sc',J ra' l.length rc',J wa' l.length tc',J va' l.length vc'] 45)).alloc (U #[J (gX l n).ra (gX l n).rs.length (gX l n).rc,J (gX l n).ga (gX l n).gs.length (gX l n).gc,J (gX l n).sa (gX l n).ss.length (gX l n).sc] 95)).cell? _=J wa' _ tc':=aB (aA br _) (aF _ _ 45 _ 2 _ rfl rfl);have o3:((w1.alloc (U #[J sa' 8 sc',J ra' l.length rc',J wa' l.length tc',J va' l.length vc'] 45)).alloc (U #[J (gX l n).ra (gX l n).rs.length (gX l n).rc,J (gX l n).ga (gX l n).gs.length (gX l n).gc,J (gX l n).sa (gX l n).ss.length (gX l n).sc] 95)).cell? _=J va' _ vc':=aB (aA br _) (aF _ _ 45 _ 3 _ rfl rfl);have t0:((w1.alloc (U #[J sa' 8 sc',J ra' l.length rc',J wa' l.length tc',J va' l.length vc'] 45)).alloc (U #[J (gX l n).ra (gX l n).rs.length (gX l n).rc,J (gX l n).ga (gX l n).gs.length (gX l n).gc,J (gX l n).sa (gX l n).ss.length (gX l n).sc] 95)).cell? ⟨w1.heap.size+1,0,Q⟩=J (gX l n).ra (gX l n).rs.length (gX l n).rc:=aF _ _ 95 _ 0 _ sm rfl;have t1:((w1.alloc (U #[J sa' 8 sc',J ra' l.length rc',J wa' l.length tc',J va' l.length vc'] 45)).alloc (U #[J (gX l n).ra (gX l n).rs.length (gX l n).rc,J (gX l n).ga (gX l n).gs.length (gX l n).gc,J (gX l n).sa (gX l n).ss.length (gX l n).sc] 95)).cell? ⟨w1.heap.size+1,1,Q⟩=J (gX l n).ga (gX l n).gs.length (gX l n).gc:=aF _ _ 95 _ 1 _ sm rfl;have t2:((w1.alloc (U #[J sa' 8 sc',J ra' l.length rc',J wa' l.length tc',J va' l.length vc'] 45)).alloc (U #[J (gX l n).ra (gX l n).rs.length (gX l n).rc,J (gX l n).ga (gX l n).gs.length (gX l n).gc,J (gX l n).sa (gX l n).ss.length (gX l n).sc] 95)).cell? ⟨w1.heap.size+1,2,Q⟩=J (gX l n).sa (gX l n).ss.length (gX l n).sc:=aF _ _ 95 _ 2 _ sm rfl;have OT:Hid (letI Z:=w1.alloc (U #[J sa' 8 sc',J ra' l.length rc',J wa' l.length tc',J va' l.length vc'] 45);(Z.alloc _).cell? ⟨w1.heap.size,0,Q⟩=J sa' 8 sc'/\(Z.alloc _).cell? ⟨w1.heap.size,1,Q⟩=J ra' l.length rc'/\(Z.alloc _).cell? ⟨w1.heap.size,2,Q⟩=J wa' l.length tc'/\(Z.alloc _).cell? ⟨w1.heap.size,3,Q⟩=J va' l.length vc'/\(Z.alloc _).cell? ⟨w1.heap.size+1,0,Q⟩=J (gX l n).ra (gX l n).rs.length (gX l n).rc/\(Z.alloc _).cell? ⟨w1.heap.size+1,1,Q⟩=J (gX l n).ga (gX l n).gs.length (gX l n).gc/\(Z.alloc _).cell? ⟨w1.heap.size+1,2,Q⟩=J (gX l n).sa (gX l n).ss.length (gX l n).sc):=⟨o0,o1,o2,o3,t0,t1,t2⟩
 have DD:Hid (DN _ _ _ sa' ra' wa' va' sc' l sh S g0 c1 c2 c3 _ gr gw gv Br Bw Bv):=⟨OW.out,br,fun _ _ _=>rfl,BV.out.size⟩;clear o0 o1 o2 o3 t0 t1 t2;obtain⟨tb,tof,etl,_,v0,v1,v2,_⟩:=(HL.out.below BV1.out) n hn;have u0:(w1.alloc _).cell? _=J (gX l n).ra (gX l n).rs.length (gX l n).rc:=v0;have u1:(w1.alloc _).cell? _=J (gX l n).ga (gX l n).gs.length (gX l n).gc:=v1;have u2:(w1.alloc _).cell? _=J (gX l n).sa (gX l n).ss.length (gX l n).sc:=v2;clear v0 v1 v2;have hnl:(n:Int)<(l.length:Int):=om;clear hb1 gA gB hown CO p0 p1 q0 q1 q2 q3 r0 r1 r2 s0 s1 s2 s3
 go_upto_region 2 with fail
 obtain⟨p0,p1,q0,q1,q2,q3,r0,r1,r2,s0,s1,s2,s3⟩:=KEEP.out _ BV1.out;rw[etl]at p1;clear etl
 go_upto_region 3 with fail
 clear p0 p1 q0 q1 q2 q3 r0 r1 r2 s0 s1 s2 s3 u0 u1 u2 OW BV1;generalize ((w1.alloc (U #[J sa' 8 sc',J ra' l.length rc',J wa' l.length tc',J va' l.length vc'] 45)).alloc (U #[J (gX l n).ra (gX l n).rs.length (gX l n).rc,J (gX l n).ga (gX l n).gs.length (gX l n).gc,J (gX l n).sa (gX l n).ss.length (gX l n).sc] 95))=V at *;generalize w1.heap.size=hi at *;obtain⟨p0,p1,q0,q1,q2,q3,r0,r1,r2,s0,s1,s2,s3⟩:=KEEP.out V BV.out;have VC:Hid (w.heap.size+3<W.heap.size):=by have:=sz.out;show _<_;omega
 go_upto_region 11 with fail
 obtain⟨⟨o0,o1,o2,o3,t0,t1,t2⟩⟩:Nonempty _:=⟨OT.out⟩;obtain⟨era,_,_⟩:=DD.out.own.wr.ad om;obtain⟨a1,cc,z0,z1,_,_⟩:=DD.out.own.wr.o n hn;have z1:=z1 h0;subst z1;have z2:=DD.out.own.wr.c n k hn hk;have z3:=DD.out.own.wr.f n k hn h0;rw[era]at o2
 have DS:Hid (DN V (V.setCell ⟨Bw n,k,Q⟩ (bo true)) W.heap.size sa' ra' wa' va' sc' l sh {S with wr:=eM S.wr n k} g0 c1 c2 c3 hi gr gw gv Br Bw Bv):=by
  have e1:=DD.out.own.h1;have e2:=DD.out.own.h2;have e4:=DD.out.own.h4;obtain⟨b1,b2,_⟩:=DD.out.own.wr.b n hn h0;exact DD.out.set om om (DD.out.own.setWr hn hk)
 have hki:(k:Int)<(sh:Int):=om;obtain⟨Mm,hM⟩:∃Mm,aS (S.vs.getD n []) (gX l n).gs (gX l n).ss=Mm:=⟨_,rfl⟩;have HWX:Hid (dM sh l S n k = {S with wr:=eM S.wr n k,st:=cE sh k S.st (aJ (gX l n).ss) Mm}):=by show _=_;rw[<-hM];rfl
 have hML:Mm.length<=(gX l n).ss.length:=by rw[<-hM];unfold aS;split <;> simp[eY]
 have hs3:=(bI _ _ _ (bR HCK.out).1).2.2.1;have HML:=Hi hML;obtain⟨Z,hZ⟩:∃Z,S.vs.getD n []=Z:=⟨_,rfl⟩;have hZL:Z.length=(gX l n).rs.length:=by rw[<-hZ];exact HF.out.vn n hn
 rw[hZ]at hM
 have CR:Hid (∀w',Below _ W w'->∃vb vo ar cr,va=M _/\w'.cell? _=J ar Z.length cr/\∀w2,Below _ w' w2->Calls _ 95 _ w2 fun e w''=>∃va vc ma mc,e=rt (tu #[ag #[bo _,J va Z.length vc],J ma Mm.length mc])/\IsAt _ w''.heap.size w'' ma Mm/\Below _ w2 w''):=fun w' hb=>by
  obtain⟨b,off,ar,cr,e1,_,c0,c3,hz,_,hzn⟩:=(HS.out.below hb).vs.rows HF.out.vs HF.out.vn n hn;refine⟨b,off,ar,cr,e1,by rw[hZL];exact c0,fun w2 hb2=>?_⟩;obtain⟨_,_,_,_,_,_,_,hx⟩:=((HL.out.below hb).below hb2) n hn;have hz':IsInts w2 ar Z:=by rw[<-hZ];exact hz.below hb2
  have h:=tG (gX l n).ra (gX l n).ga (gX l n).sa (gX l n).rc (gX l n).gc (gX l n).sc (gX l n).rs (gX l n).gs (gX l n).ss ar cr Z w2 hx.t hz' hzn (by rw[hZL];exact hr4 n hn) hZL (bR HCK.out).2.2.1 (bR HCK.out).2.2.2 hs3 (bI _ _ _ (bR HCK.out).1).2.1;rw[hM]at h;refine h.mono ?_;rintro e w3 ⟨a1,a2,a3,a4,rfl,_,h2,h3⟩;exact⟨a1,a2,a3,a4,rfl,h2,h3⟩
 clear era hM hZ hZL
 go_region
 all_goals (
  clear p0 p1 q0 q1 q2 q3 r0 r1 r2 s0 s1 s2 s3 o0 o1 o2 o3 t0 t1 t2 z0 z2 z3;have DS:=Hi (DS.out.below (aD br));generalize ((V.setCell ⟨Bw n,k,Q⟩ (bo true)).drew)=V4 at *;have B4:=Hi (BV.out.trans DS.out.bl);obtain⟨vb,vo,ar,cr,eva,v0,CRR⟩:=CR.out V4 B4.out;have CRH:=Hi CRR;obtain⟨⟨p0,p1,q0,q1,q2,q3,r0,r1,r2,s0,s1,s2,s3⟩⟩:Nonempty _:=⟨KEEP.out V4 B4.out⟩;obtain⟨⟨_,_,_,_,t0',t1',t2'⟩⟩:Nonempty _:=⟨OT.out⟩;have t0:=DS.out.high (ll _) t0';have t1:=DS.out.high (ll _) t1';have t2:=DS.out.high (ll _) t2';rw[eva]at q3;have KS:Hid (∀w',Below _ V4 w'->w'.cell? _=M _/\w'.cell? _=M _/\w'.cell? _=M _/\w'.cell? ⟨hi+1,0,Q⟩=M _/\w'.cell? ⟨hi+1,1,Q⟩=M _/\w'.cell? ⟨hi+1,2,Q⟩=M _/\Hid _):=fun w' hb=>⟨aB hb q3,aB hb r1,aB hb v0,aB hb t0,aB hb t1,aB hb t2,hb⟩
  clear CRR t0' t1' t2' CR eva;generalize dU Z (gX l n).gs=DDD at *
  go_upto_region 12 with fail
  go_cut [11] (fun m wx=>∃ma mc,m=J ma Mm.length mc/\IsAt V4.heap.size wx.heap.size wx ma Mm/\Below V4.heap.size V4 wx)
  case first=>
   clear p0 p1 q0 q1 q2 q3 r0 r1 r2 s0 s1 s2 s3 t0 t1 t2 v0 HML hML hs3 HG HWX DS B4 HF HS HL HCK KEEP OT DD SF BV hW
   go_region_held3 (fun w'=>w'.cell? ⟨w.heap.size+1,3,Q⟩=J (M ⟨vb,vo,Q⟩) l.length vc/\w'.cell? ⟨w.heap.size+2,1,Q⟩=Y I n/\w'.cell? ⟨vb,vo+n,Q⟩=J ar Z.length cr/\w'.cell? ⟨hi+1,0,Q⟩=J (gX l n).ra (gX l n).rs.length (gX l n).rc/\w'.cell? ⟨hi+1,1,Q⟩=J (gX l n).ga (gX l n).gs.length (gX l n).gc/\w'.cell? ⟨hi+1,2,Q⟩=J (gX l n).sa (gX l n).ss.length (gX l n).sc/\Hid (Below V4.heap.size V4 w')) ((refine KS.out _ ?_;go_split_ands;repeat (first | assumption | exact br | exact Hid.out (by assumption) | refine aD ?_ | refine aA ?_ _ | refine aG ?_ (by first | exact nr | assumption) _ | refine aC ?_ (by assumption))))
    (first
     | (go_at_call 95;refine(CRH.out _ ?_).mono ?_;(go_split_ands;exact Hid.out (by assumption));rintro e wb ⟨va',vc',ma,mc,rfl,hma,hbb⟩;have hwb:=rD hbb;have hzb:=rD (aC (by first | exact br | exact aD br | exact aA br _ | exact aA (aD br) _ | exact aD (aA br _):Below V4.heap.size V4 _) hbb);(first | (obtain⟨x0,x1,xf⟩:=pI (V:=V4) hbb rfl) | skip)))
   all_goals (go_wp2_with fail;go_meet)
   all_goals (
    go_split_ands
    first
     | exact⟨ma,mc,rfl,(hma.below (aA br _)).widen (by first | exact nr | (simp;done)) sm,Hid.out (by assumption)⟩
     | exact⟨ma,mc,rfl,((hma.set ⟨_,0,Q⟩ _ (.inl (by first | (simp;done) | omega))).set ⟨_,1,Q⟩ _ (.inl (by first | (simp;done) | omega))).widen (by first | exact nr | (simp;done)) sm,Hid.out (by assumption)⟩)
  case rest=>
   obtain⟨ma,mc,rfl,hma,hbc⟩:=hcut;obtain⟨V5,hren⟩:=nm (wc);subst hren;have D5:Hid (DN V V5 _ sa' ra' wa' va' sc' l sh {S with wr:=eM S.wr n k,st:=cE sh k S.st ((aJ (gX l n).ss).take 0) (Mm.take 0)} g0 c1 c2 c3 hi gr gw gv Br Bw Bv):=DS.out.below hbc;have A5:=Hi hma;have gW:=Hi ((DS.out.own.st.e dc).2.2.1);generalize V5.heap.size=hiM at *;clear hma hbc KS CRH p0 p1 q0 q1 q2 q3 r0 r1 r2 s0 s1 s2 s3 t0 t1 t2 v0 DS B4;go_wp2
   go_loopw [12] (fun i wr=>∃j:Nat,j<=Mm.length/\i=Y I j/\Hid (DN V wr W.heap.size sa' ra' wa' va' sc' l sh {S with wr:=eM S.wr n k,st:=cE sh k S.st ((aJ (gX l n).ss).take j) (Mm.take j)} g0 c1 c2 c3 hi gr gw gv Br Bw Bv)/\Hid (IsAt V4.heap.size hiM wr ma Mm)) (fun i _=>Mm.length - (intOf i).toNat)
   case atStart=>exact⟨0,nz,rfl,D5,A5⟩
   case round=>
    clear D5 A5;obtain⟨j,hj,rfl,hD,hA⟩:=hrel;have BR:=Hi (BV.out.trans hD.out.bl);obtain⟨⟨p0,p1,q0,q1,q2,q3,r0,r1,r2,s0,s1,s2,s3⟩⟩:Nonempty _:=⟨KEEP.out wr BR.out⟩;by_cases hlt:j<Mm.length
    ·have i1:(j:Int)<(Mm.length:Int):=om;have hjs:j<(gX l n).ss.length:=om;obtain⟨⟨o0',_,_,_,_,_,t2'⟩⟩:Nonempty _:=⟨OT.out⟩;have t2:=hD.out.high (ll _) t2';obtain⟨_,_,_,_,_,_,_,hx⟩:=(HL.out.below BR.out) n hn;obtain⟨b',off',ea,_,k0,_⟩:=hx.t.s j hjs;have hkl:j<(aJ (gX l n).ss).length:=by rw[cM];exact hjs
     have k1:wr.cell? ⟨b',off'+j*6,Q⟩=Y I ((aJ (gX l n).ss).getD j 0):=by rw[jR _ j hjs];exact k0
     have HT:(aJ (gX l n).ss).getD j 0∈aJ (gX l n).ss:=by
      exact VV
     obtain⟨hz,hz'⟩:=HG.out.s _ HT;have HP:Hid (letI Z:=(aJ (gX l n).ss).getD j 0;cE sh k S.st _ _=if Z.toNat%sh=k then (cE sh k S.st _ _).set Z.toNat _ else cE sh k S.st _ _):=qI sh k _ _ _ j hkl hlt;rw[show (gX l n).sa=M ⟨b',off',Q⟩ from ea]at t2;clear k0 HT hx t2' o0' ea;obtain⟨z,hz0⟩:∃z,(aJ (gX l n).ss).getD j 0=z:=⟨_,rfl⟩;rw[hz0]at k1 hz hz' HP;obtain⟨c,rfl⟩:=wg hz;have hc8:c<8:=om;clear hz hz' hz0;generalize hSS:(gX l n).ss.length=NS at *;by_cases hq:c%sh=k
     ·have hm:((c:Int)%(sh:Int)==(k:Int))=true:=by rw[beq_iff_eq];omega
      go_upto_region 16 with fail
      go_quiet (fail)
      obtain⟨V6,eV6,D6,A6⟩:∃V6,wr.drewN nq=V6/\Hid (DN V V6 W.heap.size sa' ra' wa' va' sc' l sh {S with wr:=eM S.wr n k,st:=cE sh k S.st ((aJ (gX l n).ss).take j) (Mm.take j)} g0 c1 c2 c3 hi gr gw gv Br Bw Bv)/\Hid (IsAt V4.heap.size hiM V6 ma Mm):=⟨_,rfl,hD.out.below (aV br _),hA.out.below (aV br _)⟩;have k1':V6.cell? ⟨b',off'+j*6,Q⟩=Y I c:=by rw[<-eV6];exact aB (aV br _) k1
      have t2':V6.cell? ⟨hi+1,2,Q⟩=J (M ⟨b',off',Q⟩) NS (gX l n).sc:=by rw[<-eV6];exact aB (aV br _) t2
      rw[eV6];clear eV6 hD hA BR p0 p1 q0 q1 q2 q3 r0 r1 r2 s0 s1 s2 s3 t2 k1 hm;obtain⟨⟨o0',_,_,_,_,_,_⟩⟩:Nonempty _:=⟨OT.out⟩;have o0:=D6.out.high nr o0';obtain⟨e1,e2,_,e4,e5⟩:=D6.out.own.st.e dc;have z0:=e4 c hc8;have z1:=e5 c;rw[e1]at o0;obtain⟨bm,ovm,em,_,_,m0⟩:=A6.out j hlt;subst em
      have E2:Hid (letI Z:=V6.setCell ⟨g0,c,Q⟩ (Y I (Mm.getD j 0));DN V Z W.heap.size sa' ra' wa' va' sc' l sh {S with wr:=eM S.wr n k,st:=cE sh k S.st ((aJ (gX l n).ss).take (j+1)) (Mm.take (j+1))} g0 c1 c2 c3 hi gr gw gv Br Bw Bv/\IsAt V4.heap.size hiM Z (M ⟨bm,ovm,Q⟩) Mm):=by
       have e:=HP.out;rw[if_pos (by simpa using hq)]at e;rw[e];have q1:=D6.out.own.h1;have q2:=D6.out.own.h2;have q3:=D6.out.own.h3;have q4:=D6.out.own.h4;exact⟨D6.out.set (by exact e2) om (D6.out.own.setS hc8 _),A6.out.set ⟨g0,c,Q⟩ _ (.inl gW.out)⟩
      generalize Mm.getD j 0=uu at *;generalize Y I ((cE sh k S.st ((aJ (gX l n).ss).take j) (Mm.take j)).getD c 0)=old at *;have hc8i:(c:Int)<8:=om;clear D6 HP e4 e5 e1 A6 o0' hq
      go_wp2_with fail
      go_region
      all_goals go_wp2
      all_goals (
       go_roundw
       case rel=>exact⟨j+1,by omega,by go_num,E2.out.1.below (aD br),E2.out.2.below (aD br)⟩
       case measure=>simp[intOf];omega)
     ·have hm:((c:Int)%(sh:Int)==(k:Int))=false:=by
       rw[beq_eq_false_iff_ne];intro e;exact hq om
      have E2:Hid (DN V wr W.heap.size sa' ra' wa' va' sc' l sh {S with wr:=eM S.wr n k,st:=cE sh k S.st ((aJ (gX l n).ss).take (j+1)) (Mm.take (j+1))} g0 c1 c2 c3 hi gr gw gv Br Bw Bv):=by
       have e:=HP.out;rw[if_neg (by simpa using hq)]at e;rw[e];exact hD.out
      have E3:∀N',Hid (DN V (wr.drewN N') W.heap.size sa' ra' wa' va' sc' l sh {S with wr:=eM S.wr n k,st:=cE sh k S.st ((aJ (gX l n).ss).take (j+1)) (Mm.take (j+1))} g0 c1 c2 c3 hi gr gw gv Br Bw Bv/\IsAt V4.heap.size hiM (wr.drewN N') ma Mm):=fun N'=>⟨E2.out.below (aV br _),hA.out.below (aV br _)⟩
      clear hD HP hq hA
      go_upto_region 16 with fail
      go_quiet (fail)
      go_wp2;go_roundw
      case rel=>exact⟨j+1,by omega,by go_num,(E3 _).out.1,(E3 _).out.2⟩
      case measure=>simp[intOf];omega
    ·have hjN:j=Mm.length:=om;subst hjN
     have hD:Hid (DN V wr W.heap.size sa' ra' wa' va' sc' l sh {S with wr:=eM S.wr n k,st:=cE sh k S.st (aJ (gX l n).ss) Mm} g0 c1 c2 c3 hi gr gw gv Br Bw Bv):=by
      exact VS
     clear hA;have i1:¬(Mm.length:Int)<(Mm.length:Int):=om;have HQ:Hid (OwnQ _ l sh (dM sh l S n k) ⟨sa',ra',wa',va',8,_,_,_,sc',rc',tc',vc'⟩ wr):=⟨rfl,rfl,rfl,rfl,g0,c1,c2,c3,hi,gr,gw,gv,Br,Bw,Bv,by rw[HWX.out];exact hD.out.own⟩;obtain⟨⟨o0',o1',o2',o3',_,_,_⟩⟩:Nonempty _:=⟨OT.out⟩;have y0:=hD.out.high nr o0';have y1:=hD.out.high nr o1';have y2:=hD.out.high nr o2';have y3:=hD.out.high nr o3';exact uk)
end
end Go.Proofs.YtcgpkonfneofdaaGreatDoor
