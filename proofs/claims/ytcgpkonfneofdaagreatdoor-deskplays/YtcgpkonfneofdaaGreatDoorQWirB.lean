/- Conditions: those that each theorem states. -/
import Derived.Test.YtcgpkonfneofdaaGreatDoorQLawA
set_option maxRecDepth 100000
set_option maxHeartbeats 8000000
namespace Go.Proofs.YtcgpkonfneofdaaGreatDoor
open Go.RowKit Go.Proofs.Tryz
open Go.Value renaming slice->J,int->Y,bool->bo,pointer->pd,agg->ag,tuple->tu,string->sg,iface->fc
open Go.IntKind renaming i64->I
open Go.Obj renaming cells->U
open Go.Ending renaming returned->rt,panicked->pg
open Option renaming some->M,none->Q
variable {w' w2 w5 cur c2:World} {P b i R E size n lo hi C c X N D:Nat} {v u0 u1 u2 u3 u4 u v':Value} {row:Option Nat} {bs r zs q r':List Int} {k z:Int} {p:Prop} {xs:List Value} {a:Option Addr} {x:TxA} {o:Obj} {cl:List TxA}
theorem aL {w:World} (hg:w.grownBy w' (M P)) (hne:b≠P) (hc:w.cell? ⟨b,i,Q⟩=M v):w'.cell? ⟨b,i,Q⟩=M v:=hg.cell hc (fun e=>hne (by injection e))
theorem bD {w:World} (hg:w.grownBy w' (M P)) (hne:b≠P) (hb:b<w.heap.size) (hc:∀i,w.frozen? ⟨b,i,Q⟩=false):∀i,w'.frozen? ⟨b,i,Q⟩=false:=fun i=>(nv (a:=⟨b,i,Q⟩) (hg.block b hb (fun e=>hne (by injection e)))).trans (hc i)
theorem gb_up {w:World} (h:w.grownBy w' (M P)) (h2:w'.grownBy w2 row) (hr:∀j,row=M j->w.heap.size<=j):w.grownBy w2 (M P):=
 ⟨h2.os.trans h.os,h2.tape.trans h.tape,h2.output.trans h.output,nh h.size h2.size,fun b hb hP=>(h2.block b (nd hb h.size) (fun e=>by have:=hr b e.symm;omega)).trans (h.block b hb hP)⟩
theorem eJ {w:World} (h:w.grownBy w' (M P)) (hR:w.heap.size<=R) (i:Nat) (v:Value):w.grownBy (w'.setCell ⟨R,i,Q⟩ v) (M P):=
 gb_up h (row:=M R) ⟨rfl,rfl,rfl,by simp,fun b _ hb=>wo _ _ _ _ (fun e=>hb (by rw[e]))⟩ (fun j e=>by injection e with e;omega)
theorem RdS.set {w:World} (h:RdS P w bs) (hne:R≠P):RdS P (w.setCell ⟨R,i,Q⟩ v) bs:=
 h.kept (row:=M R) ⟨rfl,rfl,rfl,by simp,fun b _ hb=>wo _ _ _ _ (fun e=>hb (by rw[e]))⟩ (fun e=>hne (by injection e with e;exact e.symm))
theorem yY {w:World} (v0 v1:Value) (t0:w.cell? ⟨R,0,Q⟩=M u0) (t1:w.cell? ⟨R,1,Q⟩=M u1):((w.setCell ⟨R,0,Q⟩ v0).setCell ⟨R,1,Q⟩ v1).cell? ⟨R,0,Q⟩=M v0/\((w.setCell ⟨R,0,Q⟩ v0).setCell ⟨R,1,Q⟩ v1).cell? ⟨R,1,Q⟩=M v1:=
 ⟨(aE dc (aK t0)),(aK (aE dc t1))⟩
theorem put3 {w:World} (v0 v1 v2:Value) (t0:w.cell? ⟨R,0,Q⟩=M u0) (t1:w.cell? ⟨R,1,Q⟩=M u1) (t2:w.cell? ⟨R,2,Q⟩=M u2):(((w.setCell ⟨R,0,Q⟩ v0).setCell ⟨R,1,Q⟩ v1).setCell ⟨R,2,Q⟩ v2).cell? ⟨R,0,Q⟩=M v0/\(((w.setCell ⟨R,0,Q⟩ v0).setCell ⟨R,1,Q⟩ v1).setCell ⟨R,2,Q⟩ v2).cell? ⟨R,1,Q⟩=M v1/\(((w.setCell ⟨R,0,Q⟩ v0).setCell ⟨R,1,Q⟩ v1).setCell ⟨R,2,Q⟩ v2).cell? ⟨R,2,Q⟩=M v2:=
 ⟨(aE dc (aE dc (aK t0))),(aE dc (aK (aE dc t1))),(aK (aE dc (aE dc t2)))⟩
theorem putG5 {w:World} (v0 v1 v2 v3 v4:Value) (t0:w.cell? ⟨R,0,Q⟩=M u0) (t1:w.cell? ⟨R,1,Q⟩=M u1) (t2:w.cell? ⟨R,2,Q⟩=M u2) (t3:w.cell? ⟨R,3,Q⟩=M u3) (t4:w.cell? ⟨R,4,Q⟩=M u4):(((((w.setCell ⟨R,0,Q⟩ v0).setCell ⟨R,1,Q⟩ v1).setCell ⟨R,2,Q⟩ v2).setCell ⟨R,3,Q⟩ v3).setCell ⟨R,4,Q⟩ v4).cell? ⟨R,0,Q⟩=M v0/\(((((w.setCell ⟨R,0,Q⟩ v0).setCell ⟨R,1,Q⟩ v1).setCell ⟨R,2,Q⟩ v2).setCell ⟨R,3,Q⟩ v3).setCell ⟨R,4,Q⟩ v4).cell? ⟨R,1,Q⟩=M v1/\(((((w.setCell ⟨R,0,Q⟩ v0).setCell ⟨R,1,Q⟩ v1).setCell ⟨R,2,Q⟩ v2).setCell ⟨R,3,Q⟩ v3).setCell ⟨R,4,Q⟩ v4).cell? ⟨R,2,Q⟩=M v2/\(((((w.setCell ⟨R,0,Q⟩ v0).setCell ⟨R,1,Q⟩ v1).setCell ⟨R,2,Q⟩ v2).setCell ⟨R,3,Q⟩ v3).setCell ⟨R,4,Q⟩ v4).cell? ⟨R,3,Q⟩=M v3/\(((((w.setCell ⟨R,0,Q⟩ v0).setCell ⟨R,1,Q⟩ v1).setCell ⟨R,2,Q⟩ v2).setCell ⟨R,3,Q⟩ v3).setCell ⟨R,4,Q⟩ v4).cell? ⟨R,4,Q⟩=M v4:=
 ⟨(aE dc (aE dc (aE dc (aE dc (aK t0))))),(aE dc (aE dc (aE dc (aK (aE dc t1))))),(aE dc (aE dc (aK (aE dc (aE dc t2))))),(aE dc (aK (aE dc (aE dc (aE dc t3))))),(aK (aE dc (aE dc (aE dc (aE dc t4)))))⟩
theorem put6 {w:World} {u5:Value} (v0 v1 v2 v3 v4 v5:Value) (t0:w.cell? ⟨R,0,Q⟩=M u0) (t1:w.cell? ⟨R,1,Q⟩=M u1) (t2:w.cell? ⟨R,2,Q⟩=M u2) (t3:w.cell? ⟨R,3,Q⟩=M u3) (t4:w.cell? ⟨R,4,Q⟩=M u4) (t5:w.cell? ⟨R,5,Q⟩=M u5):((((((w.setCell ⟨R,0,Q⟩ v0).setCell ⟨R,1,Q⟩ v1).setCell ⟨R,2,Q⟩ v2).setCell ⟨R,3,Q⟩ v3).setCell ⟨R,4,Q⟩ v4).setCell ⟨R,5,Q⟩ v5).cell? ⟨R,0,Q⟩=M v0/\((((((w.setCell ⟨R,0,Q⟩ v0).setCell ⟨R,1,Q⟩ v1).setCell ⟨R,2,Q⟩ v2).setCell ⟨R,3,Q⟩ v3).setCell ⟨R,4,Q⟩ v4).setCell ⟨R,5,Q⟩ v5).cell? ⟨R,1,Q⟩=M v1/\((((((w.setCell ⟨R,0,Q⟩ v0).setCell ⟨R,1,Q⟩ v1).setCell ⟨R,2,Q⟩ v2).setCell ⟨R,3,Q⟩ v3).setCell ⟨R,4,Q⟩ v4).setCell ⟨R,5,Q⟩ v5).cell? ⟨R,2,Q⟩=M v2/\((((((w.setCell ⟨R,0,Q⟩ v0).setCell ⟨R,1,Q⟩ v1).setCell ⟨R,2,Q⟩ v2).setCell ⟨R,3,Q⟩ v3).setCell ⟨R,4,Q⟩ v4).setCell ⟨R,5,Q⟩ v5).cell? ⟨R,3,Q⟩=M v3/\((((((w.setCell ⟨R,0,Q⟩ v0).setCell ⟨R,1,Q⟩ v1).setCell ⟨R,2,Q⟩ v2).setCell ⟨R,3,Q⟩ v3).setCell ⟨R,4,Q⟩ v4).setCell ⟨R,5,Q⟩ v5).cell? ⟨R,4,Q⟩=M v4/\((((((w.setCell ⟨R,0,Q⟩ v0).setCell ⟨R,1,Q⟩ v1).setCell ⟨R,2,Q⟩ v2).setCell ⟨R,3,Q⟩ v3).setCell ⟨R,4,Q⟩ v4).setCell ⟨R,5,Q⟩ v5).cell? ⟨R,5,Q⟩=M v5:=
 ⟨(aE dc (aE dc (aE dc (aE dc (aE dc (aK t0)))))),(aE dc (aE dc (aE dc (aE dc (aK (aE dc t1)))))),(aE dc (aE dc (aE dc (aK (aE dc (aE dc t2)))))),(aE dc (aE dc (aK (aE dc (aE dc (aE dc t3)))))),(aE dc (aK (aE dc (aE dc (aE dc (aE dc t4)))))),(aK (aE dc (aE dc (aE dc (aE dc (aE dc t5))))))⟩
theorem tD (l:List Int) (b:Int):gN (l++[b])=gN l*256+b:=by simp[gN,List.foldl_append]
theorem tZ:∀(n:Nat) (l:List Int),l.length=n->Byt l->0<=gN l/\gN l<256 ^ l.length
 | 0,l,h,_=>by rw[List.length_eq_zero_iff]at h;subst h;simp[gN]
 | n+1,l,h,hB=>by
  obtain⟨l',b,rfl⟩:∃l' b,l=l'++[b]:=by
   have hne:l≠[]:=by intro e;subst e;simp at h
   exact⟨l.dropLast,l.getLast hne,(List.dropLast_concat_getLast hne).symm⟩
  have hl:=tZ n l' (by simpa using h) (fun x hx=>hB x (List.mem_append_left _ hx));have hb:=hB b sm;rw[tD,nj,lz,Int.pow_succ];omega
theorem valN_lt (l:List Int) (h:Byt l):0<=gN l/\gN l<256 ^ l.length:=tZ _ l rfl h
theorem wA {l:List Int} (h:Byt l) (hl:l.length<=7):0<=gN l/\gN l<72057594037927936:=by
 obtain⟨h1,h2⟩:=valN_lt l h;refine⟨h1,Int.lt_of_lt_of_le h2 ?_⟩
 have:(256:Int) ^ l.length<=256 ^ 7:=by
  match l.length,hl with
  | 0,_=>decide
  | 1,_=>decide
  | 2,_=>decide
  | 3,_=>decide
  | 4,_=>decide
  | 5,_=>decide
  | 6,_=>decide
  | 7,_=>decide
 exact Xd
theorem sgn_wrap {v:Int} (h0:0<=v) (h1:v<18446744073709551616):IntKind.i64.wrap v=sgn v:=by
 simp[IntKind.wrap,IntKind.bits,IntKind.signed];unfold sgn;split <;> omega
theorem wC {l:List Int} (h:Byt l) (hl:l.length=8):IntKind.i64.wrap (gN l)=sgn (gN l):=by
 obtain⟨h1,h2⟩:=valN_lt l h;rw[hl]at h2;exact sgn_wrap h1 (by simpa using h2)
theorem take_snoc {k:Nat} {b:Int} (h:bs.drop k=b::r):bs.take (k+1)=bs.take k++[b]/\bs.drop (k+1)=r/\k<bs.length:=by
 have hk:k<bs.length:=by
  rcases Nat.lt_or_ge k bs.length with h1 | h1
  ·exact h1
  ·rw[wh h1]at h;cases h
 rw[List.drop_eq_getElem_cons hk]at h;injection h with h1 h2
 exact⟨by rw[lp hk,h1],h2,hk⟩
theorem or_next {v b:Int} (h0:0<=v) (h1:v<72057594037927936) (hb:0<=b/\b<256):bits .or .u64 (IntKind.u64.wrap (v*256)) (IntKind.u64.wrap b)=v*256+b:=by
 have e1:IntKind.u64.wrap (v*256)=v*256:=by rw[IntKind.wrap_u64];omega
 have e2:IntKind.u64.wrap b=b:=by rw[IntKind.wrap_u64];omega
 rw[e1,e2,or_u64 om om om hb.1 hb.2]
theorem rdValue_any (P:Nat) (bs:List Int) (w:World) (h:RdS P w bs) :
  Calls prog 173 #[pd (M ⟨P,0,Q⟩)] w fun e w'=>RdR P w (rdV bs) (fun n v _=>v=Y I n) e w':=by
 have HB:=Hi h.byt;have H0:=Hi h;clear h;go_enter func173,ntmps173;go_wp2
 go_loopw [3,4] (fun v i wr=>∃k:Nat,k<=8/\i=Y I k/\v=Y .u64 (gN (bs.take k))/\Hid (k<=bs.length)/\Hid (RdS P wr (bs.drop k))/\Hid (w.grownBy wr (M P))) (fun _ i _=>8 - (intOf i).toNat)
 case atStart=>exact⟨0,by omega,rfl,rfl,nz,by simpa using H0,wv _ _⟩
 case round=>
  obtain⟨k,hk,rfl,rfl,hkl,hR,hG⟩:=hrel;by_cases hlt:k<8
  ·obtain⟨V,hV⟩:=nm (gN (bs.take k));have hVs:0<=V/\V<72057594037927936:=by rw[hV];exact wA (fun x hx=>HB.out x (List.mem_of_mem_take hx)) (by rw[l6];omega)
   rw[<-hV]
   cases hd:bs.drop k with
   | nil=>
    have hR2:Hid (RdS P wr []):=by have:=hR.out;rw[hd]at this;exact this
    have hn:Hid (rdV bs=Q):=by
     have hl8:bs.length<8:=by have:=congrArg List.length hd;simp only[List.length_drop,List.length_nil]at this;omega
     show rdV bs=Q;unfold rdV;rw[if_pos hl8]
    clear hR hd hV
    go_wp2_with fail
    refine(xI P _ hR2.out).mono ?_;rintro e w1 ⟨rfl,g1⟩;unfold gO;go_wp2;refine⟨rfl,hG.out.trans g1,?_⟩;rw[hn.out];rfl
   | cons b r=>
    obtain⟨e1,e2,hkb⟩:=take_snoc hd;have hR2:Hid (RdS P wr (b::r)):=by have:=hR.out;rw[hd]at this;exact this
    have hb:=hR2.out.byt b sm;have HN:Hid (gN (bs.take (k+1))=V*256+b):=by show _=_;rw[e1,tD,hV]
    have HD:=Hi e2;have HO:=Hi (or_next hVs.1 hVs.2 hb);have HO2:Hid (bits .or .u64 _ b=V*256+b):=or_u64 om om om hb.1 hb.2;clear hR hd hV e1 e2
    go_wp2_with fail
    refine(aAo P b r _ hR2.out).mono ?_;rintro e w1 ⟨rfl,h1,g1⟩;have H1:=Hi h1;have G1:=Hi (hG.out.trans g1);clear h1 g1 hG hR2;go_wp2;go_roundw
    case rel=>exact⟨k+1,by omega,by go_num,by rw[HN.out];first | exact congrArg _ HO2.out | exact congrArg _ HO.out,hkb,by rw[HD.out];exact H1,G1⟩
    case measure=>simp[intOf];omega
  ·have hk8:k=8:=om;subst hk8;have h8:=hkl.out;have HE:Hid (IntKind.i64.wrap _=sgn (gN (bs.take 8))):=wC (fun x hx=>HB.out x (List.mem_of_mem_take hx)) (by rw[l6];omega)
   have hn:Hid (rdV bs=M (sgn (gN (bs.take 8)),bs.drop 8)):=by
    show rdV bs=_;unfold rdV;rw[if_neg om]
   have he:=HE.out;go_wp2;go_ret;refine⟨hG.out,?_⟩;rw[hn.out];exact⟨_,rfl,rfl,hR.out⟩
theorem y8 (h:p:=by
 subst hm;unfold gO;go_wp2;refine⟨rfl,G0.out.trans g,?_⟩;rw[HG.out];rfl):p:=h
theorem y9 (h:p:=by
 subst hm;unfold gO;go_wp2;refine⟨rfl,G1.out.trans g,?_⟩;rw[HG.out];rfl):p:=h
theorem Ut (h:p:=by
 subst hm;unfold gO;go_wp2;refine⟨rfl,G2.out.trans g,?_⟩;rw[HG.out];rfl):p:=h
theorem fI (P:Nat) (bs:List Int) (w:World) (h:RdS P w bs) :
  Calls prog 69 #[pd (M ⟨P,0,Q⟩)] w fun e w'=>RdR P w (jX bs) (fun n v _=>v=Y I n) e w':=by
 cases bs with
 | nil=>exact(xI P w h).mono fun e w' ⟨h1,h2⟩=>⟨h2,h1⟩
 | cons b r=>exact(aAo P b r w h).mono fun e w' ⟨h1,h2,h3⟩=>⟨h3,_,h1,rfl,h2⟩
theorem jI (P:Nat) (bs:List Int) (w:World) (h:RdS P w bs) :
  Calls prog 143 #[pd (M ⟨P,0,Q⟩)] w fun e w'=>RdR P w (vQ bs) (fun o v _=>v=ag #[Y I o.1,Y I o.2]) e w':=by
 have hP:=h.lt;obtain⟨W,hWe⟩:=nm (w.alloc (U #[Y I 0,Y I 0] 97));have HWE:=Hi hWe;have H0:Hid (RdS P W bs):=by subst hWe;exact h.alloc _
 have G0:Hid (w.grownBy W (M P)):=by subst hWe;exact lb _ _ _
 have S0:Hid (w.heap.size<W.heap.size):=by subst hWe;show _<_;simp
 have c0:W.cell? ⟨w.heap.size,0,Q⟩=Y I 0:=by subst hWe;simp
 have c1:W.cell? ⟨w.heap.size,1,Q⟩=Y I 0:=by subst hWe;simp
 have f0:∀i,W.frozen? ⟨w.heap.size,i,Q⟩=false:=by subst hWe;intro i;simp
 have hR:w.heap.size≠P:=om;clear h hWe;go_enter func143,ntmps143
 go_upto_region 1 with fail
 rw[<-HWE.out]
 go_wp2_with fail
 refine(fI P bs _ H0.out).mono ?_;rintro e w1 ⟨g,hm⟩
 cases hc:jX bs with
 | none=>
  rw[hc]at hm
  have HG:Hid (vQ bs=Q):=by
   show vQ bs=Q;simp[vQ,hc]
  exact y8
 | some p=>
  obtain⟨kd,r1⟩:=p;rw[hc]at hm;obtain⟨v,rfl,rfl,h1⟩:=hm;have HC1:=Hi hc;have H1:Hid (RdS P w1 r1):=h1;have G1:=Hi (G0.out.trans g);have c0:=aL g hR c0;have c1:=aL g hR c1;have f0:=bD g hR S0.out f0;have S1:=Hi (nd S0.out g.size);clear h1 g hc
  go_wp2_with fail
  refine(rdValue_any P r1 _ H1.out).mono ?_;rintro e w2 ⟨g,hm⟩
  cases hc:rdV r1 with
  | none=>
   rw[hc]at hm
   have HG:Hid (vQ bs=Q):=by
    show vQ bs=Q;simp[vQ,HC1.out,hc]
   exact y9
  | some p=>
   obtain⟨n,r2⟩:=p;rw[hc]at hm;obtain⟨v,rfl,rfl,h1⟩:=hm;have HC2:=Hi hc;have H2:Hid (RdS P w2 r2):=h1;have G2:=Hi (G1.out.trans g);have c0:=aL g hR c0;have c1:=aL g hR c1;have f0:=bD g hR S1.out f0;clear h1 g hc
   have HG:Hid (vQ bs=M ((kd,n),r2)):=by
    show vQ bs=_;simp[vQ,HC1.out,HC2.out]
   obtain⟨y0,y1⟩:=yY (Y I kd) (Y I n) c0 c1
   go_wp2_with fail
   refine bodyPost_ret (v:=ag #[Y I kd,Y I n]) (by simp[results,results143,go_sem,y0,y1]) rfl ⟨(eJ (eJ G2.out nr 0 _) nr 1 _),?_⟩;rw[HG.out];exact⟨_,rfl,rfl,((H2.out.set hR).set hR)⟩
theorem rdGuard_any (P:Nat) (bs:List Int) (w:World) (h:RdS P w bs) :
  Calls prog 110 #[pd (M ⟨P,0,Q⟩)] w fun e w'=>RdR P w (nW bs) (fun x v _=>v=ag #[Y I x.k,Y I x.ak,Y I x.an,Y I x.bk,Y I x.bn]) e w':=by
 have hP:=h.lt;obtain⟨W,hWe⟩:=nm (w.alloc (U #[Y I 0,Y I 0,Y I 0,Y I 0,Y I 0] 99));have HWE:=Hi hWe;have H0:Hid (RdS P W bs):=by subst hWe;exact h.alloc _
 have G0:Hid (w.grownBy W (M P)):=by subst hWe;exact lb _ _ _
 have S0:Hid (w.heap.size<W.heap.size):=by subst hWe;show _<_;simp
 have c0:W.cell? ⟨w.heap.size,0,Q⟩=Y I 0:=by subst hWe;simp
 have c1:W.cell? ⟨w.heap.size,1,Q⟩=Y I 0:=by subst hWe;simp
 have c2:W.cell? ⟨w.heap.size,2,Q⟩=Y I 0:=by subst hWe;simp
 have c3:W.cell? ⟨w.heap.size,3,Q⟩=Y I 0:=by subst hWe;simp
 have c4:W.cell? ⟨w.heap.size,4,Q⟩=Y I 0:=by subst hWe;simp
 have f0:∀i,W.frozen? ⟨w.heap.size,i,Q⟩=false:=by subst hWe;intro i;simp
 have hR:w.heap.size≠P:=om;clear h hWe;go_enter func110,ntmps110
 go_upto_region 1 with fail
 rw[<-HWE.out]
 go_wp2_with fail
 refine(fI P bs _ H0.out).mono ?_;rintro e w1 ⟨g,hm⟩
 cases hc:jX bs with
 | none=>
  rw[hc]at hm
  have HG:Hid (nW bs=Q):=by
   show nW bs=Q;simp[nW,hc]
  exact y8
 | some p=>
  obtain⟨kd,r1⟩:=p;rw[hc]at hm;obtain⟨v,rfl,rfl,h1⟩:=hm;have HC1:=Hi hc;have H1:Hid (RdS P w1 r1):=h1;have G1:=Hi (G0.out.trans g);have c0:=aL g hR c0;have c1:=aL g hR c1;have c2:=aL g hR c2;have c3:=aL g hR c3;have c4:=aL g hR c4;have f0:=bD g hR S0.out f0;have S1:=Hi (nd S0.out g.size);clear h1 g hc
  go_wp2_with fail
  refine(jI P r1 _ H1.out).mono ?_;rintro e w2 ⟨g,hm⟩
  cases hc:vQ r1 with
  | none=>
   rw[hc]at hm
   have HG:Hid (nW bs=Q):=by
    show nW bs=Q;simp[nW,HC1.out,hc]
   exact y9
  | some p=>
   obtain⟨⟨ak,an⟩,r2⟩:=p;rw[hc]at hm;obtain⟨v,rfl,rfl,h1⟩:=hm;have HC2:=Hi hc;have H2:Hid (RdS P w2 r2):=h1;have G2:=Hi (G1.out.trans g);have c0:=aL g hR c0;have c1:=aL g hR c1;have c2:=aL g hR c2;have c3:=aL g hR c3;have c4:=aL g hR c4;have f0:=bD g hR S1.out f0;have S2:=Hi (nd S1.out g.size);clear h1 g hc
   go_wp2_with fail
   refine(jI P r2 _ H2.out).mono ?_;rintro e w3 ⟨g,hm⟩
   cases hc:vQ r2 with
   | none=>
    rw[hc]at hm
    have HG:Hid (nW bs=Q):=by
     show nW bs=Q;simp[nW,HC1.out,HC2.out,hc]
    exact Ut
   | some p=>
    obtain⟨⟨bk,bn⟩,r3⟩:=p;rw[hc]at hm;obtain⟨v,rfl,rfl,h1⟩:=hm;have HC3:=Hi hc;have H3:Hid (RdS P w3 r3):=h1;have G3:=Hi (G2.out.trans g);have c0:=aL g hR c0;have c1:=aL g hR c1;have c2:=aL g hR c2;have c3:=aL g hR c3;have c4:=aL g hR c4;have f0:=bD g hR S2.out f0;clear h1 g hc
    have HG:Hid (nW bs=M ((⟨kd,ak,an,bk,bn⟩:Gd),r3)):=by
     show nW bs=_;simp[nW,HC1.out,HC2.out,HC3.out]
    obtain⟨y0,y1,y2,y3,y4⟩:=putG5 (Y I kd) (Y I ak) (Y I an) (Y I bk) (Y I bn) c0 c1 c2 c3 c4
    go_wp2_with fail
    refine bodyPost_ret (v:=ag #[Y I kd,Y I ak,Y I an,Y I bk,Y I bn]) (by simp[results,results110,go_sem,y0,y1,y2,y3,y4]) rfl ⟨(eJ (eJ (eJ (eJ (eJ G3.out nr 0 _) nr 1 _) nr 2 _) nr 3 _) nr 4 _),?_⟩;rw[HG.out];exact⟨_,rfl,rfl,(((((H3.out.set hR).set hR).set hR).set hR).set hR)⟩
theorem rdSet_any (P:Nat) (bs:List Int) (w:World) (h:RdS P w bs) :
  Calls prog 112 #[pd (M ⟨P,0,Q⟩)] w fun e w'=>RdR P w (mI bs) (fun x v _=>v=ag #[Y I x.key,Y I x.op,Y I x.ak,Y I x.an,Y I x.bk,Y I x.bn]) e w':=by
 have hP:=h.lt;obtain⟨W,hWe⟩:=nm (w.alloc (U #[Y I 0,Y I 0,Y I 0,Y I 0,Y I 0,Y I 0] 102));have HWE:=Hi hWe;have H0:Hid (RdS P W bs):=by subst hWe;exact h.alloc _
 have G0:Hid (w.grownBy W (M P)):=by subst hWe;exact lb _ _ _
 have S0:Hid (w.heap.size<W.heap.size):=by subst hWe;show _<_;simp
 have c0:W.cell? ⟨w.heap.size,0,Q⟩=Y I 0:=by subst hWe;simp
 have c1:W.cell? ⟨w.heap.size,1,Q⟩=Y I 0:=by subst hWe;simp
 have c2:W.cell? ⟨w.heap.size,2,Q⟩=Y I 0:=by subst hWe;simp
 have c3:W.cell? ⟨w.heap.size,3,Q⟩=Y I 0:=by subst hWe;simp
 have c4:W.cell? ⟨w.heap.size,4,Q⟩=Y I 0:=by subst hWe;simp
 have c5:W.cell? ⟨w.heap.size,5,Q⟩=Y I 0:=by subst hWe;simp
 have f0:∀i,W.frozen? ⟨w.heap.size,i,Q⟩=false:=by subst hWe;intro i;simp
 have hR:w.heap.size≠P:=om;clear h hWe;go_enter func112,ntmps112
 go_upto_region 1 with fail
 rw[<-HWE.out]
 go_wp2_with fail
 refine(fI P bs _ H0.out).mono ?_;rintro e w1 ⟨g,hm⟩
 cases hc:jX bs with
 | none=>
  rw[hc]at hm
  have HG:Hid (mI bs=Q):=by
   show mI bs=Q;simp[mI,hc]
  exact y8
 | some p=>
  obtain⟨kd,r1⟩:=p;rw[hc]at hm;obtain⟨v,rfl,rfl,h1⟩:=hm;have HC1:=Hi hc;have H1:Hid (RdS P w1 r1):=h1;have G1:=Hi (G0.out.trans g);have c0:=aL g hR c0;have c1:=aL g hR c1;have c2:=aL g hR c2;have c3:=aL g hR c3;have c4:=aL g hR c4;have c5:=aL g hR c5;have f0:=bD g hR S0.out f0;have S1:=Hi (nd S0.out g.size);clear h1 g hc
  go_wp2_with fail
  refine(fI P r1 _ H1.out).mono ?_;rintro e w2 ⟨g,hm⟩
  cases hc:jX r1 with
  | none=>
   rw[hc]at hm
   have HG:Hid (mI bs=Q):=by
    show mI bs=Q;simp[mI,HC1.out,hc]
   exact y9
  | some p=>
   obtain⟨op,r2⟩:=p;rw[hc]at hm;obtain⟨v,rfl,rfl,h1⟩:=hm;have HC2:=Hi hc;have H2:Hid (RdS P w2 r2):=h1;have G2:=Hi (G1.out.trans g);have c0:=aL g hR c0;have c1:=aL g hR c1;have c2:=aL g hR c2;have c3:=aL g hR c3;have c4:=aL g hR c4;have c5:=aL g hR c5;have f0:=bD g hR S1.out f0;have S2:=Hi (nd S1.out g.size);clear h1 g hc
   go_wp2_with fail
   refine(jI P r2 _ H2.out).mono ?_;rintro e w3 ⟨g,hm⟩
   cases hc:vQ r2 with
   | none=>
    rw[hc]at hm
    have HG:Hid (mI bs=Q):=by
     show mI bs=Q;simp[mI,HC1.out,HC2.out,hc]
    exact Ut
   | some p=>
    obtain⟨⟨ak,an⟩,r3⟩:=p;rw[hc]at hm;obtain⟨v,rfl,rfl,h1⟩:=hm;have HC3:=Hi hc;have H3:Hid (RdS P w3 r3):=h1;have G3:=Hi (G2.out.trans g);have c0:=aL g hR c0;have c1:=aL g hR c1;have c2:=aL g hR c2;have c3:=aL g hR c3;have c4:=aL g hR c4;have c5:=aL g hR c5;have f0:=bD g hR S2.out f0;have S3:=Hi (nd S2.out g.size);clear h1 g hc
    go_wp2_with fail
    refine(jI P r3 _ H3.out).mono ?_;rintro e w4 ⟨g,hm⟩
    cases hc:vQ r3 with
    | none=>
     rw[hc]at hm
     have HG:Hid (mI bs=Q):=by
      show mI bs=Q;simp[mI,HC1.out,HC2.out,HC3.out,hc]
     subst hm;unfold gO;go_wp2;refine⟨rfl,G3.out.trans g,?_⟩;rw[HG.out];rfl
    | some p=>
     obtain⟨⟨bk,bn⟩,r4⟩:=p;rw[hc]at hm;obtain⟨v,rfl,rfl,h1⟩:=hm;have HC4:=Hi hc;have H4:Hid (RdS P w4 r4):=h1;have G4:=Hi (G3.out.trans g);have c0:=aL g hR c0;have c1:=aL g hR c1;have c2:=aL g hR c2;have c3:=aL g hR c3;have c4:=aL g hR c4;have c5:=aL g hR c5;have f0:=bD g hR S3.out f0;clear h1 g hc
     have HG:Hid (mI bs=M ((⟨kd,op,ak,an,bk,bn⟩:St),r4)):=by
      show mI bs=_;simp[mI,HC1.out,HC2.out,HC3.out,HC4.out]
     obtain⟨y0,y1,y2,y3,y4,y5⟩:=put6 (Y I kd) (Y I op) (Y I ak) (Y I an) (Y I bk) (Y I bn) c0 c1 c2 c3 c4 c5
     go_wp2_with fail
     refine bodyPost_ret (v:=ag #[Y I kd,Y I op,Y I ak,Y I an,Y I bk,Y I bn]) (by simp[results,results112,go_sem,y0,y1,y2,y3,y4,y5]) rfl ⟨(eJ (eJ (eJ (eJ (eJ (eJ G4.out nr 0 _) nr 1 _) nr 2 _) nr 3 _) nr 4 _) nr 5 _),?_⟩;rw[HG.out];exact⟨_,rfl,rfl,((((((H4.out.set hR).set hR).set hR).set hR).set hR).set hR)⟩
theorem vv (h:p:=by
 show _=_;rw[hK.out];obtain⟨j,hj⟩:∃j,n - k=j+1:=⟨n - k - 1,by omega⟩;have hj2:n - (k+1)=j:=om;rw[hj,hj2];simp[lK,hc,Option.map_map,Function.comp_def]):p:=h
theorem ye (h:p:=by
 rw[HL.out,hK.out];obtain⟨j,hj⟩:∃j,n - k=j+1:=⟨n - k - 1,by omega⟩;rw[hj];simp[lK,hc]):p:=h
theorem zm (h:p:=by
 subst hm;unfold gO;go_wp2;refine⟨rfl,hG.out.trans g,?_⟩;rw[HG.out];rfl):p:=h
theorem U0 (h:p:=by
 clear hK HL;go_wp2;go_ret;refine⟨hG.out,?_⟩;rw[HE.out];exact⟨_,rfl,hrow.out,hR.out⟩):p:=h
theorem U9 (h:p:=by
 subst hm;unfold gO;go_wp2;refine⟨rfl,g,?_⟩;rw[HG.out];rfl):p:=h
theorem vR {b:Int} (h:jX bs=M (b,r)):b∈bs:=by
 cases bs with
 | nil=>cases h
 | cons c t=>injection h with h;injection h with h1 h2;rw[h1];simp
theorem wZ {w:World} {base:Nat} (h:w.ownsRow base E size v n xs) (hg:w.grownBy w' (M P)) (hP:P<base):w'.ownsRow base E size v n xs:=by
 refine h.kept hg ?_
 cases ho:v.ownBlock with
 | none=>exact .inl rfl
 | some j=>exact .inr (fun e=>by have:=(h.lt j ho).1;injection e with e;omega)
theorem fV (w:World) (cs:List Value) (E:TypeId) (n:Nat) (hn:n=w.heap.size):∀j u,cs[j]?=M u->(w.alloc (U cs.toArray E)).cell? ((⟨n,0,Q⟩:Addr).add j)=M u:=by
 subst hn;intro j u hj;rw[bZ,nw];simp[hj]
theorem aBh:∀(gs hs:List St),iD (gs++hs)=iD gs++iD hs
 | [],_=>rfl
 | g::gs,hs=>by simp[iD,aBh gs hs]
theorem aBb (l:List Gd) (g:Gd):mP (l++[g])=mP l++kZ g:=by rw[flat_app];simp[mP]
theorem xW (l:List St) (g:St):iD (l++[g])=iD l++kQ g:=by rw[aBh];simp[iD]
theorem map_snoc (l:List Int) (x:Int):(l++[x]).map (Y I)=l.map (Y I)++[Y I x]:=by simp
theorem xV (g:Gd):∀u∈kZ g,u.oneCell'=true:=fun u hu=>flat_one [g] u (by simpa[mP]using hu)
theorem wX (g:St):∀u∈kQ g,u.oneCell'=true:=fun u hu=>aBf [g] u (by simpa[iD]using hu)
theorem rdInts_any (P:Nat) (bs:List Int) (w:World) (h:RdS P w bs) :
  Calls prog 108 #[pd (M ⟨P,0,Q⟩),.func (.func 69) #[pd (M ⟨P,0,Q⟩)] #[]] w fun e w'=>RdR P w (iU jX bs) (fun l v w'=>w'.ownsRow w.heap.size 3 1 v l.length (l.map (Y I))) e w':=by
 obtain⟨i0,hi,hz0,hz1,hz2⟩:=info_parts info3;have hP:=h.lt;have HB:=Hi h.byt;have H0:=Hi h;clear h;go_enter func108,ntmps108
 go_wp2_with fail
 refine(fI P bs _ H0.out).mono ?_;rintro e w1 ⟨g,hm⟩
 cases hc:jX bs with
 | none=>
  rw[hc]at hm
  have HG:Hid (iU jX bs=Q):=by
   show iU jX bs=Q;simp[iU,hc]
  exact U9
 | some p=>
  obtain⟨b,r0⟩:=p;rw[hc]at hm;obtain⟨v,rfl,rfl,h1⟩:=hm;obtain⟨hb0,hb1⟩:=HB.out b (vR hc);obtain⟨n,rfl⟩:∃n:Nat,b=n:=⟨b.toNat,by omega⟩
  have HL:Hid (iU jX bs=lK jX n r0):=by
   show iU jX bs=_;simp[iU,hc]
  have H1:Hid (RdS P w1 r0):=h1;have G1:=Hi g;clear h1 g hc hb0;go_wp2
  go_loopw [5,8] (fun v i wr=>∃(k:Nat) (l:List Int) (r:List Int),k<=n/\i=Y I k/\l.length=k/\Hid (lK jX n r0=(lK jX (n - k) r).map fun q=>(l++q.1,q.2))/\Hid (wr.ownsRow w.heap.size 3 1 v l.length (l.map (Y I)))/\Hid (RdS P wr r)/\Hid (w.grownBy wr (M P))) (fun _ i _=>n - (intOf i).toNat)
  case atStart=>exact⟨0,[],r0,nz,rfl,rfl,by show _=_;simp,n8 _ _ _ _,H1,G1⟩
  case round=>
   obtain⟨k,l,r,hk,rfl,hl,hK,hrow,hR,hG⟩:=hrel;by_cases hlt:k<n
   ·have hlow:=Hi (fun j hj=>(hrow.out.lt j hj).1)
    go_wp2_with fail
    refine(fI P r _ hR.out).mono ?_;rintro e w3 ⟨g,hm⟩
    cases hc:jX r with
    | none=>
     rw[hc]at hm
     have HG:Hid (iU jX bs=Q):=by
      show iU jX bs=Q;exact ye
     exact zm
    | some p=>
     obtain⟨x,r'⟩:=p;rw[hc]at hm;obtain⟨v,rfl,rfl,h3⟩:=hm
     have HK3:Hid (lK jX n r0=(lK jX (n - (k+1)) r').map fun q=>((l++[x])++q.1,q.2)):=by
      exact vv
     have HO:=Hi (wZ hrow.out g hP);have H3:Hid (RdS P w3 r'):=h3;have G3:=Hi (hG.out.trans g);have hle:=G3.out.size;clear h3 g hc hK hrow hR hG
     go_wp2_with (first
      | (at_builtin;refine wpList_append_own _ rfl _ _ 41 rfl w.heap.size 3 i0 (Y I 0) 1 8 underlying41 hi hz0 hz1 hz2 rfl dc _ _ _ rfl (HO.out.alloc _) _ 1 1 [Y I x] rfl rfl (fV w3 [Y I x] 3 _ rfl) (ints_oneCell I [x]) (by unfold maxLen;omega) om (by simp;omega) ?_;intro v' w5 hown' hgrow _;have HO5:Hid _:=hown';have HGR:Hid _:=hgrow;clear hown' hgrow)
      | go_in)
     go_roundw
     case rel=>
      have hgA:w3.grownBy w5 u5.ownBlock:=(lb w3 _ _).trans HGR.out;refine⟨k+1,l++[x],r',by omega,by go_num,by simp[hl],HK3,?_,?_,?_⟩
      ·show w5.ownsRow _ _ _ _ _ _;rw[map_snoc,nj];exact HO5.out
      ·exact H3.out.kept hgA (fun e=>by have:=hlow.out P e.symm;omega)
      ·exact gb_up G3.out hgA hlow.out
     case measure=>simp[intOf];omega
   ·have hkn:k=n:=om;subst hkn
    have HE:Hid (iU jX bs=M (l,r)):=by
     show iU jX bs=_;rw[HL.out,hK.out];simp[lK]
    exact U0
theorem rdGuards_any (P:Nat) (bs:List Int) (w:World) (h:RdS P w bs) :
  Calls prog 109 #[pd (M ⟨P,0,Q⟩),.func (.func 110) #[pd (M ⟨P,0,Q⟩)] #[]] w fun e w'=>RdR P w (iU nW bs) (fun l v w'=>w'.ownsRow w.heap.size 99 5 v l.length (mP l)) e w':=by
 obtain⟨i0,hi,hz0,hz1,hz2⟩:=info_parts info99;have hP:=h.lt;have HB:=Hi h.byt;have H0:=Hi h;clear h;go_enter func109,ntmps109
 go_wp2_with fail
 refine(fI P bs _ H0.out).mono ?_;rintro e w1 ⟨g,hm⟩
 cases hc:jX bs with
 | none=>
  rw[hc]at hm
  have HG:Hid (iU nW bs=Q):=by
   show iU nW bs=Q;simp[iU,hc]
  exact U9
 | some p=>
  obtain⟨b,r0⟩:=p;rw[hc]at hm;obtain⟨v,rfl,rfl,h1⟩:=hm;obtain⟨hb0,hb1⟩:=HB.out b (vR hc);obtain⟨n,rfl⟩:∃n:Nat,b=n:=⟨b.toNat,by omega⟩
  have HL:Hid (iU nW bs=lK nW n r0):=by
   show iU nW bs=_;simp[iU,hc]
  have H1:Hid (RdS P w1 r0):=h1;have G1:=Hi g;clear h1 g hc hb0;go_wp2
  go_loopw [5,8] (fun v i wr=>∃(k:Nat) (l:List Gd) (r:List Int),k<=n/\i=Y I k/\l.length=k/\Hid (lK nW n r0=(lK nW (n - k) r).map fun q=>(l++q.1,q.2))/\Hid (wr.ownsRow w.heap.size 99 5 v l.length (mP l))/\Hid (RdS P wr r)/\Hid (w.grownBy wr (M P))) (fun _ i _=>n - (intOf i).toNat)
  case atStart=>exact⟨0,[],r0,nz,rfl,rfl,by show _=_;simp,n8 _ _ _ _,H1,G1⟩
  case round=>
   obtain⟨k,l,r,hk,rfl,hl,hK,hrow,hR,hG⟩:=hrel;by_cases hlt:k<n
   ·have hlow:=Hi (fun j hj=>(hrow.out.lt j hj).1)
    go_wp2_with fail
    refine(rdGuard_any P r _ hR.out).mono ?_;rintro e w3 ⟨g,hm⟩
    cases hc:nW r with
    | none=>
     rw[hc]at hm
     have HG:Hid (iU nW bs=Q):=by
      show iU nW bs=Q;exact ye
     exact zm
    | some p=>
     obtain⟨x,r'⟩:=p;rw[hc]at hm;obtain⟨v,rfl,rfl,h3⟩:=hm
     have HK3:Hid (lK nW n r0=(lK nW (n - (k+1)) r').map fun q=>((l++[x])++q.1,q.2)):=by
      exact vv
     have HO:=Hi (wZ hrow.out g hP);have H3:Hid (RdS P w3 r'):=h3;have G3:=Hi (hG.out.trans g);have hle:=G3.out.size;clear h3 g hc hK hrow hR hG;obtain⟨kd,ak,an,bk,bn⟩:=x
     go_wp2_with (first
      | (at_builtin;refine wpList_append_own _ rfl _ _ 92 rfl w.heap.size 99 i0 (ag #[Y I 0,Y I 0,Y I 0,Y I 0,Y I 0]) 5 40 underlying92 hi hz0 hz1 hz2 rfl dc _ _ _ rfl (HO.out.alloc _) _ 1 1 [Y I kd,Y I ak,Y I an,Y I bk,Y I bn] rfl rfl (fV w3 [Y I kd,Y I ak,Y I an,Y I bk,Y I bn] 99 _ rfl) (xV ⟨kd,ak,an,bk,bn⟩) (by unfold maxLen;omega) om (by simp;omega) ?_;intro v' w5 hown' hgrow _;have HO5:Hid _:=hown';have HGR:Hid _:=hgrow;clear hown' hgrow)
      | go_in)
     go_roundw
     case rel=>
      have hgA:w3.grownBy w5 u5.ownBlock:=(lb w3 _ _).trans HGR.out;refine⟨k+1,l++[(⟨kd,ak,an,bk,bn⟩:Gd)],r',by omega,by go_num,by simp[hl],HK3,?_,?_,?_⟩
      ·show w5.ownsRow _ _ _ _ _ _;rw[aBb,nj];exact HO5.out
      ·exact H3.out.kept hgA (fun e=>by have:=hlow.out P e.symm;omega)
      ·exact gb_up G3.out hgA hlow.out
     case measure=>simp[intOf];omega
   ·have hkn:k=n:=om;subst hkn
    have HE:Hid (iU nW bs=M (l,r)):=by
     show iU nW bs=_;rw[HL.out,hK.out];simp[lK]
    exact U0
theorem rdSets_any (P:Nat) (bs:List Int) (w:World) (h:RdS P w bs) :
  Calls prog 111 #[pd (M ⟨P,0,Q⟩),.func (.func 112) #[pd (M ⟨P,0,Q⟩)] #[]] w fun e w'=>RdR P w (iU mI bs) (fun l v w'=>w'.ownsRow w.heap.size 102 6 v l.length (iD l)) e w':=by
 obtain⟨i0,hi,hz0,hz1,hz2⟩:=info_parts info102;have hP:=h.lt;have HB:=Hi h.byt;have H0:=Hi h;clear h;go_enter func111,ntmps111
 go_wp2_with fail
 refine(fI P bs _ H0.out).mono ?_;rintro e w1 ⟨g,hm⟩
 cases hc:jX bs with
 | none=>
  rw[hc]at hm
  have HG:Hid (iU mI bs=Q):=by
   show iU mI bs=Q;simp[iU,hc]
  exact U9
 | some p=>
  obtain⟨b,r0⟩:=p;rw[hc]at hm;obtain⟨v,rfl,rfl,h1⟩:=hm;obtain⟨hb0,hb1⟩:=HB.out b (vR hc);obtain⟨n,rfl⟩:∃n:Nat,b=n:=⟨b.toNat,by omega⟩
  have HL:Hid (iU mI bs=lK mI n r0):=by
   show iU mI bs=_;simp[iU,hc]
  have H1:Hid (RdS P w1 r0):=h1;have G1:=Hi g;clear h1 g hc hb0;go_wp2
  go_loopw [5,8] (fun v i wr=>∃(k:Nat) (l:List St) (r:List Int),k<=n/\i=Y I k/\l.length=k/\Hid (lK mI n r0=(lK mI (n - k) r).map fun q=>(l++q.1,q.2))/\Hid (wr.ownsRow w.heap.size 102 6 v l.length (iD l))/\Hid (RdS P wr r)/\Hid (w.grownBy wr (M P))) (fun _ i _=>n - (intOf i).toNat)
  case atStart=>exact⟨0,[],r0,nz,rfl,rfl,by show _=_;simp,n8 _ _ _ _,H1,G1⟩
  case round=>
   obtain⟨k,l,r,hk,rfl,hl,hK,hrow,hR,hG⟩:=hrel;by_cases hlt:k<n
   ·have hlow:=Hi (fun j hj=>(hrow.out.lt j hj).1)
    go_wp2_with fail
    refine(rdSet_any P r _ hR.out).mono ?_;rintro e w3 ⟨g,hm⟩
    cases hc:mI r with
    | none=>
     rw[hc]at hm
     have HG:Hid (iU mI bs=Q):=by
      show iU mI bs=Q;exact ye
     exact zm
    | some p=>
     obtain⟨x,r'⟩:=p;rw[hc]at hm;obtain⟨v,rfl,rfl,h3⟩:=hm
     have HK3:Hid (lK mI n r0=(lK mI (n - (k+1)) r').map fun q=>((l++[x])++q.1,q.2)):=by
      exact vv
     have HO:=Hi (wZ hrow.out g hP);have H3:Hid (RdS P w3 r'):=h3;have G3:=Hi (hG.out.trans g);have hle:=G3.out.size;clear h3 g hc hK hrow hR hG;obtain⟨key,op,ak,an,bk,bn⟩:=x
     go_wp2_with (first
      | (at_builtin;refine wpList_append_own _ rfl _ _ 93 rfl w.heap.size 102 i0 (ag #[Y I 0,Y I 0,Y I 0,Y I 0,Y I 0,Y I 0]) 6 48 underlying93 hi hz0 hz1 hz2 rfl dc _ _ _ rfl (HO.out.alloc _) _ 1 1 [Y I key,Y I op,Y I ak,Y I an,Y I bk,Y I bn] rfl rfl (fV w3 [Y I key,Y I op,Y I ak,Y I an,Y I bk,Y I bn] 102 _ rfl) (wX ⟨key,op,ak,an,bk,bn⟩) (by unfold maxLen;omega) om (by simp;omega) ?_;intro v' w5 hown' hgrow _;have HO5:Hid _:=hown';have HGR:Hid _:=hgrow;clear hown' hgrow)
      | go_in)
     go_roundw
     case rel=>
      have hgA:w3.grownBy w5 u5.ownBlock:=(lb w3 _ _).trans HGR.out;refine⟨k+1,l++[(⟨key,op,ak,an,bk,bn⟩:St)],r',by omega,by go_num,by simp[hl],HK3,?_,?_,?_⟩
      ·show w5.ownsRow _ _ _ _ _ _;rw[xW,nj];exact HO5.out
      ·exact H3.out.kept hgA (fun e=>by have:=hlow.out P e.symm;omega)
      ·exact gb_up G3.out hgA hlow.out
     case measure=>simp[intOf];omega
   ·have hkn:k=n:=om;subst hkn
    have HE:Hid (iU mI bs=M (l,r)):=by
     show iU mI bs=_;rw[HL.out,hK.out];simp[lK]
    exact U0
def XB (lo hi:Nat) (x:TxA):Prop:=InBlocks lo hi x.ra/\InBlocks lo hi x.ga/\InBlocks lo hi x.sa
theorem rU {w:World} (hg:w.grownBy w' (M R)) (h:IsInts w a zs) (hi:InBlocks lo hi a) (hlt:R<lo):IsInts w' a zs:=h.keptBy hg (fun ad e q=>by have:=(hi ad e).1;injection q with q;omega)
theorem gb_gs {w:World} {zs:List Gd} (hg:w.grownBy w' (M R)) (h:IsGs w a zs) (hi:InBlocks lo hi a) (hlt:R<lo):IsGs w' a zs:=h.keptBy hg (fun ad e q=>by have:=(hi ad e).1;injection q with q;omega)
theorem gb_ss {w:World} {zs:List St} (hg:w.grownBy w' (M R)) (h:IsSs w a zs) (hi:InBlocks lo hi a) (hlt:R<lo):IsSs w' a zs:=h.keptBy hg (fun ad e q=>by have:=(hi ad e).1;injection q with q;omega)
theorem iO (w:World) (R i:Nat) (v:Value):w.grownBy (w.setCell ⟨R,i,Q⟩ v) (M R):=⟨rfl,rfl,rfl,by simp,fun b _ hb=>wo _ _ _ _ (fun e=>hb (by rw[e]))⟩
theorem gb_x {w:World} (hg:w.grownBy w' (M R)) (h:IsX w x) (hi:XB lo hi x) (hlt:R<lo):IsX w' x:=
 ⟨⟨rU hg h.t.r hi.1 hlt,gb_gs hg h.t.g hi.2.1 hlt,gb_ss hg h.t.s hi.2.2 hlt,h.t.lr,h.t.lg,h.t.ls⟩,h.rn,h.gn,h.sn⟩
theorem XB.widen {lo' hi':Nat} (h:XB lo hi x) (h1:lo'<=lo) (h2:hi<=hi'):XB lo' hi' x:=⟨h.1.widen h1 h2,h.2.1.widen h1 h2,h.2.2.widen h1 h2⟩
theorem rdTxn_any (P:Nat) (bs:List Int) (w:World) (h:RdS P w bs) :
  Calls prog 71 #[pd (M ⟨P,0,Q⟩)] w fun e w'=>RdR P w (nV bs) (fun c v w'=>∃x:TxA,v=ag #[J x.ra x.rs.length x.rc,J x.ga x.gs.length x.gc,J x.sa x.ss.length x.sc]/\x.core=c/\IsX w' x/\XB w.heap.size w'.heap.size x) e w':=by
 have hP:=h.lt;obtain⟨W,hWe⟩:=nm (w.alloc (U #[J Q 0 0,J Q 0 0,J Q 0 0] 95));have HWE:=Hi hWe;have H0:Hid (RdS P W bs):=by subst hWe;exact h.alloc _
 have G0:Hid (w.grownBy W (M P)):=by subst hWe;exact lb _ _ _
 have S0:Hid (w.heap.size<W.heap.size):=by subst hWe;show _<_;simp
 have c0:W.cell? ⟨w.heap.size,0,Q⟩=J Q 0 0:=by subst hWe;simp
 have c1:W.cell? ⟨w.heap.size,1,Q⟩=J Q 0 0:=by subst hWe;simp
 have c2:W.cell? ⟨w.heap.size,2,Q⟩=J Q 0 0:=by subst hWe;simp
 have f0:∀i,W.frozen? ⟨w.heap.size,i,Q⟩=false:=by subst hWe;intro i;simp
 have hR:w.heap.size≠P:=om;clear h hWe;go_enter func71,ntmps71
 go_upto_region 1 with fail
 rw[<-HWE.out]
 go_wp2_with fail
 refine(rdInts_any P bs _ H0.out).mono ?_;rintro e w1 ⟨g,hm⟩
 cases hc:iU jX bs with
 | none=>
  rw[hc]at hm
  have HG:Hid (nV bs=Q):=by
   show nV bs=Q;simp[nV,hc]
  exact y8
 | some p=>
  obtain⟨l1,r1⟩:=p;rw[hc]at hm;obtain⟨v,rfl,ho,h1⟩:=hm;have HL1:=Hi ((kT rdN_only bs l1 r1 H0.out.byt hc).2.1);have HC1:=Hi hc;obtain⟨a1,k1,rfl,hi⟩:=gF ho;have HI1:Hid (IsInts w1 a1 l1):=hi;have HW1:=Hi (pA ho);have H1:Hid (RdS P w1 r1):=h1;have G1:=Hi (G0.out.trans g);have T1:=Hi g;have c0:=aL g hR c0;have c1:=aL g hR c1;have c2:=aL g hR c2;have f0:=bD g hR S0.out f0;have S1:=Hi (nd S0.out g.size);clear h1 g hc ho hi
  go_wp2_with fail
  refine(rdGuards_any P r1 _ H1.out).mono ?_;rintro e w2 ⟨g,hm⟩
  cases hc:iU nW r1 with
  | none=>
   rw[hc]at hm
   have HG:Hid (nV bs=Q):=by
    show nV bs=Q;simp[nV,HC1.out,hc]
   exact y9
  | some p=>
   obtain⟨l2,r2⟩:=p;rw[hc]at hm;obtain⟨v,rfl,ho,h1⟩:=hm;have HL2:=Hi ((kT rdG_only r1 l2 r2 H1.out.byt hc).2.1);have HC2:=Hi hc;obtain⟨a2,k2,rfl,hi⟩:=xR ho;have HI2:Hid (IsGs w2 a2 l2):=hi;have HW2:=Hi (pA ho);have H2:Hid (RdS P w2 r2):=h1;have G2:=Hi (G1.out.trans g);have T2:=Hi g;have c0:=aL g hR c0;have c1:=aL g hR c1;have c2:=aL g hR c2;have f0:=bD g hR S1.out f0;have S2:=Hi (nd S1.out g.size);clear h1 g hc ho hi
   go_wp2_with fail
   refine(rdSets_any P r2 _ H2.out).mono ?_;rintro e w3 ⟨g,hm⟩
   cases hc:iU mI r2 with
   | none=>
    rw[hc]at hm
    have HG:Hid (nV bs=Q):=by
     show nV bs=Q;simp[nV,HC1.out,HC2.out,hc]
    exact Ut
   | some p=>
    obtain⟨l3,r3⟩:=p;rw[hc]at hm;obtain⟨v,rfl,ho,h1⟩:=hm;have HL3:=Hi ((kT rdS_only r2 l3 r3 H2.out.byt hc).2.1);have HC3:=Hi hc;obtain⟨a3,k3,rfl,hi⟩:=wL ho;have HI3:Hid (IsSs w3 a3 l3):=hi;have HW3:=Hi (pA ho);have H3:Hid (RdS P w3 r3):=h1;have G3:=Hi (G2.out.trans g);have T3:=Hi g;have c0:=aL g hR c0;have c1:=aL g hR c1;have c2:=aL g hR c2;have f0:=bD g hR S2.out f0;clear h1 g hc ho hi
    have HG:Hid (nV bs=M ((l1,l2,l3),r3)):=by
     show nV bs=_;simp[nV,HC1.out,HC2.out,HC3.out]
    obtain⟨y0,y1,y2⟩:=put3 (J a1 l1.length k1) (J a2 l2.length k2) (J a3 l3.length k3) c0 c1 c2;have b0:=S0.out;have b1:=T1.out.size;have b2:=T2.out.size;have b3:=T3.out.size
    have HX:Hid (IsX w3 ⟨a1,a2,a3,k1,k2,k3,l1,l2,l3⟩):=by
     have m1:=HL1.out;have m2:=HL2.out;have m3:=HL3.out;exact⟨⟨rU T3.out (rU T2.out HI1.out HW1.out.1 om) HW1.out.1 om,gb_gs T3.out HI2.out HW2.out.1 om,HI3.out,by simp only;unfold maxLen;omega,by simp only;unfold maxLen;omega,by simp only;unfold maxLen;omega⟩,HW1.out.2,HW2.out.2,HW3.out.2⟩
    have HXB:Hid (XB (w.heap.size+1) w3.heap.size ⟨a1,a2,a3,k1,k2,k3,l1,l2,l3⟩):=⟨HW1.out.1.widen om om,HW2.out.1.widen om om,HW3.out.1.widen om om⟩;clear b0 b1 b2 b3
    go_wp2_with fail
    refine bodyPost_ret (v:=ag #[J a1 l1.length k1,J a2 l2.length k2,J a3 l3.length k3]) (by simp[results,results71,go_sem,y0,y1,y2]) rfl ⟨(eJ (eJ (eJ G3.out nr 0 _) nr 1 _) nr 2 _),?_⟩;rw[HG.out];refine⟨_,rfl,⟨⟨a1,a2,a3,k1,k2,k3,l1,l2,l3⟩,rfl,rfl,?_,HXB.out.widen om sm⟩,((H3.out.set hR).set hR).set hR⟩;exact gb_x (iO _ _ _ _) (gb_x (iO _ _ _ _) (gb_x (iO _ _ _ _) HX.out HXB.out (nk _)) HXB.out (nk _)) HXB.out (nk _)
theorem lG {w:World} {ops:Array Oper} {rest:List Oper} {o:Oper} {a:Act} {Qq:Exit->Act->World->Prop} (hgd:o.guard=Q) (s x:Operand)
  (ho:o.op=.call {callee:=.builtin .append,args:=#[s,x],argTypes:=#[27,27]})
  (C:Nat) (v:Value) (l:List TxA) (hs:a.eval s=v) (hown:TxRow C w v l)
  (ad:Addr) (y:TxA) (c:Nat) (hx:a.eval x=J (M ad) 1 c) (hnews:∀j u,(kP y)[j]?=M u->w.cell? (ad.add j)=M u) (hm:IsX w y/\XIn C w.heap.size v y)
  (hsm:l.length<=1000) (hbase:C<=w.heap.size)
  (h:∀v' w',TxRow C w' v' (l++[y])->w.grownBy w' v.ownBlock->wpList prog ops Qq rest (a.put o.dst v') w') :
  wpList prog ops Qq (o::rest) a w:=by
 obtain⟨i,hi,hz,hsz,hby⟩:=info_parts info95;refine wpList_append_own_at w hgd s x 27 ho C 95 i _ 3 72 underlying27 hi hz hsz hby rfl dc v l.length (iQ l) hs hown.1 ad 1 c (kP y) hx rfl hnews (fun u hu=>aBc [y] u (by simpa[iQ]using hu)) (by unfold maxLen;omega) om hbase ?_;intro v' w' h2 h3 _ h5;exact h v' w' (hown.push (m:=[y]) (by simpa[iQ]using h2) h3 h5 (fun x hx=>by simp only[List.mem_singleton]at hx;subst hx;exact hm)) h3
theorem XB.xin (h:XB lo hi x) (hC:C<=lo) (hv:∀j,v.ownBlock=M j->j<lo):XIn C hi v x:=
 ⟨h.1.widen hC nr,h.2.1.widen hC nr,h.2.2.widen hC nr,fun ad e q=>by have:=hv _ q;have:=(h.1 ad e).1;omega,fun ad e q=>by have:=hv _ q;have:=(h.2.1 ad e).1;omega,fun ad e q=>by have:=hv _ q;have:=(h.2.2 ad e).1;omega⟩
theorem rdTxns_any (P:Nat) (bs:List Int) (w:World) (h:RdS P w bs) :
  Calls prog 70 #[pd (M ⟨P,0,Q⟩),.func (.func 71) #[pd (M ⟨P,0,Q⟩)] #[]] w fun e w'=>RdR P w (iU nV bs) (fun l v w'=>∃cl,TxRow w.heap.size w' v cl/\cl.map TxA.core=l) e w':=by
 have hP:=h.lt;have HB:=Hi h.byt;have H0:=Hi h;clear h;go_enter func70,ntmps70
 go_wp2_with fail
 refine(fI P bs _ H0.out).mono ?_;rintro e w1 ⟨g,hm⟩
 cases hc:jX bs with
 | none=>
  rw[hc]at hm
  have HG:Hid (iU nV bs=Q):=by
   show iU nV bs=Q;simp[iU,hc]
  exact U9
 | some p=>
  obtain⟨b,r0⟩:=p;rw[hc]at hm;obtain⟨v,rfl,rfl,h1⟩:=hm;obtain⟨hb0,hb1⟩:=HB.out b (vR hc);obtain⟨n,rfl⟩:∃n:Nat,b=n:=⟨b.toNat,by omega⟩
  have HL:Hid (iU nV bs=lK nV n r0):=by
   show iU nV bs=_;simp[iU,hc]
  have H1:Hid (RdS P w1 r0):=h1;have G1:=Hi g;clear h1 g hc hb0;go_wp2
  go_loopw [5,8] (fun v i wr=>∃(k:Nat) (l:List TxA) (r:List Int),k<=n/\i=Y I k/\l.length=k/\Hid (lK nV n r0=(lK nV (n - k) r).map fun q=>(l.map TxA.core++q.1,q.2))/\Hid (TxRow w.heap.size wr v l)/\Hid (RdS P wr r)/\Hid (w.grownBy wr (M P))) (fun _ i _=>n - (intOf i).toNat)
  case atStart=>exact⟨0,[],r0,nz,rfl,rfl,by show _=_;simp,zZ _ _,H1,G1⟩
  case round=>
   obtain⟨k,l,r,hk,rfl,hl,hK,hrow,hR,hG⟩:=hrel;by_cases hlt:k<n
   ·have hlow:=Hi (fun j hj=>hrow.out.1.lt j hj)
    go_wp2_with fail
    refine(rdTxn_any P r _ hR.out).mono ?_;rintro e w3 ⟨g,hm⟩
    cases hc:nV r with
    | none=>
     rw[hc]at hm
     have HG:Hid (iU nV bs=Q):=by
      show iU nV bs=Q;exact ye
     exact zm
    | some p=>
     obtain⟨c,r'⟩:=p;rw[hc]at hm;obtain⟨v,rfl,⟨x,rfl,rfl,hx,hxb⟩,h3⟩:=hm
     have HK3:Hid (lK nV n r0=(lK nV (n - (k+1)) r').map fun q=>((l++[x]).map TxA.core++q.1,q.2)):=by
      exact vv
     have hCw:=hG.out.size;have hww:=g.size;have HO:=Hi (hrow.out.kept g (fun j e=>by injection e with e;omega));have HM:Hid (∀o,IsX (w3.alloc o) x/\XIn w.heap.size (w3.alloc o).heap.size u5 x):=fun o=>⟨hx.below (aA br _),(hxb.xin hCw (fun j hj=>(hlow.out j hj).2)).widen nr sm⟩
     have H3:Hid (RdS P w3 r'):=h3;have G3:=Hi (hG.out.trans g);clear h3 g hc hK hrow hR hG hx hxb;obtain⟨ra,ga,sa,rc,gc,sc,rs,gs,ss⟩:=x;simp only
     go_wp2_with (first
      | (at_builtin;refine lG rfl _ _ rfl w.heap.size u5 l rfl (HO.out.below (aA br _)) _ ⟨ra,ga,sa,rc,gc,sc,rs,gs,ss⟩ 1 rfl (fV w3 [J ra rs.length rc,J ga gs.length gc,J sa ss.length sc] 95 _ rfl) (HM.out _) om (by simp;omega) ?_;intro v' w5 hown' hgrow;have HO5:=dX hown';have HGR:=dX hgrow;clear hown' hgrow)
      | go_in)
     go_roundw
     case rel=>
      have hgA:=(lb w3 _ _).trans HGR.out;refine⟨k+1,l++[⟨ra,ga,sa,rc,gc,sc,rs,gs,ss⟩],r',by omega,by go_num,by simp[hl],HK3,HO5,?_,?_⟩
      ·exact H3.out.kept hgA (fun e=>by have:=(hlow.out P e.symm).1;omega)
      ·exact gb_up G3.out hgA (fun j hj=>(hlow.out j hj).1)
     case measure=>simp[intOf];omega
   ·have hkn:k=n:=om;subst hkn
    have HE:Hid (iU nV bs=M (l.map TxA.core,r)):=by
     show iU nV bs=_;rw[HL.out,hK.out];simp[lK]
    clear hK HL;go_wp2;go_ret;refine⟨hG.out,?_⟩;rw[HE.out];exact⟨_,rfl,⟨l,hrow.out,rfl⟩,hR.out⟩
theorem TxRow.set {w:World} {l:List TxA} (h:TxRow C w v l) (hR:R<C):TxRow C (w.setCell ⟨R,i,Q⟩ u) v l:=h.kept (iO w R i u) (fun j e=>by injection e with e;omega)
theorem rdPlan_any (P:Nat) (bs:List Int) (w:World) (h:RdS P w bs) :
  Calls prog 34 #[pd (M ⟨P,0,Q⟩)] w fun e w'=>RdR P w (rdP bs) (fun p v w'=>∃v2 cl,v=ag #[Y I p.1,v2]/\TxRow (w.heap.size+1) w' v2 cl/\cl.map TxA.core=p.2) e w':=by
 have hP:=h.lt;obtain⟨W,hWe⟩:=nm (w.alloc (U #[Y I 0,J Q 0 0] 29));have HWE:=Hi hWe;have H0:Hid (RdS P W bs):=by subst hWe;exact h.alloc _
 have G0:Hid (w.grownBy W (M P)):=by subst hWe;exact lb _ _ _
 have S0:Hid (w.heap.size<W.heap.size):=by subst hWe;show _<_;simp
 have c0:W.cell? ⟨w.heap.size,0,Q⟩=Y I 0:=by subst hWe;simp
 have c1:W.cell? ⟨w.heap.size,1,Q⟩=J Q 0 0:=by subst hWe;simp
 have f0:∀i,W.frozen? ⟨w.heap.size,i,Q⟩=false:=by subst hWe;intro i;simp
 have hR:w.heap.size≠P:=om;clear h hWe;go_enter func34,ntmps34
 go_upto_region 1 with fail
 rw[<-HWE.out]
 go_wp2_with fail
 refine(fI P bs _ H0.out).mono ?_;rintro e w1 ⟨g,hm⟩
 cases hc:jX bs with
 | none=>
  rw[hc]at hm
  have HG:Hid (rdP bs=Q):=by
   show rdP bs=Q;simp[rdP,hc]
  exact y8
 | some p=>
  obtain⟨m,r1⟩:=p;rw[hc]at hm;obtain⟨v,rfl,rfl,h1⟩:=hm;have HC1:=Hi hc;have H1:Hid (RdS P w1 r1):=h1;have G1:=Hi (G0.out.trans g);have c0:=aL g hR c0;have c1:=aL g hR c1;have f0:=bD g hR S0.out f0;have S1:=Hi (nd S0.out g.size);clear h1 g hc
  go_wp2_with fail
  refine(rdTxns_any P r1 _ H1.out).mono ?_;rintro e w2 ⟨g,hm⟩
  cases hc:iU nV r1 with
  | none=>
   rw[hc]at hm
   have HG:Hid (rdP bs=Q):=by
    show rdP bs=Q;simp[rdP,HC1.out,hc]
   exact y9
  | some p=>
   obtain⟨l,r2⟩:=p;rw[hc]at hm;obtain⟨v,rfl,⟨cl,hrow,hcl⟩,h2⟩:=hm
   have HG:Hid (rdP bs=M ((m,l),r2)):=by
    show rdP bs=_;simp[rdP,HC1.out,hc]
   have HRW:Hid (TxRow (w.heap.size+1) w2 v cl):=hrow.low S1.out;have HCL:Hid (cl.map TxA.core=l):=hcl;have H2:Hid (RdS P w2 r2):=h2;have G2:=Hi (G1.out.trans g);have c0:=aL g hR c0;have c1:=aL g hR c1;have f0:=bD g hR S1.out f0;obtain⟨a2,k2,hv,_⟩:=hrow.txs;subst hv;clear h2 g hc hrow hcl;obtain⟨y0,y1⟩:=yY (Y I m) (J a2 cl.length k2) c0 c1
   go_wp2_with fail
   refine bodyPost_ret (v:=ag #[Y I m,J a2 cl.length k2]) (by simp[results,results34,go_sem,y0,y1]) rfl ⟨(eJ (eJ G2.out nr 0 _) nr 1 _),?_⟩;rw[HG.out];exact⟨_,rfl,⟨_,cl,rfl,(HRW.out.set (nk _)).set (nk _),HCL.out⟩,(H2.out.set hR).set hR⟩
theorem Vh (h:p:=by
 clear h;go_enter func35,ntmps35;go_wp2;go_ret;exact⟨by rw[HE.out];rfl,aA br _⟩):p:=h
def cX (c:iG):TxA:=⟨Q,Q,Q,0,0,0,c.1,c.2.1,c.2.2⟩
theorem kW (m:Int) (l:List TxA):aN m ((l.map TxA.core).map cX)=aN m l:=by
 have e:((l.map TxA.core).map cX).map kF=l.map kF:=by simp[kF,cX,TxA.core,Function.comp_def]
 have e2:((l.map TxA.core).map cX).length=l.length:=sm;simp only[aN,eN,e,e2]
theorem plB_core (m:Int) (l:List TxA):plB m l=pB (m,l.map TxA.core):=by
 simp only[plB,xsB,pB,lB',List.length_map,List.flatMap_map];rfl
def jY (bs:List Int):Option (Int×List iG):=(rdP bs).bind fun p=>if p.2=[]/\aN p.1.1 (p.1.2.map cX)=0 then M p.1 else Q
def rdE (bs:List Int):Int:=if 4096<bs.length then 2 else if (jY bs).isSome then 0 else 1
def leE (s:ByteArray):Int:=if eI s=[] then 0 else 1
def riE (m:Int) (l:List TxA):Int:=if aN m l=0 then 0 else 1
theorem leftErr_any (s:ByteArray) (w:World):Kr 35 #[ag #[sg s]] w (Y I (leE s)):=by
 by_cases h:eI s=[]
 ·have hn:s.toList=[]:=by have:=pF (s:=s);rw[h]at this;simpa using this
  have hni:s.toList.isEmpty=true:=by rw[hn];rfl
  have HE:Hid (leE s=0):=if_pos h;exact Vh
 ·have hn:¬s.toList=[]:=by have:=pF (s:=s);intro e;rw[e]at this;simp[h]at this
  have hni:s.toList.isEmpty=false:=by cases h2:s.toList with
   | nil=>exact absurd h2 hn
   | cons _ _=>rfl
  have HE:Hid (leE s=1):=if_neg h;exact Vh
theorem rightErr_any (la:Option Addr) (lc:Nat) (l:List TxA) (m:Int) (w:World) (hl:IsTxs w la l):Kr 36 #[ag #[Y I m,J la l.length lc]] w (Y I (riE m l)):=by
 have HC:=dX (cI la lc l m _ (hl.below (aA br (U #[Y I m,J la l.length lc] 29))));clear hl;by_cases h:aN m l=0
 focus
  have HE:Hid (riE m l=0):=if_pos h;rw[h]at HC;clear h
 rotate_left
 focus
  have HE:Hid (riE m l=1):=if_neg h;have hb0:(aN m l != 0)=true:=by simpa using h
  generalize aN m l=E at *
 rotate_left
 all_goals
  go_enter func36,ntmps36
  go_wp2_with fail
  refine HC.out.mono ?_;rintro e w1 ⟨rfl,hb⟩;have HB:=Hi (aC (aA br _) hb);clear hb HC;go_wp2;go_ret;exact⟨by rw[HE.out];rfl,HB.out⟩
theorem qY (s:ByteArray) (w:World):Calls prog 33 #[sg s] w fun e w'=>e=rt (Y I (if 4096<s.size then 2 else 0))/\w'=w:=by
 by_cases h:4096<s.size
 ·have hi:(4096:Int)<(s.size:Int):=om;rw[if_pos h];clear h;go_enter func33,ntmps33;exact uj
 ·have hi:¬(4096:Int)<(s.size:Int):=om;rw[if_neg h];clear h;go_enter func33,ntmps33;exact uj
def ReadP (p:Int×List iG) (C:Nat) (m:Int) (a:Option Addr) (n c:Nat) (w:World):Prop:=m=p.1/\∃cl:List TxA,n=cl.length/\TxRow C w (J a n c) cl/\cl.map TxA.core=p.2
theorem read1_many (B:Nat) (s:ByteArray) (w:World) (c0:w.cell? ⟨B,0,Q⟩=sg s) (h:4096<s.size) :
  Kp 32 #[pd (M ⟨B,0,Q⟩)] w 2:=by
 have HC:Hid (∀w',Calls prog 33 #[sg s] w' fun e w''=>e=rt (Y I 2)/\w''=w'):=fun w'=>by have:=qY s w';rw[if_pos h]at this;exact this
 have e0:(w.alloc (U #[Y I 0,J Q 0 0] 29)).cell? _=M _:=aB (aA br _) c0;clear c0 h;go_enter func32,ntmps32
 go_wp2_with fail
 refine(HC.out _).mono ?_;rintro e w1 ⟨rfl,rfl⟩
 go_wp2_with fail
 refine(dK [2] 0 2 _ 1 _ sm sm sm rfl dc (dS _ _ _ sm)).mono ?_;rintro e w' ⟨rfl,rfl⟩;go_wp2;exact⟨rfl,rfl,aA (aA br _) _⟩
def RdEnd (C:Nat) (o:Option (Int×List iG)) (e:Ending) (w':World):Prop:=match o with
 | none=>e=pg [{v:=fc 22 (Y I 1),recovered:=false}]
 | some p=>∃m a n c,e=rt (ag #[Y I m,J a n c])/\ReadP p C m a n c w'
theorem aAg (B:Nat) (s:ByteArray) (w:World) (c0:w.cell? ⟨B,0,Q⟩=sg s) (hm:¬4096<s.size) :
  Calls prog 32 #[pd (M ⟨B,0,Q⟩)] w fun e w'=>Below w.heap.size w w'/\RdEnd w.heap.size (jY (eI s)) e w':=by
 have HC:Hid (∀w',Calls prog 33 #[sg s] w' fun e w''=>e=rt (Y I 0)/\w''=w'):=fun w'=>by have:=qY s w';rw[if_neg hm]at this;exact this
 have e0:(w.alloc (U #[Y I 0,J Q 0 0] 29)).cell? _=M _:=aB (aA br _) c0;clear c0 hm;go_enter func32,ntmps32
 go_wp2_with fail
 refine(HC.out _).mono ?_;rintro e w1 ⟨rfl,rfl⟩;clear HC
 go_wp2_with fail
 refine(aQ [0] _ 1 _ sm rfl (dS _ _ _ sm)).mono ?_;rintro e w' ⟨rfl,rfl⟩;obtain⟨W,hWe⟩:=nm (((w.alloc (U #[Y I 0,J Q 0 0] 29)).alloc (U #[Y I 0] 22)));have HW:Hid (Below w.heap.size w W):=by subst hWe;exact aA (aA br _) _
 have HSZ:Hid (W.heap.size=w.heap.size+2):=by subst hWe;show _=_;simp
 have e1:W.cell? ⟨B,0,Q⟩=sg s:=by subst hWe;exact aB (aA br _) e0
 have t0:W.cell? ⟨w.heap.size,0,Q⟩=Y I 0:=by subst hWe;exact aB (aA br _) (aF w _ 29 _ 0 _ rfl rfl)
 have t1:W.cell? ⟨w.heap.size,1,Q⟩=J Q 0 0:=by subst hWe;exact aB (aA br _) (aF w _ 29 _ 1 _ rfl rfl)
 have tf:∀i,W.frozen? ⟨w.heap.size,i,Q⟩=false:=by subst hWe;intro i;exact((aA (n7 (w.alloc (U #[Y I 0,J Q 0 0] 29)).heap.size (w.alloc (U #[Y I 0,J Q 0 0] 29))) (U #[Y I 0] 22)).frozen (p:=⟨w.heap.size,i,Q⟩) sm).trans sm
 rw[<-hWe];clear hWe e0;obtain⟨V,hVe⟩:=nm (W.alloc (U #[sg s] 77));have HVE:=Hi hVe;have HR:Hid (RdS W.heap.size V (eI s)):=by subst hVe;exact⟨s,by simp,by simp,rfl⟩
 have HVW:Hid (Below W.heap.size W V):=by subst hVe;exact aA br _
 have HVS:Hid (V.heap.size=W.heap.size+1):=by subst hVe;show _=_;simp
 clear hVe
 go_upto_region 3 with fail
 rw[<-HVE.out]
 go_wp2_with fail
 refine(rdPlan_any W.heap.size (eI s) V HR.out).mono ?_;rintro e w2 ⟨g,hm⟩;have hsz:=HSZ.out;have hvs:=HVS.out;have B2:=Hi (aC HW.out ⟨g.os.trans HVW.out.os,g.tape.trans HVW.out.tape,g.output.trans HVW.out.output,nh HVW.out.size g.size,fun b hb=>(g.block b om (fun e=>by injection e with e;omega)).trans (HVW.out.block b hb)⟩)
 cases hc:rdP (eI s) with
 | none=>
  rw[hc]at hm;have HG:Hid (jY (eI s)=Q):=by show jY (eI s)=Q;simp[jY,hc]
  subst hm;clear hsz hvs;unfold gO;go_wp2;refine⟨rfl,B2.out,?_⟩;rw[HG.out];rfl
 | some q=>
  obtain⟨⟨m,L⟩,r⟩:=q;rw[hc]at hm;obtain⟨v,rfl,⟨v2,cl,rfl,hrow,hcl⟩,s2,k2,k2f,hs2⟩:=hm;obtain⟨a2,cc,hv,htx⟩:=hrow.txs;subst hv;have hcl:cl.map TxA.core=L:=hcl;have hgW:=fun b hb=>(g.block b om (fun e=>by injection e with e;omega)).trans (HVW.out.block b hb)
  have u0:=(nu (a:=⟨w.heap.size,0,Q⟩) (hgW w.heap.size om)).trans t0;have u1:=(nu (a:=⟨w.heap.size,1,Q⟩) (hgW w.heap.size om)).trans t1;have uf:=fun i=>(nv (a:=⟨w.heap.size,i,Q⟩) (hgW w.heap.size om)).trans (tf i)
  have HGS:w.heap.size+2<w2.heap.size:=by have:=g.size;omega
  have HROW:Hid (TxRow (w.heap.size+1) w2 (J a2 cl.length cc) cl):=hrow.low om;have HTX:=Hi htx;have HCL:=Hi hcl;have HPE:Hid (aN m (L.map cX)=aN m cl):=by show _=_;rw[<-hcl,kW]
  have HSE:Hid (leE s2=if r=[] then 0 else 1):=by show _=_;unfold leE;rw[hs2]
  have HOK:Hid (jY (eI s)=if r=[]/\aN m cl=0 then M (m,L) else Q):=by
   show _=_;simp only[jY,hc,Option.bind_some];rw[HPE.out]
  clear hgW t0 t1 tf hrow htx hcl hs2 hc g HVW HR HVE e1 hsz hvs HSZ;obtain⟨X,hXe⟩:=nm (w2.alloc (U #[Y I m,J a2 cl.length cc] 29));have HXE:=Hi hXe;have BX:Below w2.heap.size w2 X:=by subst hXe;exact aA br _
  have BX':=Hi BX;have x0:X.cell? ⟨w2.heap.size,0,Q⟩=Y I m:=by subst hXe;simp
  have x1:X.cell? ⟨w2.heap.size,1,Q⟩=J a2 cl.length cc:=by subst hXe;simp
  have x2:=aB BX k2;have u0:=aB BX u0;have u1:=aB BX u1;have uf:=fun i=>(BX.frozen (p:=⟨w.heap.size,i,Q⟩) (show w.heap.size<w2.heap.size by omega)).trans (uf i)
  have HSX:w.heap.size<X.heap.size:=by have:=BX.size;omega
  clear hXe BX k2 k2f
  go_upto_region 4 with fail
  rw[<-HXE.out];have EXT:Hid (∀w',Below X.heap.size X w'->Below X.heap.size X w'/\w'.cell? _=M _/\w'.cell? _=M _/\w'.cell? _=M _):=fun w' hb=>⟨hb,aB hb x2,aB hb x0,aB hb x1⟩
  have CL:=Hi (fun w'=>leftErr_any s2 w');have CR:=Hi (fun w' hb=>rightErr_any a2 cc cl m w' (HTX.out.below (aC BX'.out hb)));clear x0 x1 x2 HVS HXE;by_cases hE:aH [leE s2,riE m cl]=0
  ·have HE:=Hi hE
   have HG:Hid (jY (eI s)=M (m,L)):=by
    show _=_;rw[HOK.out];have z:=aW _ hE;have z0:leE s2=0:=by simpa using z 0
    have z1:riE m cl=0:=by simpa using z 1
    rw[HSE.out]at z0;unfold riE at z1;rw[if_pos];constructor
    ·by_cases c:r=[]
     ·exact c
     ·rw[if_neg c]at z0;omega
    ·by_cases c:aN m cl=0
     ·exact c
     ·rw[if_neg c]at z1;omega
   clear hE HOK HSE HPE;generalize leE s2=E1 at *;generalize riE m cl=E2 at *
   go_region_held3 (fun w'=>Below X.heap.size X w'/\w'.cell? ⟨W.heap.size,0,Q⟩=sg s2/\w'.cell? ⟨w2.heap.size,0,Q⟩=Y I m/\w'.cell? ⟨w2.heap.size,1,Q⟩=J a2 cl.length cc) ((go_split_ands;refine EXT.out _ ?_;repeat (first | assumption | exact br | exact Hid.out (by assumption) | refine aD ?_ | refine aA ?_ _ | refine aC ?_ (by assumption))))
    (first
     | (go_at_call 35;refine(CL.out _).mono ?_;rintro e w' ⟨rfl,hbx⟩)
     | (go_at_call 36;refine(CR.out _ ?_).mono ?_;(go_split_ands;repeat (first | assumption | exact br | exact Hid.out (by assumption) | refine aD ?_ | refine aA ?_ _ | refine aC ?_ (by assumption)));rintro e w' ⟨rfl,hby⟩)
     | (go_at_call 15;refine(aQ [E1,E2] _ 2 _ sm HE.out ?_).mono ?_;(exact lS _ _ _ _ sm);rintro e w' ⟨rfl,rfl⟩))
   all_goals (
    go_split_ands;rename_i hBl hA0 hA1 hA2;have q0:=aB hBl u0;have q1:=aB hBl u1;have qf:∀i,World.frozen? _ ⟨w.heap.size,i,Q⟩=false:=fun i=>(hBl.frozen (p:=⟨w.heap.size,i,Q⟩) HSX).trans (uf i)
    have QB:Hid (Below w.heap.size w _):=aC (aC B2.out BX'.out) hBl;have QR:Hid (TxRow (w.heap.size+1) _ (J a2 cl.length cc) cl):=(HROW.out.below BX'.out).below hBl;obtain⟨y0,y1⟩:=yY (Y I m) (J a2 cl.length cc) q0 q1;clear u0 u1 uf hBl EXT CL CR
    go_wp2_with fail
    refine bodyPost_ret (v:=ag #[Y I m,J a2 cl.length cc]) (by simp[results,results32,go_sem,y0,y1]) rfl ⟨aG (aG QB.out nr _) nr _,?_⟩;rw[HG.out];exact⟨_,_,_,_,rfl,rfl,cl,rfl,((QR.out.set (nk _)).set (nk _)).low (ll _),HCL.out⟩)
  ·have HE:=Hi hE
   have HV:Hid (aH [leE s2,riE m cl]=1):=by
    show _=_;have a1:leE s2=0∨leE s2=1:=by unfold leE;split <;> simp
    have a2:riE m cl=0∨riE m cl=1:=by unfold riE;split <;> simp
    rcases a1 with a1 | a1 <;> rcases a2 with a2 | a2 <;> rw[a1,a2]at hE ⊢ <;> simp_all [aH]
   have HG:Hid (jY (eI s)=Q):=by
    show _=_;rw[HOK.out,if_neg];rintro ⟨c1,c2⟩;apply hE;have z0:leE s2=0:=by rw[HSE.out,if_pos c1]
    have z1:riE m cl=0:=if_pos c2;rw[z0,z1];rfl
   clear hE HOK HSE HPE;generalize leE s2=E1 at *;generalize riE m cl=E2 at *
   go_region_held (fun w'=>Below X.heap.size X w'/\w'.cell? ⟨W.heap.size,0,Q⟩=sg s2/\w'.cell? ⟨w2.heap.size,0,Q⟩=Y I m/\w'.cell? ⟨w2.heap.size,1,Q⟩=J a2 cl.length cc) ((go_split_ands;refine EXT.out _ ?_;repeat (first | assumption | exact br | exact Hid.out (by assumption) | refine aD ?_ | refine aA ?_ _ | refine aC ?_ (by assumption))))
    (first
     | (go_at_call 35;refine(CL.out _).mono ?_;rintro e w' ⟨rfl,hbx⟩)
     | (go_at_call 36;refine(CR.out _ ?_).mono ?_;(go_split_ands;repeat (first | assumption | exact br | exact Hid.out (by assumption) | refine aD ?_ | refine aA ?_ _ | refine aC ?_ (by assumption)));rintro e w' ⟨rfl,hby⟩)
     | (go_at_call 15;refine(fT (dR [E1,E2] _ 2 _ sm HE.out ?_) (.tuple #[])).mono ?_;(exact lS _ _ _ _ sm);rintro e w' (⟨rfl,rfl⟩ | ⟨hF,rfl,rfl⟩);(refine⟨rfl,?_,by rw[HG.out];exact congrArg (fun x=>Ending.panicked [{v:=fc 22 (Y I x),recovered:=false}]) HV.out⟩;refine aC (aC B2.out BX'.out) ?_;go_split_ands;repeat (first | assumption | exact br | exact Hid.out (by assumption) | refine aD ?_ | refine aA ?_ _ | refine aC ?_ (by assumption)))))
   exact xq
def fR (bs:List Int):Option (Int×List iG):=if 4096<bs.length then Q else jY bs
def vA (bs:List Int) (e:Ending) (w':World):Prop:=match fR bs with
 | none=>e=rt (tu #[ag #[Y I 0,J Q 0 0],Y I (rdE bs)])
 | some p=>∃(a:Option Addr) (cl:List TxA) (c:Nat),e=rt (tu #[ag #[Y I p.1,J a cl.length c],Y I 0])/\IsTxs w' a cl/\cl.map TxA.core=p.2
theorem ReadP.set {p:Int×List iG} {m:Int} {w:World} (h:ReadP p C m a n c w) (hR:R<C):ReadP p C m a n c (w.setCell ⟨R,i,Q⟩ u):=by
 obtain⟨h1,cl,h2,h3,h4⟩:=h;exact⟨h1,cl,h2,h3.set hR,h4⟩
theorem mX (s:ByteArray) (w:World) :
  Calls prog 14 #[sg s] w fun e w'=>Below w.heap.size w w'/\vA (eI s) e w':=by
 obtain⟨W,hWe⟩:=nm (((w.alloc (U #[sg s] 9)).alloc (U #[Y I 0,J Q 0 0] 29)));have HWE:=Hi hWe;have BW:Hid (Below w.heap.size w W):=by subst hWe;exact aA (aA br _) _
 have HS:Hid (W.heap.size=w.heap.size+2):=by subst hWe;show _=_;simp
 have c0:W.cell? ⟨w.heap.size,0,Q⟩=sg s:=by subst hWe;exact aB (aA br _) (aF w _ 9 _ 0 _ rfl rfl)
 have r0:W.cell? ⟨w.heap.size+1,0,Q⟩=Y I 0:=by subst hWe;exact aF _ _ 29 _ 0 _ sm rfl
 have r1:W.cell? ⟨w.heap.size+1,1,Q⟩=J Q 0 0:=by subst hWe;exact aF _ _ 29 _ 1 _ sm rfl
 have rf:∀i,W.frozen? ⟨w.heap.size+1,i,Q⟩=false:=by subst hWe;intro i;exact aU _ _ 29 _ i sm
 clear hWe;have E0:Below W.heap.size W ((W.alloc (U #[Y I 0,J Q 0 0] 29)).alloc (U #[Y I 0] 22)):=aA (aA br _) _;have e0:=aB E0 c0;have hlt:w.heap.size+1<W.heap.size:=by have:=HS.out;omega
 cases hr:fR (eI s) with
 | none=>
  have HC:=caughtPl_pan 32 #[pd (M ⟨w.heap.size,0,Q⟩)] (fun _=>rfl) (rdE (eI s)) W (by
   by_cases h4:4096<s.size
   ·have e:rdE (eI s)=2:=by unfold rdE;rw[jJ,if_pos h4]
    rw[e];exact read1_many w.heap.size s _ e0 h4
   ·have hk:jY (eI s)=Q:=by unfold fR at hr;rw[jJ,if_neg h4]at hr;exact hr
    have e:rdE (eI s)=1:=by unfold rdE;rw[jJ,if_neg h4,hk];rfl
    rw[e];refine(aAg w.heap.size s _ e0 h4).mono fun e w' h=>?_
    rw[hk]at h;exact⟨h.2,h.1⟩)
  have HC':=dX HC
  have HO:Hid (∀w',vA _ _ w'):=fun w'=>by
   unfold vA;rw[hr]
  clear HC E0 e0 hr c0;generalize rdE (eI s)=E at *;go_enter func14,ntmps14
  go_upto_region 1 with fail
  rw[<-HWE.out]
  go_wp2_with fail
  refine HC'.out.mono ?_;rintro e w1 ⟨rfl,hb⟩;have q0:=aB hb r0;have q1:=aB hb r1;have qf:=fun i=>(hb.frozen (p:=⟨w.heap.size+1,i,Q⟩) hlt).trans (rf i)
  have B1:=Hi (aC BW.out hb);obtain⟨y0,y1⟩:=yY (Y I 0) (J Q 0 0) q0 q1;clear hb r0 r1 rf
  go_wp2_with fail
  refine bodyPost_ret (v:=tu #[ag #[Y I 0,J Q 0 0],Y I E]) (by simp[results,results14,go_sem,y0,y1]) rfl ⟨aG (aG B1.out (ll _) _) (ll _) _,HO.out _⟩
 | some p=>
  have h4:¬4096<s.size:=by intro h4;unfold fR at hr;rw[jJ,if_pos h4]at hr;cases hr
  have hk:jY (eI s)=M p:=by unfold fR at hr;rw[jJ,if_neg h4]at hr;exact hr
  have HC:=caughtPl_ret 32 #[pd (M ⟨w.heap.size,0,Q⟩)] (fun _=>rfl) (fun m a n c w'=>ReadP p (W.heap.size+2) m a n c w') W (fun m a n c w' i u j hj h=>h.set (by rcases hj with rfl | rfl <;> omega)) (by
   refine(aAg w.heap.size s _ e0 h4).mono fun e w' h=>?_
   rw[hk]at h;obtain⟨hb,m,a,n,c,he,hp⟩:=h;exact⟨m,a,n,c,he,by simpa using hp,hb⟩)
  have HC':=dX HC
  have HO:Hid (∀m a n c w',ReadP p (W.heap.size+2) m a n c w'->vA (eI s) (rt (tu #[ag #[Y I m,J a n c],Y I 0])) w'):=fun m a n c w' h=>by
   obtain⟨rfl,cl,rfl,h3,h4⟩:=h;unfold vA;rw[hr];obtain⟨a',c',he,htx⟩:=h3.txs;injection he with e1 e2 e3
   subst e1 e3;exact⟨_,cl,_,rfl,htx,h4⟩
  clear HC E0 e0 hr c0 hk h4;go_enter func14,ntmps14
  go_upto_region 1 with fail
  rw[<-HWE.out]
  go_wp2_with fail
  refine HC'.out.mono ?_;rintro e w1 ⟨m,a,n,c,rfl,hp,hb⟩;have q0:=aB hb r0;have q1:=aB hb r1;have qf:=fun i=>(hb.frozen (p:=⟨w.heap.size+1,i,Q⟩) hlt).trans (rf i)
  have B1:=Hi (aC BW.out hb);have HP:=dX hp;obtain⟨y0,y1⟩:=yY (Y I m) (J a n c) q0 q1;clear hb r0 r1 rf hp
  go_wp2_with fail
  refine bodyPost_ret (v:=tu #[ag #[Y I m,J a n c],Y I 0]) (by simp[results,results14,go_sem,y0,y1]) rfl ⟨aG (aG B1.out (ll _) _) (ll _) _,HO.out _ _ _ _ _ ((HP.out.set om).set om)⟩
theorem byte_eight (n:Int):[IntKind.u8.wrap (n / 2 ^ 56),IntKind.u8.wrap (n / 2 ^ 48),IntKind.u8.wrap (n / 2 ^ 40),IntKind.u8.wrap (n / 2 ^ 32),IntKind.u8.wrap (n / 2 ^ 24),IntKind.u8.wrap (n / 2 ^ 16),IntKind.u8.wrap (n / 2 ^ 8),IntKind.u8.wrap n]=mE n:=by
 simp only[mE,qZ,IntKind.wrap_u8'];simp only[Nat.reduceMul,Int.reducePow];exact UZ
theorem eight_any (n:Int) (w:World):Calls prog 127 #[Y I n] w fun e w'=>e=rt (J (M ⟨w.heap.size,0,Q⟩) 8 8)/\w'=w.alloc (U #[Y .u8 (IntKind.u8.wrap (n / 2 ^ 56)),Y .u8 (IntKind.u8.wrap (n / 2 ^ 48)),Y .u8 (IntKind.u8.wrap (n / 2 ^ 40)),Y .u8 (IntKind.u8.wrap (n / 2 ^ 32)),Y .u8 (IntKind.u8.wrap (n / 2 ^ 24)),Y .u8 (IntKind.u8.wrap (n / 2 ^ 16)),Y .u8 (IntKind.u8.wrap (n / 2 ^ 8)),Y .u8 (IntKind.u8.wrap n)] 5):=by
 go_enter func127,ntmps127;exact uj
theorem lN (kd n:Int) (w:World):Calls prog 88 #[ag #[Y I kd,Y I n]] w fun e w'=>∃g cap,e=rt (J (M ⟨g,0,Q⟩) 9 cap)/\w'.ownsRow w.heap.size 5 1 (J (M ⟨g,0,Q⟩) 9 cap) 9 ((rP kd n).map (Y .u8))/\Below w.heap.size w w':=by
 obtain⟨i0,hi,hz0,hz1,hz2⟩:=info_parts info5;obtain⟨W,hWe⟩:=nm (w.alloc (U #[Y I kd,Y I n] 97));have HWE:=Hi hWe;have c0:W.cell? ⟨w.heap.size,0,Q⟩=Y I kd:=by subst hWe;simp
 have c1:W.cell? ⟨w.heap.size,1,Q⟩=Y I n:=by subst hWe;simp
 have BW:Hid (Below w.heap.size w W):=by subst hWe;exact aA br _
 have hle:w.heap.size<W.heap.size:=by subst hWe;simp
 clear hWe;have c1a:∀o,(W.alloc o).cell? _=M _:=fun o=>aB (aA br _) c1
 have c0a:∀o,(W.alloc o).cell? _=M _:=fun o=>aB (aA br _) c0
 have OA:Hid (((W.alloc (U #[Y .u8 (IntKind.u8.wrap kd)] 5)).alloc (U #[Y .u8 (IntKind.u8.wrap (n / 2 ^ 56)),Y .u8 (IntKind.u8.wrap (n / 2 ^ 48)),Y .u8 (IntKind.u8.wrap (n / 2 ^ 40)),Y .u8 (IntKind.u8.wrap (n / 2 ^ 32)),Y .u8 (IntKind.u8.wrap (n / 2 ^ 24)),Y .u8 (IntKind.u8.wrap (n / 2 ^ 16)),Y .u8 (IntKind.u8.wrap (n / 2 ^ 8)),Y .u8 (IntKind.u8.wrap n)] 5)).drew.ownsRow w.heap.size 5 1 (J (M ⟨W.heap.size,0,Q⟩) 1 1) 1 [Y .u8 (IntKind.u8.wrap kd)]):=(lv W #[Y .u8 (IntKind.u8.wrap kd)] 1 (wi hle) dc rfl).alloc _
 have OB:Hid (((W.alloc (U #[Y .u8 (IntKind.u8.wrap (n / 2 ^ 56)),Y .u8 (IntKind.u8.wrap (n / 2 ^ 48)),Y .u8 (IntKind.u8.wrap (n / 2 ^ 40)),Y .u8 (IntKind.u8.wrap (n / 2 ^ 32)),Y .u8 (IntKind.u8.wrap (n / 2 ^ 24)),Y .u8 (IntKind.u8.wrap (n / 2 ^ 16)),Y .u8 (IntKind.u8.wrap (n / 2 ^ 8)),Y .u8 (IntKind.u8.wrap n)] 5)).alloc (U #[Y .u8 (IntKind.u8.wrap kd)] 5)).drew.ownsRow w.heap.size 5 1 (J (M ⟨W.heap.size+1,0,Q⟩) 1 1) 1 [Y .u8 (IntKind.u8.wrap kd)]):=by
  have:=lv (size:=1) (base:=w.heap.size) (e:=5) (W.alloc (U #[Y .u8 (IntKind.u8.wrap (n / 2 ^ 56)),Y .u8 (IntKind.u8.wrap (n / 2 ^ 48)),Y .u8 (IntKind.u8.wrap (n / 2 ^ 40)),Y .u8 (IntKind.u8.wrap (n / 2 ^ 32)),Y .u8 (IntKind.u8.wrap (n / 2 ^ 24)),Y .u8 (IntKind.u8.wrap (n / 2 ^ 16)),Y .u8 (IntKind.u8.wrap (n / 2 ^ 8)),Y .u8 (IntKind.u8.wrap n)] 5)) #[Y .u8 (IntKind.u8.wrap kd)] 1 (by simp;omega) dc rfl;simp only[World.size_alloc]at this;exact this
 have NA:Hid (letI Z:=IntKind.u8.wrap (n / 2 ^ 56);∀j u,[Y .u8 Z,Y .u8 (IntKind.u8.wrap (n / 2 ^ 48)),Y .u8 (IntKind.u8.wrap (n / 2 ^ 40)),Y .u8 (IntKind.u8.wrap (n / 2 ^ 32)),Y .u8 (IntKind.u8.wrap (n / 2 ^ 24)),Y .u8 (IntKind.u8.wrap (n / 2 ^ 16)),Y .u8 (IntKind.u8.wrap (n / 2 ^ 8)),Y .u8 (IntKind.u8.wrap n)][j]?=M u->((W.alloc (U #[Y .u8 (IntKind.u8.wrap kd)] 5)).alloc (U #[Y .u8 Z,Y .u8 (IntKind.u8.wrap (n / 2 ^ 48)),Y .u8 (IntKind.u8.wrap (n / 2 ^ 40)),Y .u8 (IntKind.u8.wrap (n / 2 ^ 32)),Y .u8 (IntKind.u8.wrap (n / 2 ^ 24)),Y .u8 (IntKind.u8.wrap (n / 2 ^ 16)),Y .u8 (IntKind.u8.wrap (n / 2 ^ 8)),Y .u8 (IntKind.u8.wrap n)] 5)).drew.cell? ((⟨W.heap.size+1,0,Q⟩:Addr).add j)=M u):=fV (W.alloc (U #[Y .u8 (IntKind.u8.wrap kd)] 5)) [Y .u8 (IntKind.u8.wrap (n / 2 ^ 56)),Y .u8 (IntKind.u8.wrap (n / 2 ^ 48)),Y .u8 (IntKind.u8.wrap (n / 2 ^ 40)),Y .u8 (IntKind.u8.wrap (n / 2 ^ 32)),Y .u8 (IntKind.u8.wrap (n / 2 ^ 24)),Y .u8 (IntKind.u8.wrap (n / 2 ^ 16)),Y .u8 (IntKind.u8.wrap (n / 2 ^ 8)),Y .u8 (IntKind.u8.wrap n)] 5 (W.heap.size+1) sm;have NB:Hid (letI Z:=IntKind.u8.wrap (n / 2 ^ 56);∀j u,[Y .u8 Z,Y .u8 (IntKind.u8.wrap (n / 2 ^ 48)),Y .u8 (IntKind.u8.wrap (n / 2 ^ 40)),Y .u8 (IntKind.u8.wrap (n / 2 ^ 32)),Y .u8 (IntKind.u8.wrap (n / 2 ^ 24)),Y .u8 (IntKind.u8.wrap (n / 2 ^ 16)),Y .u8 (IntKind.u8.wrap (n / 2 ^ 8)),Y .u8 (IntKind.u8.wrap n)][j]?=M u->((W.alloc (U #[Y .u8 Z,Y .u8 (IntKind.u8.wrap (n / 2 ^ 48)),Y .u8 (IntKind.u8.wrap (n / 2 ^ 40)),Y .u8 (IntKind.u8.wrap (n / 2 ^ 32)),Y .u8 (IntKind.u8.wrap (n / 2 ^ 24)),Y .u8 (IntKind.u8.wrap (n / 2 ^ 16)),Y .u8 (IntKind.u8.wrap (n / 2 ^ 8)),Y .u8 (IntKind.u8.wrap n)] 5)).alloc (U #[Y .u8 (IntKind.u8.wrap kd)] 5)).drew.cell? ((⟨W.heap.size,0,Q⟩:Addr).add j)=M u):=fun j u hj=>aB (aD (aA br _)) (fV W [Y .u8 (IntKind.u8.wrap (n / 2 ^ 56)),Y .u8 (IntKind.u8.wrap (n / 2 ^ 48)),Y .u8 (IntKind.u8.wrap (n / 2 ^ 40)),Y .u8 (IntKind.u8.wrap (n / 2 ^ 32)),Y .u8 (IntKind.u8.wrap (n / 2 ^ 24)),Y .u8 (IntKind.u8.wrap (n / 2 ^ 16)),Y .u8 (IntKind.u8.wrap (n / 2 ^ 8)),Y .u8 (IntKind.u8.wrap n)] 5 W.heap.size rfl j u hj)
 go_enter func88,ntmps88
 go_upto_region 1 with fail
 rw[<-HWE.out]
 go_region_law (first
  | (refine dH (by rfl) _ _ _ (by rfl) w.heap.size 5 i0 (Y .u8 0) 1 underlying52 hi hz0 hz1 hz2 rfl (J (M ⟨W.heap.size,0,Q⟩) 1 1) 1 [Y .u8 (IntKind.u8.wrap kd)] (by rfl) OA.out ⟨W.heap.size+1,0,Q⟩ 8 8 [Y .u8 (IntKind.u8.wrap (n / 2 ^ 56)),Y .u8 (IntKind.u8.wrap (n / 2 ^ 48)),Y .u8 (IntKind.u8.wrap (n / 2 ^ 40)),Y .u8 (IntKind.u8.wrap (n / 2 ^ 32)),Y .u8 (IntKind.u8.wrap (n / 2 ^ 24)),Y .u8 (IntKind.u8.wrap (n / 2 ^ 16)),Y .u8 (IntKind.u8.wrap (n / 2 ^ 8)),Y .u8 (IntKind.u8.wrap n)] (by rfl) (by rfl) NA.out (ints_oneCell .u8 [IntKind.u8.wrap (n / 2 ^ 56),IntKind.u8.wrap (n / 2 ^ 48),IntKind.u8.wrap (n / 2 ^ 40),IntKind.u8.wrap (n / 2 ^ 32),IntKind.u8.wrap (n / 2 ^ 24),IntKind.u8.wrap (n / 2 ^ 16),IntKind.u8.wrap (n / 2 ^ 8),IntKind.u8.wrap n]) (by unfold maxLen;omega) om (by simp;omega) ?_;intro v' w5 ho3 hg3 hkeep;have HO5:=dX ho3;have HG5:=dX hg3;clear ho3 hg3 hkeep)
  | (refine dH (by rfl) _ _ _ (by rfl) w.heap.size 5 i0 (Y .u8 0) 1 underlying52 hi hz0 hz1 hz2 rfl (J (M ⟨W.heap.size+1,0,Q⟩) 1 1) 1 [Y .u8 (IntKind.u8.wrap kd)] (by rfl) OB.out ⟨W.heap.size,0,Q⟩ 8 8 [Y .u8 (IntKind.u8.wrap (n / 2 ^ 56)),Y .u8 (IntKind.u8.wrap (n / 2 ^ 48)),Y .u8 (IntKind.u8.wrap (n / 2 ^ 40)),Y .u8 (IntKind.u8.wrap (n / 2 ^ 32)),Y .u8 (IntKind.u8.wrap (n / 2 ^ 24)),Y .u8 (IntKind.u8.wrap (n / 2 ^ 16)),Y .u8 (IntKind.u8.wrap (n / 2 ^ 8)),Y .u8 (IntKind.u8.wrap n)] (by rfl) (by rfl) NB.out (ints_oneCell .u8 [IntKind.u8.wrap (n / 2 ^ 56),IntKind.u8.wrap (n / 2 ^ 48),IntKind.u8.wrap (n / 2 ^ 40),IntKind.u8.wrap (n / 2 ^ 32),IntKind.u8.wrap (n / 2 ^ 24),IntKind.u8.wrap (n / 2 ^ 16),IntKind.u8.wrap (n / 2 ^ 8),IntKind.u8.wrap n]) (by unfold maxLen;omega) om (by simp;omega) ?_;intro v' w5 ho3 hg3 hkeep;have HO5:=dX ho3;have HG5:=dX hg3;clear ho3 hg3 hkeep)
  | (go_simp;go_at_call 127;refine(eight_any n _).mono ?_;rintro e w' ⟨rfl,rfl⟩;go_wp2_with fail))
 all_goals (
  obtain⟨g,cap,hv,_,_⟩:=HO5.out.form (wt _);subst hv
  go_wp2_with fail
  go_ret;refine⟨g,cap,rfl,?_,?_⟩
  ·have h5:=HO5.out
   have e:[Y .u8 (IntKind.u8.wrap kd)]++[Y .u8 (IntKind.u8.wrap (n / 2 ^ 56)),Y .u8 (IntKind.u8.wrap (n / 2 ^ 48)),Y .u8 (IntKind.u8.wrap (n / 2 ^ 40)),Y .u8 (IntKind.u8.wrap (n / 2 ^ 32)),Y .u8 (IntKind.u8.wrap (n / 2 ^ 24)),Y .u8 (IntKind.u8.wrap (n / 2 ^ 16)),Y .u8 (IntKind.u8.wrap (n / 2 ^ 8)),Y .u8 (IntKind.u8.wrap n)]=(rP kd n).map (Y .u8):=by
    rw[rP,<-byte_eight n,IntKind.wrap_u8'];rfl
   rw[e]at h5;exact h5
  ·refine(aC BW.out (aD (aA (aA br _) _))).trans (l9 (n7 w.heap.size _) HG5.out (by simp;omega) (fun j hj=>?_));simp[Value.ownBlock]at hj;omega)
theorem Ve (h:p:=by
 have:=HO.out;rw[ld]at this;rw[eQE];exact this):p:=h
section
structure BK (C:Nat) (w w':World):Prop where
 os:w'.os=w.os
 tape:w'.tape=w.tape
 output:w'.output=w.output
 size:w.heap.size<=w'.heap.size
 keep:∀b,b<w.heap.size->(b<C∨iT w b)->w'.heap[b]?=w.heap[b]?
theorem BK.refl (C:Nat) (w:World):BK C w w:=⟨rfl,rfl,rfl,nr,fun _ _ _=>rfl⟩
theorem BK.trans {a b c:World} (h:BK C a b) (k:BK C b c):BK C a c:=
 ⟨k.os.trans h.os,k.tape.trans h.tape,k.output.trans h.output,nh h.size k.size,fun i hi hor=>by
  have h1:=h.keep i hi hor;exact(k.keep i (nd hi h.size) (hor.imp id (fun hn c fz e=>hn c fz (h1 ▸ e)))).trans h1⟩
theorem BK.ofBelow {w:World} (h:Below w.heap.size w w'):BK C w w':=⟨h.os,h.tape,h.output,h.size,fun b hb _=>h.block b hb⟩
theorem BK.alloc {a w:World} (h:BK C a w) (o:Obj):BK C a (w.alloc o):=h.trans (BK.ofBelow (aA br _))
theorem BK.below {w:World} (h:BK C w w') (hC:C<=w.heap.size):Below C w w':=⟨h.os,h.tape,h.output,h.size,fun b hb=>h.keep b om (Or.inl hb)⟩
theorem BK.cell {w:World} (h:BK C w w') (hc:w.cell? ⟨b,i,Q⟩=M v) (hor:b<C∨iT w b):w'.cell? ⟨b,i,Q⟩=M v:=
 (nu (w:=w) (w':=w') (a:=⟨b,i,Q⟩) (h.keep b (np w ⟨b,i,Q⟩ hc) hor)).trans hc
theorem BK.grow {w:World} (h:w.ownsRow C 5 1 v n xs) (hg:w.grownBy w5 v.ownBlock):BK C w w5:=
 ⟨hg.os,hg.tape,hg.output,hg.size,fun b hb hor=>hg.block b hb (fun e=>by
  rcases hor with h1 | h1
  ·have:=(h.lt b e.symm).1;omega
  ·obtain⟨c,fz,hh⟩:=Lib.ownsRow_kind h b e.symm;exact h1 c fz hh)⟩
theorem BK.grow1 {w:World} (h:w.ownsRow C 5 1 v n xs) (hg:(w.alloc o).grownBy w5 v.ownBlock):BK C w w5:=((BK.refl C w).alloc o).trans (BK.grow (h.alloc o) hg)
theorem oZ {w:World} {base:Nat} (h:w.ownsRow base E size v n xs) (hb:Below w.heap.size w w'):w'.ownsRow base E size v n xs:=by
 refine h.kept (cC hb Q) ?_
 cases ho:v.ownBlock with
 | none=>exact .inl rfl
 | some j=>exact .inr (fun e=>by cases e)
theorem oC {w:World} {x:Int} (h:w.ownsRow C 5 1 v (q.length+1) (q.map (Y .u8)++[Y .u8 z])) (hz:z=x%256):w.ownsRow C 5 1 v (q++[x%256]).length ((q++[x%256]).map (Y .u8)):=by
 subst hz;rw[nj,ny];exact h
theorem rI {w:World} (h:w.ownsRow C 5 1 v (q.length+9) (q.map (Y .u8)++r.map (Y .u8))) (hr:r.length=9):w.ownsRow C 5 1 v (q++r).length ((q++r).map (Y .u8)):=by
 rw[nj,ny,hr];exact h
theorem news_two (w:World) (x y:Int):∀j u,[Y .u8 x,Y .u8 y][j]?=M u->(w.alloc (U #[Y .u8 x,Y .u8 y] 5)).drew.cell? ((⟨w.heap.size,0,Q⟩:Addr).add j)=M u:=fV w [Y .u8 x,Y .u8 y] 5 w.heap.size rfl
theorem row_two {w:World} {x y t:Int} (h:w.ownsRow C 5 1 v (q.length+2) (q.map (Y .u8)++[Y .u8 z,Y .u8 t])) (hz:z=x%256) (ht:t=y%256):w.ownsRow C 5 1 v (q++[x%256,y%256]).length ((q++[x%256,y%256]).map (Y .u8)):=by
 subst hz ht;rw[nj,ny];exact h
theorem BK.grow2 {w:World} (h:w.ownsRow C 5 1 v n xs) (hg:(w.alloc o).drew.grownBy w5 v.ownBlock):BK C w w5:=BK.grow1 (o:=o) h ⟨hg.os,hg.tape,hg.output,hg.size,hg.block⟩
variable (la:Option Addr) (lc:Nat) (l:List TxA) (m:Int)
theorem docBytes_any (w:World) (hl:IsTxs w la l) (hE:aN m l=0) :
  Calls prog 49 #[ag #[Y I m,J la l.length lc]] w fun e w'=>∃S,e=rt (sg S)/\eI S=plB m l/\Below w.heap.size w w':=by
 obtain⟨i0,hi,hz0,hz1,hz2⟩:=info_parts info5;obtain⟨h8,hfew⟩:=few_of hE;have HFW:=Hi hfew;obtain⟨W,hWe⟩:=nm (w.alloc (U #[Y I m,J la l.length lc] 29));have HWE:=Hi hWe;have p0:W.cell? ⟨w.heap.size,0,Q⟩=Y I m:=by subst hWe;simp
 have p1:W.cell? ⟨w.heap.size,1,Q⟩=J la l.length lc:=by subst hWe;simp
 have BW:Hid (Below w.heap.size w W):=by subst hWe;exact aA br _
 have HL:=Hi (hl.below BW.out);have hwW:w.heap.size<W.heap.size:=by subst hWe;simp
 clear hl hWe hE hfew;obtain⟨HD,hHD⟩:=nm ([m%256,(l.length:Int)]);have EHD:=Hi hHD;have lHD:HD.length=2:=by rw[hHD];rfl
 have H0:Hid ((W.alloc (U #[Y .u8 (m%256),Y .u8 (l.length:Int)] 5)).ownsRow W.heap.size 5 1 (J (M ⟨W.heap.size,0,Q⟩) 2 2) (HD).length ((HD).map (Y .u8))):=by
  show World.ownsRow _ _ _ _ _ _ _;rw[hHD];exact lv W #[Y .u8 (m%256),Y .u8 (l.length:Int)] 2 nr dc rfl
 clear hHD;go_enter func49,ntmps49
 go_upto_region 1 with fail
 rw[<-HWE.out];go_wp2
 go_loopw [3,4,5,6,7,8] (fun v i _ _ _ _ wr=>∃k:Nat,k<=l.length/\i=Y I k/\Hid (wr.ownsRow W.heap.size 5 1 v (HD++(l.take k).flatMap xB).length ((HD++(l.take k).flatMap xB).map (Y .u8)))/\Hid (BK W.heap.size W wr)) (fun _ i _ _ _ _ _=>l.length - (intOf i).toNat)
 case atStart=>exact⟨0,nz,rfl,by show World.ownsRow _ _ _ _ _ _ _;simpa using H0.out,(BK.refl _ _).alloc _⟩
 case round=>
  clear H0;obtain⟨k,hk,rfl,HO,BV⟩:=hrel;have z0:=BV.out.cell p0 (Or.inl hwW);have z1:=BV.out.cell p1 (Or.inl hwW);have hsr:=BV.out.size;by_cases hlt:k<l.length
  ·have i1:(0:Int)<=(k:Int):=om;have i2:(k:Int)<(l.length:Int):=om;obtain⟨b,off,hla,hb,c0,c1,c2,hx⟩:=HL.out k hlt;have HX:=Hi hx;have c0:=aB (BV.out.below nr) c0;have c1:=aB (BV.out.below nr) c1;have c2:=aB (BV.out.below nr) c2;obtain⟨s1,s2,s3⟩:=HFW.out k hlt;have ln:=xsB_len l HFW.out k hk;obtain⟨Q1,eQ1⟩:=nm (HD++(l.take k).flatMap xB);have EQ1:=Hi eQ1;have lQ1:Q1.length<=1700:=by rw[eQ1,nj];omega
   rw[<-eQ1]at HO;obtain⟨x,ex⟩:∃x,l.getD k x0=x:=⟨_,rfl⟩;have HXK:=Hi ex;rw[ex]at HX c0 c1 c2 s1 s2 s3;clear eQ1 hx ex ln;subst hla;obtain⟨ra,ga,sa,rc,gc,sc,rs,gs,ss⟩:=x;simp only at c0 c1 c2 s1 s2 s3
   go_upto_region 6 with fail
   obtain⟨VX,hVX⟩:=nm (wr.alloc (U #[J ra rs.length rc,J ga gs.length gc,J sa ss.length sc] 95));have x0:VX.cell? ⟨wr.heap.size,0,Q⟩=J ra rs.length rc:=by subst hVX;simp
   have x1:VX.cell? ⟨wr.heap.size,1,Q⟩=J ga gs.length gc:=by subst hVX;simp
   have x2:VX.cell? ⟨wr.heap.size,2,Q⟩=J sa ss.length sc:=by subst hVX;simp
   have NX:Hid (iT VX wr.heap.size):=by subst hVX;exact kM _ _ _ dc
   have BWX:Hid (BK W.heap.size W VX):=by subst hVX;exact BV.out.alloc _
   have HO:Hid (VX.ownsRow W.heap.size 5 1 u3 (Q1).length ((Q1).map (Y .u8))):=by subst hVX;exact HO.out.alloc _
   have hCV:=BWX.out.size;have BV:Hid (BK W.heap.size VX VX):=BK.refl _ _;rw[<-hVX];clear hVX c0 c1 c2 z0 z1 hsr;generalize wr.heap.size=XB at *
   go_wp2_with (first | (at_builtin;refine wpList_append_own _ rfl _ _ 52 rfl W.heap.size 5 i0 (Y .u8 0) 1 1 underlying52 hi hz0 hz1 hz2 rfl dc _ _ _ rfl (HO.out.alloc _) _ 1 1 [Y .u8 _] rfl rfl (cell_one_new _ _ _) (mF _) (by unfold maxLen;omega) om (by simp;omega) ?_;intro v' w5 hown' hgrow _;have HO5:=dX hown';have HG5:=dX hgrow;clear hown' hgrow) | go_in)
   have HN:=dX (oC (x:=(rs.length:Int)) HO5.out (by first | rfl | omega | rw[IntKind.wrap_u8']));have BN:=Hi (BV.out.trans (BK.grow1 HO.out HG5.out));clear HO5 HG5 HO BV;obtain⟨Q2,eQ2⟩:=nm (Q1++[(rs.length:Int)%256]);have EQ2:=Hi eQ2;have lQ2:Q2.length=Q1.length+1:=by rw[eQ2];simp
   rw[<-eQ2]at HN;clear eQ2
   go_loopw [3,6] (fun v i wr=>∃k2:Nat,k2<=rs.length/\i=Y I k2/\Hid (wr.ownsRow W.heap.size 5 1 v (Q2++(rs.take k2).map (· % 256)).length ((Q2++(rs.take k2).map (· % 256)).map (Y .u8)))/\Hid (BK W.heap.size VX wr)) (fun _ i _=>rs.length - (intOf i).toNat)
   case atStart=>exact⟨0,nz,rfl,by show World.ownsRow _ _ _ _ _ _ _;simpa using HN.out,BN⟩
   case round=>
    clear HN BN;obtain⟨k2,hk2,rfl,HO,BV⟩:=hrel;have z0:=BV.out.cell x0 (Or.inr NX.out);have z1:=BV.out.cell x1 (Or.inr NX.out);have z2:=BV.out.cell x2 (Or.inr NX.out);have hsr:=nh hCV BV.out.size;have hBl:=Hi ((BWX.out.trans BV.out).below nr);by_cases hlt2:k2<rs.length
    ·have i1:(0:Int)<=(k2:Int):=om;have i2:(k2:Int)<(rs.length:Int):=om;obtain⟨QK,eQK⟩:=nm (Q2++(rs.take k2).map (· % 256));have EQK:=Hi eQK
     have lQK:QK.length<=Q2.length+4:=by
      rw[eQK,nj];simp only[List.length_map,List.length_take];omega
     rw[<-eQK]at HO;clear eQK;obtain⟨b,off,hra,hb,hc⟩:=HX.out.t.r k2 hlt2;have hc:=aB hBl.out hc;obtain⟨y,hy⟩:∃y,rs.getD k2 0=y:=⟨_,rfl⟩;rw[hy]at hc;have HY:=Hi hy;clear hy;subst hra
     go_wp2_with (first | (at_builtin;refine wpList_append_own _ rfl _ _ 52 rfl W.heap.size 5 i0 (Y .u8 0) 1 1 underlying52 hi hz0 hz1 hz2 rfl dc _ _ _ rfl (HO.out.alloc _) _ 1 1 [Y .u8 _] rfl rfl (cell_one_new _ _ _) (mF _) (by unfold maxLen;omega) om (by simp;omega) ?_;intro v' w5 hown' hgrow _;have HO5:=dX hown';have HG5:=dX hgrow;clear hown' hgrow) | go_in)
     have HN:=dX (oC (x:=y) HO5.out (by first | rfl | omega | rw[IntKind.wrap_u8']));have BN:=Hi (BV.out.trans (BK.grow1 HO.out HG5.out));clear HO5 HG5 HO BV
     have HT:Hid (letI Z:=Q2++(rs.take (k2+1)).map (· % 256);w5.ownsRow W.heap.size 5 1 v' Z.length (Z.map (Y .u8))):=by
      show World.ownsRow _ _ _ _ _ _ _;rw[pN _ rs 0 k2 hlt2,HY.out,<-lu,<-EQK.out];exact HN.out
     clear HN;go_roundw
     case rel=>exact⟨k2+1,by omega,by go_num,HT,BN⟩
     case measure=>simp[intOf];omega
    ·have hk2e:k2=rs.length:=om;subst hk2e;have i2:¬((rs.length:Int)<(rs.length:Int)):=om;obtain⟨QE2,eQE⟩:=nm (Q2++(rs).map (· % 256));have EQE2:=Hi eQE
     have lQE2:QE2.length<=Q2.length+4:=by
      rw[eQE,nj];simp only[List.length_map];omega
     have HO:Hid (wr.ownsRow W.heap.size 5 1 u3 (QE2).length ((QE2).map (Y .u8))):=by
      exact Ve
     clear eQE
     go_wp2_with (first | (at_builtin;refine wpList_append_own _ rfl _ _ 52 rfl W.heap.size 5 i0 (Y .u8 0) 1 1 underlying52 hi hz0 hz1 hz2 rfl dc _ _ _ rfl (HO.out.alloc _) _ 1 1 [Y .u8 _] rfl rfl (cell_one_new _ _ _) (mF _) (by unfold maxLen;omega) om (by simp;omega) ?_;intro v' w5 hown' hgrow _;have HO5:=dX hown';have HG5:=dX hgrow;clear hown' hgrow) | go_in)
     have HN:=dX (oC (x:=(gs.length:Int)) HO5.out (by first | rfl | omega | rw[IntKind.wrap_u8']));have BN:=Hi (BV.out.trans (BK.grow1 HO.out HG5.out));clear HO5 HG5 HO BV;obtain⟨Q3,eQ3⟩:=nm (QE2++[(gs.length:Int)%256]);have EQ3:=Hi eQ3;have lQ3:Q3.length=QE2.length+1:=by rw[eQ3];simp
     rw[<-eQ3]at HN;clear eQ3
     go_loopw [3,7] (fun v i wr=>∃k3:Nat,k3<=gs.length/\i=Y I k3/\Hid (wr.ownsRow W.heap.size 5 1 v (Q3++(gs.take k3).flatMap (fun x=>yP x.k x.ak x.an x.bk x.bn)).length ((Q3++(gs.take k3).flatMap (fun x=>yP x.k x.ak x.an x.bk x.bn)).map (Y .u8)))/\Hid (BK W.heap.size VX wr)) (fun _ i _=>gs.length - (intOf i).toNat)
     case atStart=>exact⟨0,nz,rfl,by show World.ownsRow _ _ _ _ _ _ _;simpa using HN.out,BN⟩
     case round=>
      clear HN BN;obtain⟨k3,hk3,rfl,HO,BV⟩:=hrel;have z0:=BV.out.cell x0 (Or.inr NX.out);have z1:=BV.out.cell x1 (Or.inr NX.out);have z2:=BV.out.cell x2 (Or.inr NX.out);have hsr:=nh hCV BV.out.size;have hBl:=Hi ((BWX.out.trans BV.out).below nr);by_cases hlt3:k3<gs.length
      ·have i1:(0:Int)<=(k3:Int):=om;have i2:(k3:Int)<(gs.length:Int):=om;obtain⟨QK,eQK⟩:=nm (Q3++(gs.take k3).flatMap (fun x=>yP x.k x.ak x.an x.bk x.bn));have EQK:=Hi eQK
       have lQK:QK.length<=Q3.length+80:=by
        rw[eQK,nj];have:=vV gs k3;omega
       rw[<-eQK]at HO;clear eQK;obtain⟨b,off,hga,hb,e0,e1,e2,e3,e4⟩:=HX.out.t.g k3 hlt3;have HGT:Hid (_=_):=gsB_take gs k3 hlt3;subst hga;generalize gs.getD k3 g0=y at *;obtain⟨yk,ak,an,bk,bn⟩:=y;simp only at e0 e1 e2 e3 e4;have d0:=aB hBl.out e0
       go_upto_region 16 with (first | (at_builtin;refine wpList_append_own _ rfl _ _ 52 rfl W.heap.size 5 i0 (Y .u8 0) 1 1 underlying52 hi hz0 hz1 hz2 rfl dc _ _ _ rfl (HO.out.alloc _) _ 1 1 [Y .u8 _] rfl rfl (cell_one_new _ _ _) (mF _) (by unfold maxLen;omega) om (by simp;omega) ?_;intro v' w5 hown' hgrow _;have HO5:=dX hown';have HG5:=dX hgrow;clear hown' hgrow) | go_in)
       have HN:=dX (oC (x:=yk) HO5.out (by first | rfl | omega | rw[IntKind.wrap_u8']));have BN:=Hi (BV.out.trans (BK.grow1 HO.out HG5.out));clear HO5 HG5 HO BV;obtain⟨QA,eQA⟩:=nm (QK++[yk%256]);have EQA:=Hi eQA;have lQA:QA.length=QK.length+1:=by rw[eQA];simp
       rw[<-eQA]at HN;clear eQA;have f1:=aB ((BWX.out.trans BN.out).below nr) e1;have f2:=aB ((BWX.out.trans BN.out).below nr) e2;have y1:=BN.out.cell x1 (Or.inr NX.out)
       go_wp2_with fail
       refine(lN ak an _).mono ?_;rintro e w6 ⟨g9,cap9,rfl,hb9,hb6⟩;have HB9:=dX hb9;have HO:=dX (oZ HN.out hb6);have BV:=Hi (BN.out.trans (BK.ofBelow hb6));have hs6:=nh hCV (BV.out.size);clear HN BN hb9 hb6
       go_upto_region 17 with (first | (at_builtin;refine wpList_append_own _ rfl _ _ 52 rfl W.heap.size 5 i0 (Y .u8 0) 1 1 underlying52 hi hz0 hz1 hz2 rfl dc _ _ _ rfl HO.out _ 9 _ ((rP ak an).map (Y .u8)) rfl rfl (fun j v hj=>HB9.out.cells (g:=g9) rfl j v hj) (ints_oneCell .u8 (rP ak an)) (by unfold maxLen;omega) om om ?_;intro v' w5 hown' hgrow _;have HO5:=dX hown';have HG5:=dX hgrow;clear hown' hgrow) | go_in)
       have HN:=dX (rI (r:=rP ak an) HO5.out rfl);have BN:=Hi (BV.out.trans (BK.grow HO.out HG5.out));clear HO5 HG5 HO BV HB9;obtain⟨QB,eQB⟩:=nm (QA++rP ak an);have EQB:=Hi eQB;have lQB:QB.length=QA.length+9:=by rw[eQB];simp[iL]
       rw[<-eQB]at HN;clear eQB;have f3:=aB ((BWX.out.trans BN.out).below nr) e3;have f4:=aB ((BWX.out.trans BN.out).below nr) e4;have y1b:=BN.out.cell x1 (Or.inr NX.out);clear f1 f2 y1
       go_wp2_with fail
       refine(lN bk bn _).mono ?_;rintro e w6 ⟨g9,cap9,rfl,hb9,hb6⟩;have HB9:=dX hb9;have HO:=dX (oZ HN.out hb6);have BV:=Hi (BN.out.trans (BK.ofBelow hb6));have hs6:=nh hCV (BV.out.size);clear HN BN hb9 hb6
       go_wp2_with (first | (at_builtin;refine wpList_append_own _ rfl _ _ 52 rfl W.heap.size 5 i0 (Y .u8 0) 1 1 underlying52 hi hz0 hz1 hz2 rfl dc _ _ _ rfl HO.out _ 9 _ ((rP bk bn).map (Y .u8)) rfl rfl (fun j v hj=>HB9.out.cells (g:=g9) rfl j v hj) (ints_oneCell .u8 (rP bk bn)) (by unfold maxLen;omega) om om ?_;intro v' w5 hown' hgrow _;have HO5:=dX hown';have HG5:=dX hgrow;clear hown' hgrow) | go_in)
       have HN:=dX (rI (r:=rP bk bn) HO5.out rfl);have BN:=Hi (BV.out.trans (BK.grow HO.out HG5.out));clear HO5 HG5 HO BV HB9;obtain⟨QC,eQC⟩:=nm (QB++rP bk bn);have EQC:=Hi eQC;rw[<-eQC]at HN;clear eQC
       have HT:Hid (w5.ownsRow W.heap.size 5 1 v' (Q3++(gs.take (k3+1)).flatMap (fun x=>yP x.k x.ak x.an x.bk x.bn)).length ((Q3++(gs.take (k3+1)).flatMap (fun x=>yP x.k x.ak x.an x.bk x.bn)).map (Y .u8))):=by
        show World.ownsRow _ _ _ _ _ _ _;rw[HGT.out,<-lu,<-EQK.out];have:=HN.out;rw[EQC.out,EQB.out,EQA.out]at this;simpa[yP]using this
       clear HN;go_roundw
       case rel=>exact⟨k3+1,by omega,by go_num,HT,BN⟩
       case measure=>simp[intOf];omega
      ·have hk3e:k3=gs.length:=om;subst hk3e;have i2:¬((gs.length:Int)<(gs.length:Int)):=om;obtain⟨QE3,eQE⟩:=nm (Q3++(gs).flatMap (fun x=>yP x.k x.ak x.an x.bk x.bn));have EQE3:=Hi eQE
       have lQE3:QE3.length<=Q3.length+80:=by
        rw[eQE,nj];have:=vV gs gs.length;rw[ld]at this;omega
       have HO:Hid (wr.ownsRow W.heap.size 5 1 u3 (QE3).length ((QE3).map (Y .u8))):=by
        exact Ve
       clear eQE
       go_wp2_with (first | (at_builtin;refine wpList_append_own _ rfl _ _ 52 rfl W.heap.size 5 i0 (Y .u8 0) 1 1 underlying52 hi hz0 hz1 hz2 rfl dc _ _ _ rfl (HO.out.alloc _) _ 1 1 [Y .u8 _] rfl rfl (cell_one_new _ _ _) (mF _) (by unfold maxLen;omega) om (by simp;omega) ?_;intro v' w5 hown' hgrow _;have HO5:=dX hown';have HG5:=dX hgrow;clear hown' hgrow) | go_in)
       have HN:=dX (oC (x:=(ss.length:Int)) HO5.out (by first | rfl | omega | rw[IntKind.wrap_u8']));have BN:=Hi (BV.out.trans (BK.grow1 HO.out HG5.out));clear HO5 HG5 HO BV;obtain⟨Q4,eQ4⟩:=nm (QE3++[(ss.length:Int)%256]);have EQ4:=Hi eQ4;have lQ4:Q4.length=QE3.length+1:=by rw[eQ4];simp
       rw[<-eQ4]at HN;clear eQ4
       go_loopw [3,8] (fun v i wr=>∃k4:Nat,k4<=ss.length/\i=Y I k4/\Hid (wr.ownsRow W.heap.size 5 1 v (Q4++(ss.take k4).flatMap (fun x=>yN x.key x.op x.ak x.an x.bk x.bn)).length ((Q4++(ss.take k4).flatMap (fun x=>yN x.key x.op x.ak x.an x.bk x.bn)).map (Y .u8)))/\Hid (BK W.heap.size VX wr)) (fun _ i _=>ss.length - (intOf i).toNat)
       case atStart=>exact⟨0,nz,rfl,by show World.ownsRow _ _ _ _ _ _ _;simpa using HN.out,BN⟩
       case round=>
        clear HN BN;obtain⟨k4,hk4,rfl,HO,BV⟩:=hrel;have z0:=BV.out.cell x0 (Or.inr NX.out);have z1:=BV.out.cell x1 (Or.inr NX.out);have z2:=BV.out.cell x2 (Or.inr NX.out);have hsr:=nh hCV BV.out.size;have hBl:=Hi ((BWX.out.trans BV.out).below nr);by_cases hlt4:k4<ss.length
        ·have i1:(0:Int)<=(k4:Int):=om;have i2:(k4:Int)<(ss.length:Int):=om;obtain⟨QK,eQK⟩:=nm (Q4++(ss.take k4).flatMap (fun x=>yN x.key x.op x.ak x.an x.bk x.bn));have EQK:=Hi eQK
         have lQK:QK.length<=Q4.length+80:=by
          rw[eQK,nj];have:=ssB_len ss k4;omega
         rw[<-eQK]at HO;clear eQK;obtain⟨b,off,hsa,hb,e0,e1,e2,e3,e4,e5⟩:=HX.out.t.s k4 hlt4;have HST:Hid (_=_):=ssB_take ss k4 hlt4;subst hsa;generalize ss.getD k4 s0=y at *;obtain⟨yk,yo,ak,an,bk,bn⟩:=y;simp only at e0 e1 e2 e3 e4 e5;have d0:=aB hBl.out e0;have d1:=aB hBl.out e1;have HOd:Hid (∀o,(wr.alloc o).drew.ownsRow W.heap.size 5 1 u3 QK.length (QK.map (Y .u8))):=fun o=>HO.out.alloc o
         go_upto_region 22 with fail
         go_region_law (first | (refine dH (by rfl) _ _ _ (by rfl) W.heap.size 5 i0 (Y .u8 0) 1 underlying52 hi hz0 hz1 hz2 rfl u3 QK.length (QK.map (Y .u8)) (by rfl) (HOd.out _) _ 2 2 [Y .u8 _,Y .u8 _] (by rfl) (by rfl) (news_two _ _ _) (ints_oneCell .u8 [_,_]) (by unfold maxLen;omega) om (by simp;omega) ?_;intro v' w5 ho3 hg3 hkeep;have HO5:=dX ho3;have HG5:=dX hg3;clear ho3 hg3 hkeep))
         all_goals (
          have HN:=dX (row_two (x:=yk) (y:=yo) HO5.out (by first | rfl | omega | rw[IntKind.wrap_u8']) (by first | rfl | omega | rw[IntKind.wrap_u8']));have BN:=Hi (BV.out.trans (BK.grow2 HO.out HG5.out));clear HO5 HG5 HO BV HOd;obtain⟨QA,eQA⟩:=nm (QK++[yk%256,yo%256]);have EQA:=Hi eQA;have lQA:QA.length=QK.length+2:=by rw[eQA];simp
          rw[<-eQA]at HN;clear eQA;have f1:=aB ((BWX.out.trans BN.out).below nr) e2;have f2:=aB ((BWX.out.trans BN.out).below nr) e3;have y1:=BN.out.cell x2 (Or.inr NX.out)
          go_wp2_with fail
          refine(lN ak an _).mono ?_;rintro e w6 ⟨g9,cap9,rfl,hb9,hb6⟩;have HB9:=dX hb9;have HO:=dX (oZ HN.out hb6);have BV:=Hi (BN.out.trans (BK.ofBelow hb6));have hs6:=nh hCV (BV.out.size);clear HN BN hb9 hb6
          go_upto_region 24 with (first | (at_builtin;refine wpList_append_own _ rfl _ _ 52 rfl W.heap.size 5 i0 (Y .u8 0) 1 1 underlying52 hi hz0 hz1 hz2 rfl dc _ _ _ rfl HO.out _ 9 _ ((rP ak an).map (Y .u8)) rfl rfl (fun j v hj=>HB9.out.cells (g:=g9) rfl j v hj) (ints_oneCell .u8 (rP ak an)) (by unfold maxLen;omega) om om ?_;intro v' w5 hown' hgrow _;have HO5:=dX hown';have HG5:=dX hgrow;clear hown' hgrow) | go_in)
          have HN:=dX (rI (r:=rP ak an) HO5.out rfl);have BN:=Hi (BV.out.trans (BK.grow HO.out HG5.out));clear HO5 HG5 HO BV HB9;obtain⟨QB,eQB⟩:=nm (QA++rP ak an);have EQB:=Hi eQB;have lQB:QB.length=QA.length+9:=by rw[eQB];simp[iL]
          rw[<-eQB]at HN;clear eQB;have f3:=aB ((BWX.out.trans BN.out).below nr) e4;have f4:=aB ((BWX.out.trans BN.out).below nr) e5;have y1b:=BN.out.cell x2 (Or.inr NX.out);clear f1 f2 y1
          go_wp2_with fail
          refine(lN bk bn _).mono ?_;rintro e w6 ⟨g9,cap9,rfl,hb9,hb6⟩;have HB9:=dX hb9;have HO:=dX (oZ HN.out hb6);have BV:=Hi (BN.out.trans (BK.ofBelow hb6));have hs6:=nh hCV (BV.out.size);clear HN BN hb9 hb6
          go_wp2_with (first | (at_builtin;refine wpList_append_own _ rfl _ _ 52 rfl W.heap.size 5 i0 (Y .u8 0) 1 1 underlying52 hi hz0 hz1 hz2 rfl dc _ _ _ rfl HO.out _ 9 _ ((rP bk bn).map (Y .u8)) rfl rfl (fun j v hj=>HB9.out.cells (g:=g9) rfl j v hj) (ints_oneCell .u8 (rP bk bn)) (by unfold maxLen;omega) om om ?_;intro v' w5 hown' hgrow _;have HO5:=dX hown';have HG5:=dX hgrow;clear hown' hgrow) | go_in)
          have HN:=dX (rI (r:=rP bk bn) HO5.out rfl);have BN:=Hi (BV.out.trans (BK.grow HO.out HG5.out));clear HO5 HG5 HO BV HB9;obtain⟨QC,eQC⟩:=nm (QB++rP bk bn);have EQC:=Hi eQC;rw[<-eQC]at HN;clear eQC
          have HT:Hid (w5.ownsRow W.heap.size 5 1 v' (Q4++(ss.take (k4+1)).flatMap (fun x=>yN x.key x.op x.ak x.an x.bk x.bn)).length ((Q4++(ss.take (k4+1)).flatMap (fun x=>yN x.key x.op x.ak x.an x.bk x.bn)).map (Y .u8))):=by
           show World.ownsRow _ _ _ _ _ _ _;rw[HST.out,<-lu,<-EQK.out];have:=HN.out;rw[EQC.out,EQB.out,EQA.out]at this;simpa[yN]using this
          clear HN;go_roundw
          case rel=>exact⟨k4+1,by omega,by go_num,HT,BN⟩
          case measure=>simp[intOf];omega)
        ·have hk4e:k4=ss.length:=om;subst hk4e;have i2:¬((ss.length:Int)<(ss.length:Int)):=om;obtain⟨QE4,eQE⟩:=nm (Q4++(ss).flatMap (fun x=>yN x.key x.op x.ak x.an x.bk x.bn));have EQE4:=Hi eQE
         have HO:Hid (wr.ownsRow W.heap.size 5 1 u3 (QE4).length ((QE4).map (Y .u8))):=by
          exact Ve
         clear eQE
         have HT:Hid (letI Z:=HD++(l.take (k+1)).flatMap xB;wr.ownsRow W.heap.size 5 1 u3 Z.length (Z.map (Y .u8))):=by
          show World.ownsRow _ _ _ _ _ _ _;rw[vY l k hlt,HXK.out,<-lu,<-EQ1.out];have:=HO.out;rw[EQE4.out,EQ4.out,EQE3.out,EQ3.out,EQE2.out,EQ2.out]at this;simpa[xB,txB,zsB,gsB,ssB]using this
         have BT:=Hi (BWX.out.trans BV.out);clear HO BV;go_wp2;go_roundw
         case rel=>exact⟨k+1,by omega,by go_num,HT,BT⟩
         case measure=>simp[intOf];omega
  ·have hke:k=l.length:=om;subst hke;have i2:¬((l.length:Int)<(l.length:Int)):=om;have ho:=HO.out;rw[ld]at ho;have hlen:0<(HD++l.flatMap xB).length:=by rw[nj];omega
   obtain⟨g,cap,hv,_,_⟩:=ho.form hlen;subst hv
   have hpl:HD++l.flatMap xB=plB m l:=by
    have e:(l.length:Int)%256=l.length:=om;rw[EHD.out,plB,xsB,e];rfl
   rw[hpl]at ho;obtain⟨S,hS,hSl⟩:=yD wr _ g cap _ ho (plB_byt m l);have HS:=Hi hSl;have BB:=Hi (aC BW.out ((BV.out.below nr)));rw[hpl];clear ho hSl HO BV hpl hlen;generalize (plB m l).length=N at *;go_wp2;go_ret;exact⟨S,rfl,HS.out,BB.out⟩
end
theorem tB (h:Byt bs):0<=(zN bs).1/\(zN bs).1<256:=by
 cases bs with
 | nil=>exact⟨Int.le_refl _,by decide⟩
 | cons b r=>exact h b sm
theorem eL (P:Nat) (bs:List Int) (w:World) (h:RdS P w bs):Calls prog 46 #[pd (M ⟨P,0,Q⟩)] w fun e w'=>e=rt (Y I (zN bs).1)/\RdS P w' (zN bs).2/\w.grownBy w' (M P):=by
 have h0:=h
 cases bs with
 | nil=>
  obtain⟨s,hc,hf,hs⟩:=h;have hn:(s.toList==([]:List UInt8))=true:=by rw[pF,hs];rfl
  clear hs;have hn2:s.toList=[]:=by simpa using hn
  have H0:=dX h0;clear h0;go_enter func46,ntmps46;go_wp2;go_ret;exact⟨rfl,H0.out,wv _ _⟩
 | cons b r=>
  obtain⟨s,hc,hf,hs⟩:=h;have hn:(s.toList==([]:List UInt8))=false:=by rw[pF,hs];rfl
  obtain⟨h0',hb,hr⟩:=lst_cons hs;have h1:(1:Int)<=(s.size:Int):=om;have hB:b<256/\0<=b:=by have:=(s[0]'h0').toNat_lt;omega
  have hwr:IntKind.i64.wrap b=b:=iH om om;clear hs h0;have hn2:¬s.toList=[]:=by simpa using hn
  go_enter func46,ntmps46;go_wp2;go_ret;refine⟨?_,⟨_,aK hc,by simpa using hf,hr⟩,gb_set _ _ _⟩;show _=Ending.returned (Y I b)
  first | rfl | (rw[hb,hwr])
theorem rV {w:World} (hg:w.grownBy w' row) (hne:M b≠row) (hb:b<w.heap.size) (hc:∀i,w.frozen? ⟨b,i,Q⟩=false):∀i,w'.frozen? ⟨b,i,Q⟩=false:=fun i=>(nv (a:=⟨b,i,Q⟩) (hg.block b hb hne)).trans (hc i)
structure Kep (P X:Nat) (w w':World):Prop where
 os:w'.os=w.os
 tape:w'.tape=w.tape
 output:w'.output=w.output
 size:w.heap.size<=w'.heap.size
 block:∀b,b<w.heap.size->b≠P->b≠X->w'.heap[b]?=w.heap[b]?
theorem Kep.refl (P X:Nat) (w:World):Kep P X w w:=⟨rfl,rfl,rfl,nr,fun _ _ _ _=>rfl⟩
theorem Kep.step {w a b:World} (h:Kep P X w a) (hg:a.grownBy b row) (hr:∀j,row=M j->j=P∨j=X∨w.heap.size<=j):Kep P X w b:=
 ⟨hg.os.trans h.os,hg.tape.trans h.tape,hg.output.trans h.output,nh h.size hg.size,fun i hi hP hX=>(hg.block i (nd hi h.size) (fun e=>by rcases hr i e.symm with h1 | h1 | h1 <;> omega)).trans (h.block i hi hP hX)⟩
theorem Kep.gb {w0 w:World} (h:Kep P X w w') (hg:w0.grownBy w (M P)) (hX:w0.heap.size<=X):w0.grownBy w' (M P):=
 ⟨h.os.trans hg.os,h.tape.trans hg.tape,h.output.trans hg.output,nh hg.size h.size,fun b hb hP=>(h.block b (nd hb hg.size) (fun e=>hP (by rw[e])) om).trans (hg.block b hb hP)⟩
theorem Kep.ints {w:World} (h:Kep P X w w') (hs:IsInts w a zs) (hi:InBlocks lo hi a) (h1:P<lo) (h2:X<lo):IsInts w' a zs:=fun i hlt=>by
 obtain⟨b,off,ha,hb,hc⟩:=hs i hlt;have:=(hi _ ha).1;simp only at this;exact⟨b,off,ha,nd hb h.size,(nu (a:=⟨b,off+i,Q⟩) (h.block b hb om om)).trans hc⟩
theorem Kep.gs {w:World} {zs:List Gd} (h:Kep P X w w') (hs:IsGs w a zs) (hi:InBlocks lo hi a) (h1:P<lo) (h2:X<lo):IsGs w' a zs:=fun i hlt=>by
 obtain⟨b,off,ha,hb,c0,c1,c2,c3,c4⟩:=hs i hlt;have:=(hi _ ha).1;simp only at this;have e:=fun j=>nu (a:=⟨b,j,Q⟩) (h.block b hb om om)
 exact⟨b,off,ha,nd hb h.size,(e _).trans c0,(e _).trans c1,(e _).trans c2,(e _).trans c3,(e _).trans c4⟩
theorem iP (w:World) (R i:Nat) (v:Value) (b j:Nat):(w.setCell ⟨R,i,Q⟩ v).frozen? ⟨b,j,Q⟩=w.frozen? ⟨b,j,Q⟩:=by simp
theorem oV (P:Nat) (bs:List Int) (w:World) (h:RdS P w bs) :
  Calls prog 47 #[pd (M ⟨P,0,Q⟩)] w fun e w'=>e=rt (ag #[Y I (zO bs).1.1,Y I (zO bs).1.2])/\RdS P w' (zO bs).2/\w.grownBy w' (M P):=by
 have hP:=h.lt;obtain⟨W,hWe⟩:=nm (w.alloc (U #[Y I 0,Y I 0] 97));have HWE:=Hi hWe;have H0:Hid (RdS P W bs):=by subst hWe;exact h.alloc _
 have G0:Hid (w.grownBy W (M P)):=by subst hWe;exact lb _ _ _
 have S0:Hid (w.heap.size<W.heap.size):=by subst hWe;show _<_;simp
 have r0:W.cell? ⟨w.heap.size,0,Q⟩=Y I 0:=by subst hWe;simp
 have r1:W.cell? ⟨w.heap.size,1,Q⟩=Y I 0:=by subst hWe;simp
 have rf:∀i,W.frozen? ⟨w.heap.size,i,Q⟩=false:=by subst hWe;intro i;simp
 have hR:w.heap.size≠P:=om;have HZ:Hid (zO bs=(((zN bs).1,sgn _),(zK zN 8 (zN bs).2).2)):=rfl;clear h hWe;go_enter func47,ntmps47
 go_upto_region 1 with fail
 rw[<-HWE.out]
 go_wp2_with fail
 refine(eL P bs _ H0.out).mono ?_;rintro e w1 ⟨rfl,h1,g⟩;generalize (zN bs).1=kd at *;generalize (zN bs).2=q at *;have H1:=Hi h1;have G1:=Hi (G0.out.trans g);have r0:=aL g hR r0;have r1:=aL g hR r1;have rf:=bD g hR S0.out rf;have S1:=nd S0.out g.size;clear h1 g;obtain⟨V,hVe⟩:=nm (w1.alloc (U #[Y I kd,Y I 0] 97));have HVE:=Hi hVe;have H2:Hid (RdS P V q):=by subst hVe;exact H1.out.alloc _
 have G2:Hid (w.grownBy V (M P)):=by subst hVe;exact G1.out.trans (lb _ _ _)
 have o0:V.cell? ⟨w1.heap.size,0,Q⟩=Y I kd:=by subst hVe;simp
 have o1:V.cell? ⟨w1.heap.size,1,Q⟩=Y I 0:=by subst hVe;simp
 have of:∀i,V.frozen? ⟨w1.heap.size,i,Q⟩=false:=by subst hVe;intro i;simp
 have r0:V.cell? ⟨w.heap.size,0,Q⟩=Y I 0:=by subst hVe;exact aB (aA br _) r0
 have r1:V.cell? ⟨w.heap.size,1,Q⟩=Y I 0:=by subst hVe;exact aB (aA br _) r1
 have rf:∀i,V.frozen? ⟨w.heap.size,i,Q⟩=false:=by subst hVe;intro i;exact((aA (n7 w1.heap.size w1) (U #[Y I kd,Y I 0] 97)).frozen (p:=⟨w.heap.size,i,Q⟩) S1).trans (rf i)
 have hO:w1.heap.size≠P:=om;have hOR:w1.heap.size≠w.heap.size:=om;have hOV:Hid (w1.heap.size<V.heap.size):=by subst hVe;show _<_;simp
 clear hVe H1 G1
 go_upto_region 2 with fail
 rw[<-HVE.out];have hwO:w.heap.size<=w1.heap.size:=om;clear HVE S1;generalize w1.heap.size=O at *;go_wp2
 go_loopw [4,5] (fun i _ wr=>∃(k:Nat) (l r:List Int),k<=8/\i=Y I k/\l.length=k/\Hid (zK zN 8 q=(l++(zK zN (8 - k) r).1,(zK zN (8 - k) r).2))/\Hid (Byt l)/\wr.cell? ⟨O,0,Q⟩=Y I kd/\wr.cell? ⟨O,1,Q⟩=Y I (IntKind.i64.wrap (gN l))/\(∀i,wr.frozen? ⟨O,i,Q⟩=false)/\wr.cell? ⟨w.heap.size,0,Q⟩=Y I 0/\wr.cell? ⟨w.heap.size,1,Q⟩=Y I 0/\(∀i,wr.frozen? ⟨w.heap.size,i,Q⟩=false)/\Hid (O<wr.heap.size)/\Hid (RdS P wr r)/\Hid (w.grownBy wr (M P))) (fun i _ _=>8 - (intOf i).toNat)
 case atStart=>exact⟨0,[],q,by omega,rfl,rfl,rfl,fun x hx=>(by cases hx),o0,o1,of,r0,r1,rf,hOV,H2,G2⟩
 case round=>
  clear o0 o1 of r0 r1 rf H2 G2 hOV;obtain⟨k,l,r,hk,rfl,hl,hK,hBl,o0,o1,of,r0,r1,rf,hOV,hR2,hG⟩:=hrel;by_cases hlt:k<8
  ·obtain⟨V0,hV0⟩:=nm (gN l);have hVs:0<=V0/\V0<72057594037927936:=by rw[hV0];exact wA hBl.out om
   have hw:IntKind.i64.wrap V0=V0:=iH om om;rw[<-hV0,hw]at o1;have hb:=tB hR2.out.byt;have HN:Hid (gN (l++[(zN r).1])=V0*256+(zN r).1):=by show _=_;rw[tD,hV0]
   have HK2:Hid (letI Z:=zK zN (8 - (k+1)) (zN r).2;zK zN 8 q=((l++[(zN r).1])++Z.1,Z.2)):=by
    show _=_;rw[hK.out];obtain⟨j,hj⟩:∃j,8 - k=j+1:=⟨8 - k - 1,by omega⟩;have hj2:8 - (k+1)=j:=om;rw[hj,hj2];simp[zK]
   have HBL:Hid (Byt (l++[(zN r).1])):=fun x hx=>by
    rcases List.mem_append.1 hx with h | h
    ·exact hBl.out x h
    ·simp only[List.mem_singleton]at h;rw[h];exact hb
   clear hK hBl hV0 hw
   go_upto_region 5 with fail
   go_wp2_with fail
   refine(eL P r _ hR2.out).mono ?_;rintro e w3 ⟨rfl,h3,g⟩;have HO:=Hi (or_i64 hVs.1 hVs.2 hb.1 hb.2);generalize (zN r).1=b at *;generalize (zN r).2=r' at *;have o0:=aL g hO o0;have o1:=aL g hO o1;have of:=bD g hO hOV.out of;have rf:=bD g hR (kg hwO hOV.out) rf;have r0:=aL g hR r0;have r1:=aL g hR r1;have H3:=Hi h3;have G3:=Hi (hG.out.trans g);have hOV3:=Hi (nd hOV.out g.size);clear h3 g hR2 hG hOV;go_wp2;go_roundw
   case rel=>
    refine⟨k+1,l++[b],r',by omega,by go_num,by simp[hl],HK2,HBL,aE dc o0,?_,fun i=>?_,?_,?_,fun i=>?_,?_,H3.out.set hO,eJ G3.out hwO 1 _⟩
    ·rw[aK o1,HN.out];rw[<-IntWalk.i64_left (V0*256)];exact congrArg (fun x=>M (Y I x)) HO.out
    ·exact(iP _ _ _ _ _ _).trans (of i)
    ·exact aL (iO _ _ _ _) (fun e=>hOR e.symm) r0
    ·exact aL (iO _ _ _ _) (fun e=>hOR e.symm) r1
    ·exact(iP _ _ _ _ _ _).trans (rf i)
    ·exact nd hOV3.out (iO _ _ _ _).size
   case measure=>simp[intOf];omega
  ·have hk8:k=8:=om;subst hk8;have hE:=wC hBl.out hl;rw[hE]at o1
   have HE:Hid (zK zN 8 q=(l,r)):=by
    show _=_;rw[hK.out];simp[zK]
   clear hK hE;obtain⟨y0,y1⟩:=yY (Y I kd) (Y I (sgn (gN l))) r0 r1
   go_wp2_with fail
   refine bodyPost_ret (v:=ag #[Y I kd,Y I (sgn (gN l))]) (by simp[results,results47,go_sem,y0,y1]) rfl ?_;rw[HZ.out,HE.out];exact⟨rfl,(hR2.out.set hR).set hR,eJ (eJ hG.out nr 0 _) nr 1 _⟩
theorem aAe {w:World} {base:Nat} (h:w.ownsRow base E size v n xs) (hg:w.grownBy w' row) (hne:∀j,v.ownBlock=M j->row≠M j):w'.ownsRow base E size v n xs:=by
 refine h.kept hg ?_
 cases ho:v.ownBlock with
 | none=>exact .inl rfl
 | some j=>exact .inr (fun e=>hne j ho e.symm)
structure St3 (P X:Nat) (w2 cur:World) (r:List Int) (u0 u1 u2:Value) (E size:Nat) (v:Value) (n:Nat) (xs:List Value):Prop where
 k:Kep P X w2 cur
 r:RdS P cur r
 c0:cur.cell? ⟨X,0,Q⟩=M u0
 c1:cur.cell? ⟨X,1,Q⟩=M u1
 c2:cur.cell? ⟨X,2,Q⟩=M u2
 f:∀i,cur.frozen? ⟨X,i,Q⟩=false
 lt:X<cur.heap.size
 row:cur.ownsRow w2.heap.size E size v n xs
theorem St3.step (h:St3 P X w2 cur r u0 u1 u2 E size v n xs) (hg:cur.grownBy c2 row) (hr:RdS P c2 r') (h1:M X≠row) (h2:∀j,row=M j->j=P∨w2.heap.size<=j) (h3:∀j,v.ownBlock=M j->row≠M j):St3 P X w2 c2 r' u0 u1 u2 E size v n xs:=
 ⟨h.k.step hg (fun j e=>(h2 j e).elim .inl (fun a=>.inr (.inr a))),hr,hg.cell h.c0 h1,hg.cell h.c1 h1,hg.cell h.c2 h1,rV hg h1 h.lt h.f,nd h.lt hg.size,aAe h.row hg h3⟩
theorem St3.call (h:St3 P X w2 cur r u0 u1 u2 E size v n xs) (hg:cur.grownBy c2 (M P)) (hr:RdS P c2 r') (hXP:X≠P) (hP:P<w2.heap.size):St3 P X w2 c2 r' u0 u1 u2 E size v n xs:=
 h.step hg hr (fun e=>hXP (by injection e)) (fun j e=>.inl (by injection e with e;exact e.symm)) (fun j hj e=>by have:=(h.row.lt j hj).1;injection e with e;omega)
theorem St3.alloc (h:St3 P X w2 cur r u0 u1 u2 E size v n xs) (o:Obj):St3 P X w2 (cur.alloc o) r u0 u1 u2 E size v n xs:=
 h.step (row:=Q) (lb _ _ _) (h.r.alloc o) sm (fun j e=>by cases e) (fun j _ e=>by cases e)
theorem St3.set {G:Nat} (h:St3 P X w2 cur r u0 u1 u2 E size v n xs) (hG:w2.heap.size<=G) (hX:X<w2.heap.size) (hP:P<w2.heap.size) (hv:∀j,v.ownBlock=M j->j<G):St3 P X w2 (cur.setCell ⟨G,i,Q⟩ u) r u0 u1 u2 E size v n xs:=
 h.step (iO _ _ _ _) (h.r.set om) (fun e=>by injection e with e;omega) (fun j e=>.inr (by injection e with e;omega)) (fun j hj e=>by have:=hv j hj;injection e with e;omega)
theorem St3.app {n':Nat} {xs':List Value} (h:St3 P X w2 cur r u0 u1 u2 E size v n xs) (hg:cur.grownBy w5 v.ownBlock) (ho:w5.ownsRow w2.heap.size E size v' n' xs') (hX:X<w2.heap.size) (hP:P<w2.heap.size):St3 P X w2 w5 r u0 u1 u2 E size v' n' xs':=by
 have h1:M X≠v.ownBlock:=fun e=>by have:=(h.row.lt X e.symm).1;omega
 have h0:M P≠v.ownBlock:=fun e=>by have:=(h.row.lt P e.symm).1;omega
 exact⟨h.k.step hg (fun j e=>.inr (.inr (h.row.lt j e).1)),h.r.kept hg h0,hg.cell h.c0 h1,hg.cell h.c1 h1,hg.cell h.c2 h1,rV hg h1 h.lt h.f,nd h.lt hg.size,ho⟩
theorem setX (h:St3 P X w2 cur r u0 u1 u2 E size v n xs) (hX:X<w2.heap.size) (hXP:X≠P) :
  Kep P X w2 (cur.setCell ⟨X,i,Q⟩ u)/\RdS P (cur.setCell ⟨X,i,Q⟩ u) r/\(∀i',(cur.setCell ⟨X,i,Q⟩ u).frozen? ⟨X,i',Q⟩=false)/\X<(cur.setCell ⟨X,i,Q⟩ u).heap.size/\(cur.setCell ⟨X,i,Q⟩ u).ownsRow w2.heap.size E size v n xs:=
 ⟨h.k.step (iO _ _ _ _) (fun j e=>.inr (.inl (by injection e with e;exact e.symm))),h.r.set hXP,fun i'=>(iP _ _ _ _ _ _).trans (h.f i'),nd h.lt (iO _ _ _ _).size,aAe h.row (iO _ _ _ _) (fun j hj e=>by have:=(h.row.lt j hj).1;injection e with e;omega)⟩
theorem St3.set0 (h:St3 P X w2 cur r u0 u1 u2 E size v n xs) (hX:X<w2.heap.size) (hXP:X≠P):St3 P X w2 (cur.setCell ⟨X,0,Q⟩ u) r u u1 u2 E size v n xs:=by
 obtain⟨a,b,c,d,e⟩:=setX (i:=0) (u:=u) h hX hXP;exact⟨a,b,aK h.c0,aE dc h.c1,aE dc h.c2,c,d,e⟩
theorem St3.set1 (h:St3 P X w2 cur r u0 u1 u2 E size v n xs) (hX:X<w2.heap.size) (hXP:X≠P):St3 P X w2 (cur.setCell ⟨X,1,Q⟩ u) r u0 u u2 E size v n xs:=by
 obtain⟨a,b,c,d,e⟩:=setX (i:=1) (u:=u) h hX hXP;exact⟨a,b,aE dc h.c0,aK h.c1,aE dc h.c2,c,d,e⟩
theorem St3.set2 (h:St3 P X w2 cur r u0 u1 u2 E size v n xs) (hX:X<w2.heap.size) (hXP:X≠P):St3 P X w2 (cur.setCell ⟨X,2,Q⟩ u) r u0 u1 u E size v n xs:=by
 obtain⟨a,b,c,d,e⟩:=setX (i:=2) (u:=u) h hX hXP;exact⟨a,b,aE dc h.c0,aE dc h.c1,aK h.c2,c,d,e⟩
theorem vP {α:Type} {f:List Int->α×List Int} {j:Nat} {l:List α} (h:zK f N q=(l++(zK f (j+1) r).1,(zK f (j+1) r).2)):zK f N q=((l++[(f r).1])++(zK f j (f r).2).1,(zK f j (f r).2).2):=by
 rw[h];simp[zK]
theorem zK_end {α:Type} {f:List Int->α×List Int} {l:List α} (h:zK f N q=(l++(zK f 0 r).1,(zK f 0 r).2)):zK f N q=(l,r):=by
 rw[h];simp[zK]
def mR (bs:List Int):Option (Int×List iG):=if aN (zP bs).1.1 ((zP bs).1.2.map cX)=0/\pB (zP bs).1=bs then M (zP bs).1 else Q
structure StD (P D R:Nat) (w cur:World) (r:List Int) (m:Int) (v:Value) (cl:List TxA):Prop where
 b:Below w.heap.size w cur
 r:RdS P cur r
 d0:cur.cell? ⟨D,0,Q⟩=Y I m
 d1:cur.cell? ⟨D,1,Q⟩=M v
 df:∀i,cur.frozen? ⟨D,i,Q⟩=false
 r0:cur.cell? ⟨R,0,Q⟩=Y I 0
 r1:cur.cell? ⟨R,1,Q⟩=J Q 0 0
 rf:∀i,cur.frozen? ⟨R,i,Q⟩=false
 lt:D<cur.heap.size
 row:TxRow (D+1) cur v cl
theorem StD.gb {w:World} {m:Int} (h:StD P D R w cur r m v cl) (g:cur.grownBy c2 (M P)) (hr:RdS P c2 r') (h1:w.heap.size<=P) (h2:R<P) (h3:P<D):StD P D R w c2 r' m v cl:=
 ⟨⟨g.os.trans h.b.os,g.tape.trans h.b.tape,g.output.trans h.b.output,nh h.b.size g.size,fun b hb=>(g.block b (nd hb h.b.size) (fun e=>by injection e with e;omega)).trans (h.b.block b hb)⟩,hr,aL g om h.d0,aL g om h.d1,bD g om h.lt h.df,aL g om h.r0,aL g om h.r1,bD g om (by have:=h.lt;omega) h.rf,nd h.lt g.size,h.row.kept g (fun j e=>by injection e with e;omega)⟩
theorem StD.app {w:World} {m:Int} {cl':List TxA} (h:StD P D R w cur r m v cl) (g:cur.grownBy w5 v.ownBlock) (ho:TxRow (D+1) w5 v' cl') (h1:w.heap.size<=P) (h2:R<P) (h3:P<D):StD P D R w (w5.setCell ⟨D,1,Q⟩ v') r m v' cl':=by
 have lo:=fun j hj=>(h.row.1.lt j hj).1
 have nD:M D≠v.ownBlock:=fun e=>by have:=lo D e.symm;omega
 have nP:M P≠v.ownBlock:=fun e=>by have:=lo P e.symm;omega
 have nR:M R≠v.ownBlock:=fun e=>by have:=lo R e.symm;omega
 have B5:Below w.heap.size w w5:=⟨g.os.trans h.b.os,g.tape.trans h.b.tape,g.output.trans h.b.output,nh h.b.size g.size,fun b hb=>(g.block b (nd hb h.b.size) (fun e=>by have:=lo b e.symm;omega)).trans (h.b.block b hb)⟩;exact⟨aG B5 (show w.heap.size<=D by omega) _,(h.r.kept g nP).set om,aE dc (g.cell h.d0 nD),aK (g.cell h.d1 nD),fun i=>(iP _ _ _ _ _ _).trans (rV g nD h.lt h.df i),aL (iO _ _ _ _) om (g.cell h.r0 nR),aL (iO _ _ _ _) om (g.cell h.r1 nR),fun i=>(iP _ _ _ _ _ _).trans (rV g nR (by have:=h.lt;omega) h.rf i),nd (nd h.lt g.size) (iO _ _ _ _).size,ho.set (nk _)⟩
def oT {α:Type} (g:List Int->α×List Int) (G:α->Prop):Prop:=∀bs,Byt bs->G (g bs).1/\Byt (g bs).2
theorem lF:oT zN B1:=by
 intro bs h
 cases bs with
 | nil=>exact⟨⟨Int.le_refl _,by decide⟩,h⟩
 | cons b r=>exact⟨h b sm,h.tail⟩
theorem zK_good {α:Type} {g:List Int->α×List Int} {G:α->Prop} (hg:oT g G):∀n,oT (zK g n) (fun l=>l.length=n/\∀x∈l,G x)
 | 0,bs,h=>⟨⟨rfl,fun x hx=>by cases hx⟩,h⟩
 | n+1,bs,h=>by
  obtain⟨h1,h2⟩:=hg bs h;obtain⟨⟨h3,h4⟩,h5⟩:=zK_good hg n (g bs).2 h2;refine⟨⟨by simp[zK,h3],fun x hx=>?_⟩,h5⟩;rcases List.mem_cons.1 hx with rfl | hx
  ·exact h1
  ·exact h4 x hx
theorem vN {α:Type} {g:List Int->α×List Int} {G:α->Prop} (hg:oT g G):oT (zL g) (fun l=>l.length<256/\∀x∈l,G x):=by
 intro bs h;obtain⟨⟨b1,b2⟩,h2⟩:=lF bs h;obtain⟨⟨h3,h4⟩,h5⟩:=zK_good hg (zN bs).1.toNat (zN bs).2 h2;refine⟨⟨?_,h4⟩,h5⟩;show (zK g (zN bs).1.toNat (zN bs).2).1.length<256;rw[h3];omega
theorem zV_good:oT zV jP:=by
 intro bs h;obtain⟨⟨h1,h2⟩,h3⟩:=zK_good lF 8 bs h;refine⟨?_,h3⟩;have hB:Byt (zK zN 8 bs).1:=fun x hx=>h2 x hx
 obtain⟨a,b⟩:=valN_lt _ hB;rw[h1]at b;show jP (sgn (gN (zK zN 8 bs).1));have b':gN (zK zN 8 bs).1<18446744073709551616:=by simpa using b
 unfold sgn jP;split <;> omega
theorem vL:oT zO OkO:=by
 intro bs h;obtain⟨h1,h2⟩:=lF bs h;obtain⟨h3,h4⟩:=zV_good (zN bs).2 h2;exact⟨⟨h1,h3⟩,h4⟩
theorem zG_good:oT zG OkG:=by
 intro bs h;obtain⟨h1,h2⟩:=lF bs h;obtain⟨h3,h4⟩:=vL (zN bs).2 h2;obtain⟨h5,h6⟩:=vL (zO (zN bs).2).2 h4;exact⟨⟨h1,h3.1,h3.2,h5.1,h5.2⟩,h6⟩
theorem zS_good:oT zS OkS:=by
 intro bs h;obtain⟨h1,h2⟩:=lF bs h;obtain⟨h1',h2'⟩:=lF (zN bs).2 h2;obtain⟨h3,h4⟩:=vL (zN (zN bs).2).2 h2';obtain⟨h5,h6⟩:=vL (zO (zN (zN bs).2).2).2 h4;exact⟨⟨h1,h1',h3.1,h3.2,h5.1,h5.2⟩,h6⟩
theorem zT_good:oT zT OkC:=by
 intro bs h;obtain⟨h1,h2⟩:=vN lF bs h;obtain⟨h3,h4⟩:=vN zG_good (zL zN bs).2 h2;obtain⟨h5,h6⟩:=vN zS_good (zL zG (zL zN bs).2).2 h4;exact⟨⟨h1,h3,h5⟩,h6⟩
theorem zP_good:oT zP OkP:=by
 intro bs h;obtain⟨h1,h2⟩:=lF bs h;obtain⟨h3,h4⟩:=vN zT_good (zN bs).2 h2;exact⟨⟨h1,h3.1,h3.2⟩,h4⟩
theorem doc_same (h:Byt bs):mR bs=jY bs:=by
 cases hr:jY bs with
 | some p=>
  simp only[jY,Option.bind_eq_some_iff]at hr;obtain⟨⟨q,r⟩,h1,h2⟩:=hr;by_cases hc:r=[]/\aN q.1 (q.2.map cX)=0
  ·rw[if_pos hc]at h2;injection h2 with h2
   subst h2;obtain⟨rfl,h3⟩:=hc;have hz:=zP_zero bs _ h1;obtain⟨h4,_⟩:=xE bs q [] h h1;unfold mR;rw[hz];rw[if_pos ⟨h3,by rw[h4];simp⟩]
  ·rw[if_neg hc]at h2;cases h2
 | none=>
  unfold mR;by_cases hc:aN (zP bs).1.1 ((zP bs).1.2.map cX)=0/\pB (zP bs).1=bs
  ·exfalso;have hb:=rdP_back (zP_good bs h).1 [];rw[ke,hc.2]at hb;simp[jY,hb,hc.1]at hr
  ·rw[if_neg hc]
theorem rd_of_bytes {p:Int×List iG} (hp:OkP p) (hE:aN p.1 (p.2.map cX)=0):jY (pB p)=M p:=by
 have hb:=rdP_back hp [];rw[ke]at hb;simp[jY,hb,hE]
theorem bytes_of_rd {p:Int×List iG} (h:Byt bs) (hr:jY bs=M p):pB p=bs/\aN p.1 (p.2.map cX)=0:=by
 simp only[jY,Option.bind_eq_some_iff]at hr;obtain⟨⟨q,r⟩,h1,h2⟩:=hr;by_cases hc:r=[]/\aN q.1 (q.2.map cX)=0
 ·rw[if_pos hc]at h2;injection h2 with h2
  subst h2;obtain⟨rfl,h3⟩:=hc;obtain⟨h4,_⟩:=xE bs q [] h h1;exact⟨by rw[h4];simp,h3⟩
 ·rw[if_neg hc]at h2;cases h2
theorem X2 (h:p:=by
 exact⟨by omega,by omega⟩):p:=h
section
open Go.ChangeShapes Go.WideShapes Go.ChangeAt Go.RowKit Go.Deep
def V64 (x:TxA):Prop:=(∀z∈x.gs,jP z.an/\jP z.bn)/\(∀z∈x.ss,jP z.an/\jP z.bn)
section
variable {H:Type} {enc:TypeId×Value->H} {w:World} {base:Nat} {spare:Nat->Bool} {held:Bool}
end
section
variable {H:Type} {enc:TypeId×Value->H} {w:World} {base:Nat} {held:Bool}
end
theorem pJ {n:Int} {r:Nat} (h:bH k n r=0):B1 k:=by
 unfold bH at h;by_cases c0:(r:Int)<0∨4<(r:Int)
 ·rw[if_pos c0]at h;omega
 ·rw[if_neg c0]at h;by_cases c1:k=1
  ·exact X2
  ·rw[if_neg c1]at h;by_cases c2:k=2
   ·exact X2
   ·rw[if_pos c2]at h;omega
theorem holdE_kind (h:eK k=0):B1 k:=by
 unfold eK at h;by_cases c:1<=k/\k<=4
 ·exact X2
 ·rw[if_neg c]at h;omega
theorem reckE_kind (h:dG k=0):B1 k:=by
 unfold dG at h;by_cases c:1<=k/\k<=6
 ·exact X2
 ·rw[if_neg c]at h;omega
theorem okP_of {m:Int} {l:List TxA} (hE:aN m l=0) (hv:∀x∈l,V64 x):OkP (m,l.map TxA.core):=by
 obtain⟨m1,m2,hC⟩:=aX hE;refine⟨⟨by simp only;omega,by simp only;omega⟩,by simp only[List.length_map];have:=gZ hC;omega,fun c hc=>?_⟩;obtain⟨x,hx,rfl⟩:=List.mem_map.1 hc;obtain⟨k,hk,rfl⟩:=List.getElem_of_mem hx
 have hX:kF l[k]=0:=by
  have:=pK hC k hk;simpa[List.getD,hk]using this
 have hvx:=hv _ hx;generalize l[k]=x at *;obtain⟨ra,ga,sa,rc,gc,sc,rs,gs,ss⟩:=x;have hT:bP rs gs ss=0:=hX;obtain⟨p1,p2,p3,p4⟩:=bR hT;obtain⟨s1,s2,s3,_⟩:=bI _ _ _ p1;obtain⟨q1,q2⟩:=nJ hT
 have hg:∀z∈gs,dZ rs.length z=0:=fun z hz=>by
  obtain⟨i,hi,rfl⟩:=List.getElem_of_mem hz;have:=aW _ p3 i;simpa[List.getD,hi]using this
 have hs:∀z∈ss,dY rs.length z=0:=fun z hz=>by
  obtain⟨i,hi,rfl⟩:=List.getElem_of_mem hz;have:=aW _ p4 i;simpa[List.getD,hi]using this
 refine⟨⟨by simp only[TxA.core];omega,fun z hz=>?_⟩,⟨by simp only[TxA.core];omega,fun z hz=>?_⟩,by simp only[TxA.core];omega,fun z hz=>?_⟩
 ·have:=kL rs q1 z hz;exact X2
 ·have h:=aW _ (hg z hz);have h0:eK z.k=0:=by simpa using h 0
  have h1:bH z.ak z.an rs.length=0:=by simpa using h 1
  have h2:bH z.bk z.bn rs.length=0:=by simpa using h 2
  exact⟨holdE_kind h0,pJ h1,(hvx.1 z hz).1,pJ h2,(hvx.1 z hz).2⟩
 ·have h:=aW _ (hs z hz);have h0:dG z.op=0:=by simpa using h 0
  have h1:bH z.ak z.an rs.length=0:=by simpa using h 1
  have h2:bH z.bk z.bn rs.length=0:=by simpa using h 2
  have hk:=kL _ q2 _ (List.mem_map.2 ⟨z,hz,rfl⟩);exact⟨⟨by omega,by omega⟩,reckE_kind h0,pJ h1,(hvx.2 z hz).1,pJ h2,(hvx.2 z hz).2⟩
end
theorem yz (h:p:=by
 go_wp2_with fail
 refine bodyPost_ret (v:=tu #[ag #[Y I 0,J Q 0 0],bo false]) (by simp[results,results23,go_sem,y0,y1]) rfl ⟨aG (aG HB4.out nr _) nr _,?_⟩;unfold nN;rw[HG.out]):p:=h
theorem txs_of_row {w:World} (h:TxRow C w (J a cl.length c) cl):IsTxs w a cl:=by
 obtain⟨a',c',he,htx⟩:=h.txs;injection he with e1 e2 e3
 subst e1;exact htx
def nN (bs:List Int) (e:Ending) (w':World):Prop:=match mR bs with
 | none=>e=rt (tu #[ag #[Y I 0,J Q 0 0],bo false])
 | some p=>∃(a:Option Addr) (cl:List TxA) (c:Nat),e=rt (tu #[ag #[Y I p.1,J a cl.length c],bo true])/\IsTxs w' a cl/\cl.map TxA.core=p.2
theorem oO (s:ByteArray) (w:World) :
  Calls prog 23 #[sg s] w fun e w'=>Below w.heap.size w w'/\nN (eI s) e w':=by
 obtain⟨i3,hi3,hz30,hz31,hz32⟩:=info_parts info3;obtain⟨i101,hi101,hz1010,hz1011,hz1012⟩:=info_parts info99;obtain⟨i47,hi47,hz470,hz471,hz472⟩:=info_parts info102;obtain⟨W,hWe⟩:=nm (((w.alloc (U #[Y I 0,J Q 0 0] 29)).alloc (U #[sg s] 90)));have HWE:=Hi hWe;have BW:Hid (Below w.heap.size w W):=by subst hWe;exact aA (aA br _) _
 have HSW:Hid (W.heap.size=w.heap.size+2):=by subst hWe;show _=_;simp
 have HR:Hid (RdS (w.heap.size+1) W (eI s)):=by subst hWe;exact⟨s,aF _ _ 90 _ 0 _ sm rfl,aU _ _ 90 _ 0 sm,rfl⟩
 have t0:W.cell? ⟨w.heap.size,0,Q⟩=Y I 0:=by subst hWe;exact aB (aA br _) (aF w _ 29 _ 0 _ rfl rfl)
 have t1:W.cell? ⟨w.heap.size,1,Q⟩=J Q 0 0:=by subst hWe;exact aB (aA br _) (aF w _ 29 _ 1 _ rfl rfl)
 have tf:∀i,W.frozen? ⟨w.heap.size,i,Q⟩=false:=by subst hWe;intro i;exact((aA (n7 (w.alloc (U #[Y I 0,J Q 0 0] 29)).heap.size (w.alloc (U #[Y I 0,J Q 0 0] 29))) (U #[sg s] 90)).frozen (p:=⟨w.heap.size,i,Q⟩) sm).trans sm
 clear hWe;go_enter func23,ntmps23
 go_upto_region 2 with fail
 rw[<-HWE.out];obtain⟨P,hPe⟩:=nm (w.heap.size+1);have hwP:w.heap.size<=P:=om;have hRP:w.heap.size<P:=om;rw[<-hPe]at HR;have hPW:=HR.out.lt;rw[<-hPe];clear HWE hPe
 go_wp2_with fail
 refine(eL P (eI s) _ HR.out).mono ?_;rintro e w1 ⟨rfl,h1,g⟩;have HZP:Hid ((zP _).1=((zN (eI s)).1,(zL zT (zN _).2).1)):=rfl;generalize (zN (eI s)).1=m at *;generalize (zN (eI s)).2=q1 at *;have hRn:w.heap.size≠P:=om;have hWs:w.heap.size<W.heap.size:=om;have t0:=aL g hRn t0;have t1:=aL g hRn t1;have tf:=bD g hRn hWs tf;have B1:Below _ w w1:=⟨g.os.trans BW.out.os,g.tape.trans BW.out.tape,g.output.trans BW.out.output,nh BW.out.size g.size,fun b hb=>(g.block b (nd hb BW.out.size) (fun e=>by injection e with e;omega)).trans (BW.out.block b hb)⟩;have hPD:=nd hPW g.size;obtain⟨V,hVe⟩:=nm (w1.alloc (U #[Y I m,J Q 0 0] 29));have HVE:=Hi hVe
 have HDV:Hid (StD P w1.heap.size w.heap.size w V q1 m (J Q 0 0) []):=by
  subst hVe;exact⟨aA B1 _,h1.alloc _,by simp,by simp,fun i=>by simp,aB (aA br _) t0,aB (aA br _) t1,fun i=>((aA (n7 w1.heap.size w1) (U #[Y I m,J Q 0 0] 29)).frozen (p:=⟨w.heap.size,i,Q⟩) (show w.heap.size<w1.heap.size by omega)).trans (tf i),by simp,zZ _ _⟩
 clear hVe B1 h1 g t0 t1 tf HR
 go_upto_region 3 with fail
 rw[<-HVE.out];clear HVE;generalize w1.heap.size=D at *
 go_wp2_with fail
 refine(eL P q1 _ HDV.out.r).mono ?_;rintro e w2 ⟨rfl,h2,g⟩;have hbN:=tB HDV.out.r.byt;obtain⟨N,hN⟩:∃N:Nat,(zN q1).1=N:=⟨(zN q1).1.toNat,by omega⟩;have HLT:Hid (zL zT q1=zK zT N (zN q1).2):=by show _=_;simp[zL,hN]
 rw[hN];have hNb:N<=255:=om;generalize (zN q1).2=qO at *;have HDO:=dX (HDV.out.gb g h2 hwP hRP hPD);clear g h2 HDV hbN hN;go_wp2
 go_loopw [6,7,8,9,10,11,12] (fun i _ _ _ _ _ _ wr=>∃(n:Nat) (cl:List TxA) (r:List Int) (v:Value),i=Y I n/\cl.length+n<=255/\Hid (zK zT N qO=(cl.map TxA.core++(zK zT n r).1,(zK zT n r).2))/\Hid (StD P D w.heap.size w wr r m v cl)) (fun i _ _ _ _ _ _ _=>(intOf i).toNat)
 case atStart=>exact⟨N,[],qO,_,rfl,by simp;omega,rfl,HDO⟩
 case round=>
  clear HDO;obtain⟨nO,cl,rO,vO,rfl,hcl,hKO,HDO⟩:=hrel
  cases nO with
  | zero=>
   have HEO:=Hi (zK_end hKO.out);clear hKO;obtain⟨a,c,hv,htx⟩:=HDO.out.row.txs;subst hv;have HTX:=dX htx;have d0:=HDO.out.d0;have d1:=HDO.out.d1
   have HZ:Hid ((zP (eI s)).1=(m,cl.map TxA.core)):=by
    show _=_;rw[HZP.out,HLT.out,HEO.out]
   have HDK:Hid (mR (eI s)=if aN m cl=0/\plB m cl=eI s then M (m,cl.map TxA.core) else Q):=by
    show _=_;unfold mR;rw[HZ.out,kW,<-plB_core]
   clear htx HZP HLT HEO;by_cases hE:aN m cl=0
   ·have CC:Hid (Kr 48 #[ag #[Y I m,J a cl.length c]] wr (Y I 0)):=by
     have:=jN a c cl m wr HTX.out;rw[hE]at this;exact this
    have HPE:=Hi hE;clear hE
    go_wp2_with fail
    refine CC.out.mono ?_;rintro e w3 ⟨rfl,hb3⟩;have d0:=aB hb3 d0;have d1:=aB hb3 d1;have B3:=dX hb3;clear hb3 CC
    go_wp2_with fail
    refine(docBytes_any a c cl m _ (HTX.out.below B3.out) HPE.out).mono ?_;rintro e w4 ⟨S,rfl,hS,hb4⟩;have hbb:=aC B3.out hb4;have HB4:=Hi (aC HDO.out.b hbb);have d0:=aB hb4 d0;have d1:=aB hb4 d1;have r0:=aB hbb HDO.out.r0;have r1:=aB hbb HDO.out.r1;have rf:=fun i=>(hbb.frozen (p:=⟨w.heap.size,i,Q⟩) (show w.heap.size<wr.heap.size by have:=HDO.out.lt;omega)).trans (HDO.out.rf i)
    have HDR:=dX (HDO.out.row.below hbb);have hRD:w.heap.size<D+1:=om;have HSL:=dX hS;clear hb4 hbb hS B3;by_cases hq:eI S=eI s
    ·have hSs:=lst_eq hq
     have HG:Hid (mR (eI s)=M (m,cl.map TxA.core)):=by
      show _=_;rw[HDK.out,if_pos ⟨HPE.out,HSL.out.symm.trans hq⟩]
     clear hq;subst hSs;obtain⟨y0,y1⟩:=yY (Y I m) (J a cl.length c) r0 r1
     go_wp2_with fail
     refine bodyPost_ret (v:=tu #[ag #[Y I m,J a cl.length c],bo true]) (by simp[results,results23,go_sem,y0,y1]) rfl ⟨aG (aG HB4.out nr _) nr _,?_⟩;unfold nN;rw[HG.out];exact⟨a,cl,c,rfl,txs_of_row (((HDR.out.set (i:=0) (u:=Y I m) hRD).set (i:=1) (u:=J a cl.length c) hRD)),rfl⟩
    ·have hq2:¬S.toList=s.toList:=by
      intro e;have:=lst_iff S s;rw[e]at this;simp[hq]at this
     have hq3:(S.toList==s.toList)=false:=by rw[lst_iff];simp[hq]
     have HG:Hid (mR (eI s)=Q):=by
      show _=_;rw[HDK.out,if_neg];rintro ⟨_,h⟩;exact hq (HSL.out.trans h)
     clear hq;obtain⟨y0,y1⟩:=yY (Y I 0) (J Q 0 0) r0 r1;exact yz
   ·have CC:=dX (jN a c cl m wr HTX.out)
    have HG:Hid (mR (eI s)=Q):=by
     show _=_;rw[HDK.out,if_neg];rintro ⟨h,_⟩;exact hE h
    have hE2:(aN m cl != 0)=true:=by simpa using hE
    clear hE HDK;generalize aN m cl=E at *
    go_wp2_with fail
    refine CC.out.mono ?_;rintro e w3 ⟨rfl,hb3⟩;have HB4:=Hi (aC HDO.out.b hb3);have r0:=aB hb3 HDO.out.r0;have r1:=aB hb3 HDO.out.r1;have rf:=fun i=>(hb3.frozen (p:=⟨w.heap.size,i,Q⟩) (show w.heap.size<wr.heap.size by have:=HDO.out.lt;omega)).trans (HDO.out.rf i)
    obtain⟨y0,y1⟩:=yY (Y I 0) (J Q 0 0) r0 r1;clear hb3 CC;exact yz
  | succ nO=>
   go_upto_region 7 with fail
   obtain⟨wr0,hw0⟩:=nm (wr);obtain⟨X,hXe⟩:=nm (wr.heap.size);obtain⟨VX,hVX⟩:=nm (wr.alloc (U #[J Q 0 0,J Q 0 0,J Q 0 0] 95));have hX0:Hid (wr0.heap.size<=X):=by subst hw0 hXe;exact nr
   have hX0':Hid (X<=wr0.heap.size):=by subst hw0 hXe;exact nr
   have hDX:D<X:=by rw[hXe];exact HDO.out.lt
   have RX:Hid (RdS P VX rO):=by subst hVX;exact HDO.out.r.alloc _
   have GX:Hid (wr0.grownBy VX (M P)):=by subst hw0 hVX;exact lb _ _ _
   have x0:VX.cell? ⟨X,0,Q⟩=J Q 0 0:=by subst hXe hVX;simp
   have x1:VX.cell? ⟨X,1,Q⟩=J Q 0 0:=by subst hXe hVX;simp
   have x2:VX.cell? ⟨X,2,Q⟩=J Q 0 0:=by subst hXe hVX;simp
   have xf:∀i,VX.frozen? ⟨X,i,Q⟩=false:=by subst hXe hVX;intro i;simp
   have hXV:X<VX.heap.size:=by subst hXe hVX;simp
   rw[<-hVX,<-hXe];rw[<-hw0]at HDO;have hXP:X≠P:=om;clear hVX hXe hw0
   go_wp2_with fail
   refine(eL P rO _ RX.out).mono ?_;rintro e z2 ⟨rfl,h3,g⟩;have hbn:=tB RX.out.byt;obtain⟨N2,hN⟩:∃N:Nat,(zN rO).1=N:=⟨(zN rO).1.toNat,by omega⟩;have HL2:Hid (zL zN rO=zK zN N2 (zN rO).2):=by show _=_;simp[zL,hN]
   rw[hN];have hNb:N2<=255:=om;generalize (zN rO).2=q2 at *;have hX2:=nd hXV g.size;have hP2:P<z2.heap.size:=om;have GB2:=Hi (GX.out.trans g);have HS:Hid (St3 P X z2 z2 q2 _ _ _ 3 1 _ 0 []):=⟨Kep.refl _ _ _,h3,aL g hXP x0,aL g hXP x1,aL g hXP x2,bD g hXP hXV xf,hX2,n8 _ _ _ _⟩;clear h3 g hbn hN x0 x1 x2 xf RX GX;go_wp2
   go_loopw [8] (fun i wr=>∃(n:Nat) (l:List Int) (r:List Int) (v:Value),i=Y I n/\l.length+n<=255/\Hid (zK zN N2 q2=(l++(zK zN n r).1,(zK zN n r).2))/\Hid (St3 P X z2 wr r v (J Q 0 0) (J Q 0 0) 3 1 v l.length (l.map (Y I)))) (fun i _=>(intOf i).toNat)
   case atStart=>exact⟨N2,[],q2,_,rfl,by simp;omega,rfl,HS⟩
   case round=>
    clear HS;obtain⟨n2,l2,r2,v2,rfl,hln2,hK2,HS⟩:=hrel;have x0:=HS.out.c0;have x1:=HS.out.c1;have x2:=HS.out.c2;have xf:=HS.out.f
    cases n2 with
    | zero=>
     have HE2:=Hi (zK_end hK2.out);clear hK2;obtain⟨a1,k1,hv,hi⟩:=gF HS.out.row;subst hv;have hin:=pA HS.out.row;have hsz:=HS.out.k.size;have hXs:=hX2;have HWa1:Hid (InBlocks (X+1) _ a1/\_):=⟨hin.1.widen hXs nr,hin.2⟩;have GB':=Hi (HS.out.k.gb GB2.out hX0.out);have HIa1:=dX hi;have HLl2:Hid (l2.length<=255):=by show _<=_;omega
     clear hin hi hsz hXs
     go_wp2_with fail
     refine(eL P r2 _ HS.out.r).mono ?_;rintro e z3 ⟨rfl,h3,g⟩;have hbn:=tB HS.out.r.byt;obtain⟨N3,hN⟩:∃N:Nat,(zN r2).1=N:=⟨(zN r2).1.toNat,by omega⟩;have HL3:Hid (zL zG r2=zK zG N3 (zN r2).2):=by show _=_;simp[zL,hN]
     rw[hN];have hNb:N3<=255:=om;generalize (zN r2).2=q3 at *;have HC:=HS.out.call g h3 hXP hP2;have HS':Hid (St3 P X z3 z3 q3 _ _ _ 99 5 _ 0 []):=⟨Kep.refl _ _ _,h3,HC.c0,HC.c1,HC.c2,HC.f,HC.lt,n8 _ _ _ _⟩;have HIa1:=dX (rU g HIa1.out HWa1.out.1 om);have HWa1:Hid (InBlocks _ _ a1/\_):=⟨HWa1.out.1.widen nr g.size,HWa1.out.2⟩;have GB3:=Hi (GB'.out.trans g);have hX3:=HC.lt;have hP3:P<z3.heap.size:=om;clear HC h3 g hbn hN HS GB' x0 x1 x2 xf;have HS:=HS';clear HS';go_wp2
     go_loopw [9,10] (fun i _ wr=>∃(n:Nat) (l:List Gd) (r:List Int) (v:Value),i=Y I n/\l.length+n<=255/\Hid (zK zG N3 q3=(l++(zK zG n r).1,(zK zG n r).2))/\Hid (St3 P X z3 wr r (J a1 l2.length k1) v (J Q 0 0) 99 5 v l.length (mP l))) (fun i _ _=>(intOf i).toNat)
     case atStart=>exact⟨N3,[],q3,_,rfl,by simp;omega,rfl,HS⟩
     case round=>
      clear HS;obtain⟨n3,l3,r3,v3,rfl,hln3,hK3,HS⟩:=hrel;have x0:=HS.out.c0;have x1:=HS.out.c1;have x2:=HS.out.c2;have xf:=HS.out.f
      cases n3 with
      | zero=>
       have HE3:=Hi (zK_end hK3.out);clear hK3;obtain⟨a2,k2,hv,hi⟩:=xR HS.out.row;subst hv;have hin:=pA HS.out.row;have hsz:=HS.out.k.size;have hXs:=hX3;have HWa2:Hid (InBlocks (X+1) _ a2/\_):=⟨hin.1.widen hXs nr,hin.2⟩;have GB':=Hi (HS.out.k.gb GB3.out hX0.out);have HIa2:=dX hi;have HIa1:=dX (HS.out.k.ints HIa1.out HWa1.out.1 om (nk _));have HWa1:Hid (InBlocks _ _ a1/\_):=⟨HWa1.out.1.widen nr hsz,HWa1.out.2⟩;have HLl3:Hid (l3.length<=255):=by show _<=_;omega
       clear hin hi hsz hXs
       go_wp2_with fail
       refine(eL P r3 _ HS.out.r).mono ?_;rintro e z4 ⟨rfl,h3,g⟩;have hbn:=tB HS.out.r.byt;obtain⟨N4,hN⟩:∃N:Nat,(zN r3).1=N:=⟨(zN r3).1.toNat,by omega⟩;have HL4:Hid (zL zS r3=zK zS N4 (zN r3).2):=by show _=_;simp[zL,hN]
       rw[hN];have hNb:N4<=255:=om;generalize (zN r3).2=q5 at *;have HC:=HS.out.call g h3 hXP hP3;have HS':Hid (St3 P X z4 z4 q5 _ _ _ 102 6 _ 0 []):=⟨Kep.refl _ _ _,h3,HC.c0,HC.c1,HC.c2,HC.f,HC.lt,n8 _ _ _ _⟩;have HIa2:=dX (gb_gs g HIa2.out HWa2.out.1 om);have HWa2:Hid (InBlocks _ _ a2/\_):=⟨HWa2.out.1.widen nr g.size,HWa2.out.2⟩;have HIa1:=dX (rU g HIa1.out HWa1.out.1 om);have HWa1:Hid (InBlocks _ _ a1/\_):=⟨HWa1.out.1.widen nr g.size,HWa1.out.2⟩;have GB4:=Hi (GB'.out.trans g);have hX4:=HC.lt;have hP4:P<z4.heap.size:=om;clear HC h3 g hbn hN HS GB' x0 x1 x2 xf;have HS:=HS';clear HS';go_wp2
       go_loopw [11,12] (fun i _ wr=>∃(n:Nat) (l:List St) (r:List Int) (v:Value),i=Y I n/\l.length+n<=255/\Hid (zK zS N4 q5=(l++(zK zS n r).1,(zK zS n r).2))/\Hid (St3 P X z4 wr r (J a1 l2.length k1) (J a2 l3.length k2) v 102 6 v l.length (iD l))) (fun i _ _=>(intOf i).toNat)
       case atStart=>exact⟨N4,[],q5,_,rfl,by simp;omega,rfl,HS⟩
       case round=>
        clear HS;obtain⟨n4,l4,r4,v4,rfl,hln4,hK4,HS⟩:=hrel;have x0:=HS.out.c0;have x1:=HS.out.c1;have x2:=HS.out.c2;have xf:=HS.out.f
        cases n4 with
        | zero=>
         have HE4:=Hi (zK_end hK4.out);clear hK4;obtain⟨a3,k3,hv,hi⟩:=wL HS.out.row;subst hv;have hin:=pA HS.out.row;have hsz:=HS.out.k.size;have HWa3:InBlocks (X+1) _ a3/\_:=⟨hin.1.widen hX4 nr,hin.2⟩;have GB':=HS.out.k.gb GB4.out hX0.out
         have HX:Hid (IsX wr ⟨a1,a2,a3,k1,k2,k3,l2,l3,l4⟩):=by
          exact⟨⟨HS.out.k.ints HIa1.out HWa1.out.1 om (nk _),HS.out.k.gs HIa2.out HWa2.out.1 om (nk _),hi,by simp only;unfold maxLen;omega,by simp only;unfold maxLen;omega,by simp only;unfold maxLen;omega⟩,HWa1.out.2,HWa2.out.2,HWa3.2⟩
         have HXB:Hid (XB _ _ ⟨a1,a2,a3,k1,k2,k3,l2,l3,l4⟩):=⟨HWa1.out.1.widen nr hsz,HWa2.out.1.widen nr hsz,HWa3.1⟩;have HDW:=dX (HDO.out.gb GB' HS.out.r hwP hRP hPD);have HM:Hid (∀o,IsX (wr.alloc o) ⟨a1,a2,a3,k1,k2,k3,l2,l3,l4⟩/\XIn (D+1) (wr.alloc o).heap.size vO ⟨a1,a2,a3,k1,k2,k3,l2,l3,l4⟩):=fun o=>⟨HX.out.below (aA br _),(HXB.out.xin om (fun j hj=>by have:=(HDO.out.row.1.lt j hj).2;have:=hX0.out;omega)).widen nr sm⟩
         have HT:Hid (zT rO=((l2,l3,l4),r4)):=by
          show _=_;simp only[zT,HL2.out,HE2.out,HL3.out,HE3.out,HL4.out,HE4.out]
         have HKT:Hid (zK zT N qO=((cl++[(⟨a1,a2,a3,k1,k2,k3,l2,l3,l4⟩:TxA)]).map TxA.core++(zK zT nO r4).1,(zK zT nO r4).2)):=by
          have h:=vP hKO.out;rw[HT.out]at h;show _=_;rw[h];simp[TxA.core]
         have d0:=HDW.out.d0;have d1:=HDW.out.d1;have df:=HDW.out.df;have hgD:∀{o:Obj} {w5:World},(wr.alloc o).grownBy w5 _->w5.cell? _=M vO:=fun {o w5} hg=>hg.cell (aB (aA br _) HDW.out.d1) (fun e=>by have:=(HDW.out.row.1.lt D e.symm).1;omega)
         have hgF:∀{o:Obj} {w5:World},(wr.alloc o).grownBy w5 _->∀i,w5.frozen? _=false:=fun {o w5} hg=>rV hg (fun e=>by have:=(HDW.out.row.1.lt D e.symm).1;omega) (by have:=HDW.out.lt;simp;omega) (fun i=>((aA (n7 wr.heap.size wr) o).frozen (p:=⟨D,i,Q⟩) HDW.out.lt).trans (HDW.out.df i))
         clear hin hi hsz GB' HS HIa1 HIa2 HWa1 HWa2 HWa3 HX HXB
         go_wp2_with (first | (at_builtin;refine lG rfl _ _ rfl (D+1) vO cl rfl (HDW.out.row.below (aA br _)) _ ⟨a1,a2,a3,k1,k2,k3,l2,l3,l4⟩ 1 rfl (fV wr [J a1 l2.length k1,J a2 l3.length k2,J a3 l4.length k3] 95 _ rfl) (HM.out _) om (by have:=HDW.out.lt;simp;omega) ?_;intro v' w5 hown' hgrow;obtain⟨g5,cap5,hv5,_,_⟩:=hown'.1.form sm;subst hv5;have HO5:=dX hown';have HG5:=dX hgrow;clear hown' hgrow;have d1:=hgD HG5.out;have df:=hgF HG5.out) | go_in)
         have HF:=dX (StD.app (HDW.out.gb (lb _ _ _) (HDW.out.r.alloc _) hwP hRP hPD) HG5.out HO5.out hwP hRP hPD);have hlen:(cl++[(⟨a1,a2,a3,k1,k2,k3,l2,l3,l4⟩:TxA)]).length=cl.length+1:=sm;rw[hlen]at HF;clear HO5 HG5 HDW d0 d1 df hgD hgF hlen;go_roundw
         case rel=>exact⟨nO,cl++[⟨a1,a2,a3,k1,k2,k3,l2,l3,l4⟩],r4,J (M ⟨g5,0,Q⟩) (cl.length+1) cap5,by go_num,by simp;omega,HKT,HF⟩
         case measure=>simp[intOf]
        | succ n4=>
         have hvb:=Hi (fun j hj=>(HS.out.row.lt j hj).2);have HKZ:Hid (letI Z:=zO (zO (zN (zN r4).2).2).2;zK zS N4 q5=((l4++[(⟨(zN r4).1,(zN (zN r4).2).1,(zO (zN (zN r4).2).2).1.1,(zO (zN (zN r4).2).2).1.2,Z.1.1,Z.1.2⟩:St)])++(zK zS n4 Z.2).1,(zK zS n4 Z.2).2)):=vP hK4.out;clear hK4
         go_wp2_with fail
         refine(eL P r4 _ HS.out.r).mono ?_;rintro e w3 ⟨rfl,h3,g⟩;generalize (zN r4).1=kd at *;generalize (zN r4).2=q1 at *;have HS3:=dX (HS.out.call g h3 hXP hP4);have hvG:=Hi (fun j hj=>nd (hvb.out j hj) g.size);have hGw:=nh HS.out.k.size g.size;clear h3 g HS hvb x0 x1 x2 xf;obtain⟨VG,hVG⟩:=nm (w3.alloc (U #[Y I kd,Y I 0,Y I 0,Y I 0,Y I 0,Y I 0] 102));have HVG:=Hi hVG;have HSG:=dX (show St3 _ _ _ VG _ _ _ _ _ _ _ _ _ by subst hVG;exact HS3.out.alloc _);have hGV:Hid (w3.heap.size<VG.heap.size):=by subst hVG;show _<_;simp
         have g0:VG.cell? ⟨w3.heap.size,0,Q⟩=Y I kd:=by subst hVG;simp
         have g1:VG.cell? ⟨w3.heap.size,1,Q⟩=Y I 0:=by subst hVG;simp
         have g2:VG.cell? ⟨w3.heap.size,2,Q⟩=Y I 0:=by subst hVG;simp
         have g3:VG.cell? ⟨w3.heap.size,3,Q⟩=Y I 0:=by subst hVG;simp
         have g4:VG.cell? ⟨w3.heap.size,4,Q⟩=Y I 0:=by subst hVG;simp
         have g5:VG.cell? ⟨w3.heap.size,5,Q⟩=Y I 0:=by subst hVG;simp
         have gf:∀i,VG.frozen? ⟨w3.heap.size,i,Q⟩=false:=by subst hVG;intro i;simp
         have hGP:w3.heap.size≠P:=om;clear hVG HS3
         go_upto_region 22 with fail
         rw[<-HVG.out];clear HVG;generalize w3.heap.size=G at *
         go_wp2_with fail
         refine(eL P q1 _ HSG.out.r).mono ?_;rintro e w4 ⟨rfl,h4,g⟩;generalize (zN q1).1=op at *;generalize (zN q1).2=q2 at *;have HS4:=dX (HSG.out.call g h4 hXP hP4);have g0:=aL g hGP g0;have g1:=aL g hGP g1;have g2:=aL g hGP g2;have g3:=aL g hGP g3;have g4:=aL g hGP g4;have g5:=aL g hGP g5;have gf:=bD g hGP hGV.out gf;have hGV4:=Hi (nd hGV.out g.size);clear h4 g HSG hGV
         go_upto_region 23 with fail
         obtain⟨V3,hV⟩:=nm (w4.setCell ⟨G,1,Q⟩ (Y I op));have HSG:=dX (show St3 _ _ _ V3 _ _ _ _ _ _ _ _ _ by subst hV;exact HS4.out.set hGw hX4 hP4 hvG.out);have hGV:Hid (G<V3.heap.size):=by subst hV;show _<_;simpa using hGV4.out
         have k1:V3.cell? ⟨G,1,Q⟩=Y I op:=by subst hV;exact aK g1
         have k0:=aE (v:=Y I op) (j:=1) dc g0;rw[<-hV]at k0;have k2:=aE (v:=Y I op) (j:=1) dc g2;rw[<-hV]at k2;have k3:=aE (v:=Y I op) (j:=1) dc g3;rw[<-hV]at k3;have k4:=aE (v:=Y I op) (j:=1) dc g4;rw[<-hV]at k4;have k5:=aE (v:=Y I op) (j:=1) dc g5;rw[<-hV]at k5;have kf:∀i,V3.frozen? ⟨G,i,Q⟩=false:=by subst hV;intro i;exact(iP _ _ _ _ _ _).trans (gf i)
         clear g0 g1 g2 g3 g4 g5 gf HS4 hGV4;rw[<-hV];clear hV;have g0:=k0;have g1:=k1;have g2:=k2;have g3:=k3;have g4:=k4;have g5:=k5;have gf:=kf;clear kf k0 k1 k2 k3 k4 k5
         go_wp2_with fail
         refine(oV P q2 _ HSG.out.r).mono ?_;rintro e w4 ⟨rfl,h4,g⟩;generalize (zO q2).1.1=ak at *;generalize (zO q2).1.2=an at *;generalize (zO q2).2=q6 at *;have HS4:=dX (HSG.out.call g h4 hXP hP4);have g0:=aL g hGP g0;have g1:=aL g hGP g1;have g2:=aL g hGP g2;have g3:=aL g hGP g3;have g4:=aL g hGP g4;have g5:=aL g hGP g5;have gf:=bD g hGP hGV.out gf;have hGV4:=Hi (nd hGV.out g.size);clear h4 g HSG hGV
         go_upto_region 24 with fail
         obtain⟨V5,hV⟩:=nm ((w4.setCell ⟨G,2,Q⟩ (Y I ak)).setCell ⟨G,3,Q⟩ (Y I an));have HSG:=dX (show St3 _ _ _ V5 _ _ _ _ _ _ _ _ _ by subst hV;exact(HS4.out.set hGw hX4 hP4 hvG.out).set hGw hX4 hP4 hvG.out);have hGV:Hid (G<V5.heap.size):=by subst hV;show _<_;simpa using hGV4.out
         have k0:=(show _ from by exact(aE (w:=w4.setCell ⟨G,2,Q⟩ (Y I ak)) (v:=Y I an) (j:=3) dc (aE (v:=Y I ak) (j:=2) dc g0)));rw[<-hV]at k0;have k1:=(show _ from by exact(aE (w:=w4.setCell ⟨G,2,Q⟩ (Y I ak)) (v:=Y I an) (j:=3) dc (aE (v:=Y I ak) (j:=2) dc g1)));rw[<-hV]at k1;have k2:V5.cell? ⟨G,2,Q⟩=Y I ak:=by subst hV;exact aE dc (aK g2)
         have k3:V5.cell? ⟨G,3,Q⟩=Y I an:=by subst hV;exact aK (aE dc g3)
         have k4:=(show _ from by exact(aE (w:=w4.setCell ⟨G,2,Q⟩ (Y I ak)) (v:=Y I an) (j:=3) dc (aE (v:=Y I ak) (j:=2) dc g4)));rw[<-hV]at k4;have k5:=(show _ from by exact(aE (w:=w4.setCell ⟨G,2,Q⟩ (Y I ak)) (v:=Y I an) (j:=3) dc (aE (v:=Y I ak) (j:=2) dc g5)));rw[<-hV]at k5;have kf:∀i,V5.frozen? ⟨G,i,Q⟩=false:=by subst hV;intro i;exact(iP _ _ _ _ _ _).trans ((iP _ _ _ _ _ _).trans (gf i))
         clear g0 g1 g2 g3 g4 g5 gf HS4 hGV4;rw[<-hV];clear hV;have g0:=k0;have g1:=k1;have g2:=k2;have g3:=k3;have g4:=k4;have g5:=k5;have gf:=kf;clear kf k0 k1 k2 k3 k4 k5
         go_wp2_with fail
         refine(oV P q6 _ HSG.out.r).mono ?_;rintro e w4 ⟨rfl,h4,g⟩;generalize (zO q6).1.1=bk at *;generalize (zO q6).1.2=bn at *;generalize (zO q6).2=q7 at *;have HS4:=dX (HSG.out.call g h4 hXP hP4);have g0:=aL g hGP g0;have g1:=aL g hGP g1;have g2:=aL g hGP g2;have g3:=aL g hGP g3;have g4:=aL g hGP g4;have g5:=aL g hGP g5;have gf:=bD g hGP hGV.out gf;have hGV4:=Hi (nd hGV.out g.size);clear h4 g HSG hGV
         go_upto_region 25 with fail
         obtain⟨V6,hV⟩:=nm ((w4.setCell ⟨G,4,Q⟩ (Y I bk)).setCell ⟨G,5,Q⟩ (Y I bn));have HSG:=dX (show St3 _ _ _ V6 _ _ _ _ _ _ _ _ _ by subst hV;exact(HS4.out.set hGw hX4 hP4 hvG.out).set hGw hX4 hP4 hvG.out);have hGV:Hid (G<V6.heap.size):=by subst hV;show _<_;simpa using hGV4.out
         have k0:=(show _ from by exact(aE (w:=w4.setCell ⟨G,4,Q⟩ (Y I bk)) (v:=Y I bn) (j:=5) dc (aE (v:=Y I bk) (j:=4) dc g0)));rw[<-hV]at k0;have k1:=(show _ from by exact(aE (w:=w4.setCell ⟨G,4,Q⟩ (Y I bk)) (v:=Y I bn) (j:=5) dc (aE (v:=Y I bk) (j:=4) dc g1)));rw[<-hV]at k1;have k2:=(show _ from by exact(aE (w:=w4.setCell ⟨G,4,Q⟩ (Y I bk)) (v:=Y I bn) (j:=5) dc (aE (v:=Y I bk) (j:=4) dc g2)));rw[<-hV]at k2;have k3:=(show _ from by exact(aE (w:=w4.setCell ⟨G,4,Q⟩ (Y I bk)) (v:=Y I bn) (j:=5) dc (aE (v:=Y I bk) (j:=4) dc g3)));rw[<-hV]at k3;have k4:V6.cell? ⟨G,4,Q⟩=Y I bk:=by subst hV;exact aE dc (aK g4)
         have k5:V6.cell? ⟨G,5,Q⟩=Y I bn:=by subst hV;exact aK (aE dc g5)
         have kf:∀i,V6.frozen? ⟨G,i,Q⟩=false:=by subst hV;intro i;exact(iP _ _ _ _ _ _).trans ((iP _ _ _ _ _ _).trans (gf i))
         clear g0 g1 g2 g3 g4 g5 gf HS4 hGV4;rw[<-hV];clear hV;have g0:=k0;have g1:=k1;have g2:=k2;have g3:=k3;have g4:=k4;have g5:=k5;have gf:=kf;clear kf k0 k1 k2 k3 k4 k5;have x0:=HSG.out.c0;have x1:=HSG.out.c1;have x2:=HSG.out.c2;have xf:=HSG.out.f;have HS5:=HSG;clear HSG
         go_wp2_with (first | (at_builtin;refine wpList_append_own _ rfl _ _ 93 rfl z4.heap.size 102 i47 (ag #[Y I 0,Y I 0,Y I 0,Y I 0,Y I 0,Y I 0]) 6 48 underlying93 hi47 hz470 hz471 hz472 rfl dc _ _ _ rfl (HS5.out.row.alloc _) _ 1 1 [Y I kd,Y I op,Y I ak,Y I an,Y I bk,Y I bn] rfl rfl (fV V6 [Y I kd,Y I op,Y I ak,Y I an,Y I bk,Y I bn] 102 _ rfl) (wX ⟨kd,op,ak,an,bk,bn⟩) (by unfold maxLen;omega) om (by have:=HS5.out.k.size;simp;omega) ?_;intro v' w5 hown' hgrow _;obtain⟨g5,cap5,hv5,_,_⟩:=hown'.form (wt _);subst hv5;have HO5:=dX hown';have HG5:=dX hgrow;clear hown' hgrow;have x0:=((HS5.out.alloc _).app HG5.out HO5.out hX4 hP4).c0;have x1:=((HS5.out.alloc _).app HG5.out HO5.out hX4 hP4).c1;have x2:=((HS5.out.alloc _).app HG5.out HO5.out hX4 hP4).c2;have xf:=((HS5.out.alloc _).app HG5.out HO5.out hX4 hP4).f) | go_in)
         have HS6:=dX ((HS5.out.alloc _).app HG5.out HO5.out hX4 hP4);clear HO5 HG5 HS5;go_roundw
         case rel=>
          refine⟨n4,l4++[⟨kd,op,ak,an,bk,bn⟩],q7,J (M ⟨g5,0,Q⟩) (l4.length+1) cap5,by go_num,by simp;omega,HKZ,?_⟩;show St3 _ _ _ _ _ _ _ _ _ _ _ _ _;rw[nj,xW];exact HS6.out.set2 hX4 hXP
         case measure=>simp[intOf]
      | succ n3=>
       have hvb:=Hi (fun j hj=>(HS.out.row.lt j hj).2);have HKZ:Hid (letI Z:=zK zG n3 (zO (zO (zN r3).2).2).2;zK zG N3 q3=((l3++[(⟨(zN r3).1,(zO (zN r3).2).1.1,(zO (zN r3).2).1.2,(zO (zO (zN r3).2).2).1.1,(zO (zO (zN r3).2).2).1.2⟩:Gd)])++Z.1,Z.2)):=vP hK3.out;clear hK3
       go_wp2_with fail
       refine(eL P r3 _ HS.out.r).mono ?_;rintro e w3 ⟨rfl,h3,g⟩;generalize (zN r3).1=kd at *;generalize (zN r3).2=q1 at *;have HS3:=dX (HS.out.call g h3 hXP hP3);have hvG:=Hi (fun j hj=>nd (hvb.out j hj) g.size);have hGw:=nh HS.out.k.size g.size;clear h3 g HS hvb x0 x1 x2 xf;obtain⟨VG,hVG⟩:=nm (w3.alloc (U #[Y I kd,Y I 0,Y I 0,Y I 0,Y I 0] 99));have HVG:=Hi hVG;have HSG:=dX (show St3 _ _ _ VG _ _ _ _ _ _ _ _ _ by subst hVG;exact HS3.out.alloc _);have hGV:Hid (w3.heap.size<VG.heap.size):=by subst hVG;show _<_;simp
       have g0:VG.cell? ⟨w3.heap.size,0,Q⟩=Y I kd:=by subst hVG;simp
       have g1:VG.cell? ⟨w3.heap.size,1,Q⟩=Y I 0:=by subst hVG;simp
       have g2:VG.cell? ⟨w3.heap.size,2,Q⟩=Y I 0:=by subst hVG;simp
       have g3:VG.cell? ⟨w3.heap.size,3,Q⟩=Y I 0:=by subst hVG;simp
       have g4:VG.cell? ⟨w3.heap.size,4,Q⟩=Y I 0:=by subst hVG;simp
       have gf:∀i,VG.frozen? ⟨w3.heap.size,i,Q⟩=false:=by subst hVG;intro i;simp
       have hGP:w3.heap.size≠P:=om;clear hVG HS3
       go_upto_region 15 with fail
       rw[<-HVG.out];clear HVG;generalize w3.heap.size=G at *
       go_wp2_with fail
       refine(oV P q1 _ HSG.out.r).mono ?_;rintro e w4 ⟨rfl,h4,g⟩;generalize (zO q1).1.1=ak at *;generalize (zO q1).1.2=an at *;generalize (zO q1).2=q2 at *;have HS4:=dX (HSG.out.call g h4 hXP hP3);have g0:=aL g hGP g0;have g1:=aL g hGP g1;have g2:=aL g hGP g2;have g3:=aL g hGP g3;have g4:=aL g hGP g4;have gf:=bD g hGP hGV.out gf;have hGV4:=Hi (nd hGV.out g.size);clear h4 g HSG hGV
       go_upto_region 16 with fail
       obtain⟨V4,hV⟩:=nm ((w4.setCell ⟨G,1,Q⟩ (Y I ak)).setCell ⟨G,2,Q⟩ (Y I an));have HSG:=dX (show St3 _ _ _ V4 _ _ _ _ _ _ _ _ _ by subst hV;exact(HS4.out.set hGw hX3 hP3 hvG.out).set hGw hX3 hP3 hvG.out);have hGV:Hid (G<V4.heap.size):=by subst hV;show _<_;simpa using hGV4.out
       have k0:=(show _ from by exact(aE (w:=w4.setCell ⟨G,1,Q⟩ (Y I ak)) (v:=Y I an) (j:=2) dc (aE (v:=Y I ak) (j:=1) dc g0)));rw[<-hV]at k0;have k1:V4.cell? ⟨G,1,Q⟩=Y I ak:=by subst hV;exact aE dc (aK g1)
       have k2:V4.cell? ⟨G,2,Q⟩=Y I an:=by subst hV;exact aK (aE dc g2)
       have k3:=(show _ from by exact(aE (w:=w4.setCell ⟨G,1,Q⟩ (Y I ak)) (v:=Y I an) (j:=2) dc (aE (v:=Y I ak) (j:=1) dc g3)));rw[<-hV]at k3;have k4:=(show _ from by exact(aE (w:=w4.setCell ⟨G,1,Q⟩ (Y I ak)) (v:=Y I an) (j:=2) dc (aE (v:=Y I ak) (j:=1) dc g4)));rw[<-hV]at k4;have kf:∀i,V4.frozen? ⟨G,i,Q⟩=false:=by subst hV;intro i;exact(iP _ _ _ _ _ _).trans ((iP _ _ _ _ _ _).trans (gf i))
       clear g0 g1 g2 g3 g4 gf HS4 hGV4;rw[<-hV];clear hV;have g0:=k0;have g1:=k1;have g2:=k2;have g3:=k3;have g4:=k4;have gf:=kf;clear kf k0 k1 k2 k3 k4
       go_wp2_with fail
       refine(oV P q2 _ HSG.out.r).mono ?_;rintro e w4 ⟨rfl,h4,g⟩;generalize (zO q2).1.1=bk at *;generalize (zO q2).1.2=bn at *;generalize (zO q2).2=q4 at *;have HS4:=dX (HSG.out.call g h4 hXP hP3);have g0:=aL g hGP g0;have g1:=aL g hGP g1;have g2:=aL g hGP g2;have g3:=aL g hGP g3;have g4:=aL g hGP g4;have gf:=bD g hGP hGV.out gf;have hGV4:=Hi (nd hGV.out g.size);clear h4 g HSG hGV
       go_upto_region 17 with fail
       obtain⟨V6,hV⟩:=nm ((w4.setCell ⟨G,3,Q⟩ (Y I bk)).setCell ⟨G,4,Q⟩ (Y I bn));have HSG:=dX (show St3 _ _ _ V6 _ _ _ _ _ _ _ _ _ by subst hV;exact(HS4.out.set hGw hX3 hP3 hvG.out).set hGw hX3 hP3 hvG.out);have hGV:Hid (G<V6.heap.size):=by subst hV;show _<_;simpa using hGV4.out
       have k0:=(show _ from by exact(aE (w:=w4.setCell ⟨G,3,Q⟩ (Y I bk)) (v:=Y I bn) (j:=4) dc (aE (v:=Y I bk) (j:=3) dc g0)));rw[<-hV]at k0;have k1:=(show _ from by exact(aE (w:=w4.setCell ⟨G,3,Q⟩ (Y I bk)) (v:=Y I bn) (j:=4) dc (aE (v:=Y I bk) (j:=3) dc g1)));rw[<-hV]at k1;have k2:=(show _ from by exact(aE (w:=w4.setCell ⟨G,3,Q⟩ (Y I bk)) (v:=Y I bn) (j:=4) dc (aE (v:=Y I bk) (j:=3) dc g2)));rw[<-hV]at k2;have k3:V6.cell? ⟨G,3,Q⟩=Y I bk:=by subst hV;exact aE dc (aK g3)
       have k4:V6.cell? ⟨G,4,Q⟩=Y I bn:=by subst hV;exact aK (aE dc g4)
       have kf:∀i,V6.frozen? ⟨G,i,Q⟩=false:=by subst hV;intro i;exact(iP _ _ _ _ _ _).trans ((iP _ _ _ _ _ _).trans (gf i))
       clear g0 g1 g2 g3 g4 gf HS4 hGV4;rw[<-hV];clear hV;have g0:=k0;have g1:=k1;have g2:=k2;have g3:=k3;have g4:=k4;have gf:=kf;clear kf k0 k1 k2 k3 k4;have x0:=HSG.out.c0;have x1:=HSG.out.c1;have x2:=HSG.out.c2;have xf:=HSG.out.f;have HS5:=HSG;clear HSG
       go_wp2_with (first | (at_builtin;refine wpList_append_own _ rfl _ _ 92 rfl z3.heap.size 99 i101 (ag #[Y I 0,Y I 0,Y I 0,Y I 0,Y I 0]) 5 40 underlying92 hi101 hz1010 hz1011 hz1012 rfl dc _ _ _ rfl (HS5.out.row.alloc _) _ 1 1 [Y I kd,Y I ak,Y I an,Y I bk,Y I bn] rfl rfl (fV V6 [Y I kd,Y I ak,Y I an,Y I bk,Y I bn] 99 _ rfl) (xV ⟨kd,ak,an,bk,bn⟩) (by unfold maxLen;omega) om (by have:=HS5.out.k.size;simp;omega) ?_;intro v' w5 hown' hgrow _;obtain⟨g5,cap5,hv5,_,_⟩:=hown'.form (wt _);subst hv5;have HO5:=dX hown';have HG5:=dX hgrow;clear hown' hgrow;have x0:=((HS5.out.alloc _).app HG5.out HO5.out hX3 hP3).c0;have x1:=((HS5.out.alloc _).app HG5.out HO5.out hX3 hP3).c1;have x2:=((HS5.out.alloc _).app HG5.out HO5.out hX3 hP3).c2;have xf:=((HS5.out.alloc _).app HG5.out HO5.out hX3 hP3).f) | go_in)
       have HS6:=dX ((HS5.out.alloc _).app HG5.out HO5.out hX3 hP3);clear HO5 HG5 HS5;go_roundw
       case rel=>
        refine⟨n3,l3++[⟨kd,ak,an,bk,bn⟩],q4,J (M ⟨g5,0,Q⟩) (l3.length+1) cap5,by go_num,by simp;omega,HKZ,?_⟩;show St3 _ _ _ _ _ _ _ _ _ _ _ _ _;rw[nj,aBb];exact HS6.out.set1 hX3 hXP
       case measure=>simp[intOf]
    | succ n2=>
     have hvb:=Hi (fun j hj=>(HS.out.row.lt j hj).2);have HK2:=dX (vP hK2.out);have hb:=tB HS.out.r.byt;clear hK2
     go_upto_region 10 with fail
     go_region_law (first | (revert HSW;intro HSW;refine dH (by rfl) _ _ _ (by rfl) z2.heap.size 3 i3 (Y I 0) 8 underlying41 hi3 hz30 hz31 hz32 rfl v2 l2.length (l2.map (Y I)) (by rfl) (HSW.out.row.alloc _) _ 1 1 [Y I b] (by rfl) (by rfl) (fV w3 [Y I b] 3 _ rfl) (ints_oneCell I [b]) (by unfold maxLen;omega) om (by have:=HSW.out.k.size;simp;omega) ?_;intro v' w5 ho3 hg3 hkeep;obtain⟨g5,cap5,hv5,_,_⟩:=ho3.form (wt _);subst hv5;have HS5:=dX ((HSW.out.alloc _).app hg3 ho3 hX2 hP2);have y0:=HS5.out.c0;have yf:=HS5.out.f;clear ho3 hg3 hkeep) | (go_simp;go_at_call 46;refine(eL P r2 wr.drew HS.out.r).mono ?_;rintro e w3 ⟨rfl,h3,g⟩;have HSW:=dX (HS.out.call (c2:=w3) ⟨g.os,g.tape,g.output,g.size,g.block⟩ h3 hXP hP2);have x0:=HSW.out.c0;have x0a:=fun o=>(HSW.out.alloc o).c0;clear h3 g;generalize (zN r2).1=b at *;generalize (zN r2).2=r' at *;go_wp2_with fail))
     all_goals (
      go_wp2_with fail
      go_roundw
      case rel=>
       refine⟨n2,l2++[b],r',J (M ⟨g5,0,Q⟩) (l2.length+1) cap5,by go_num,by simp;omega,HK2,?_⟩;show St3 _ _ _ _ _ _ _ _ _ _ _ _ _;rw[nj,map_snoc];exact HS5.out.set0 hX2 hXP
      case measure=>simp[intOf])
theorem yj (h:p:=by
 simp only[cX,List.mem_cons,List.not_mem_nil,or_false]at hz;subst hz;exact⟨⟨by decide,by decide⟩,⟨by decide,by decide⟩⟩):p:=h
def c3:List iG:=[([0,1],[gPay 3],[s1Pay 3,s2Pay 3]),([1],[],[sNote]),([],[],[sMark 9])]
theorem xH:aN 2 (c3.map cX)=0:=by decide +kernel
theorem len_c3:(pB (2,c3)).length=113:=by decide +kernel
theorem v64_c3:∀x∈c3.map cX,V64 x:=by
 intro x hx;simp only[c3,List.map_cons,List.map_nil,List.mem_cons,List.not_mem_nil,or_false]at hx;rcases hx with rfl | rfl | rfl
 ·refine⟨fun z hz=>?_,fun z hz=>?_⟩
  ·exact yj
  ·simp only[cX,List.mem_cons,List.not_mem_nil,or_false]at hz;rcases hz with rfl | rfl <;> exact⟨⟨by decide,by decide⟩,⟨by decide,by decide⟩⟩
 ·refine⟨fun z hz=>by simp[cX]at hz,fun z hz=>?_⟩;exact yj
 ·refine⟨fun z hz=>by simp[cX]at hz,fun z hz=>?_⟩;exact yj
theorem okP_c3:OkP (2,c3):=by
 have h:=okP_of xH v64_c3;have e:(c3.map cX).map TxA.core=c3:=by simp[c3,cX,TxA.core]
 rw[e]at h;exact h
theorem rd_c3:fR (pB (2,c3))=M (2,c3):=by
 unfold fR;rw[if_neg (by rw[len_c3];decide)];exact rd_of_bytes okP_c3 xH
theorem three_q (w:World):Calls prog 26 #[] w fun e w'=>∃(a:Option Addr) (l:List TxA),e=rt (ag #[Y I 2,J a l.length 3])/\l.map TxA.core=c3/\IsTxs w' a l/\Below w.heap.size w w':=
 (three_any w).mono fun _ _ ⟨a,_,_,_,_,_,_,_,_,_,_,_,_,he,htx,hb⟩=>⟨a,_,he,rfl,htx,hb⟩
end Go.Proofs.YtcgpkonfneofdaaGreatDoor
