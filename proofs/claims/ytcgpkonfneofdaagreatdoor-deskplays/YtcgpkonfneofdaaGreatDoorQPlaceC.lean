/- Conditions: those that each theorem states. -/
import Derived.Test.YtcgpkonfneofdaaGreatDoorQGraphA
import Derived.OwnWalk
import Derived.Laws.OwnMore
set_option maxRecDepth 100000
set_option maxHeartbeats 8000000
namespace Go.Proofs.YtcgpkonfneofdaaGreatDoor
open Go.RowKit Go.Proofs.Tryz
open Go.Value renaming slice->J,int->Y,bool->bo,pointer->pd,agg->ag,tuple->tu,string->sg,iface->fc
open Go.IntKind renaming i64->I
open Go.Obj renaming cells->U
open Go.Ending renaming returned->rt,panicked->pg
open Option renaming some->M,none->Q
variable {p:Prop} {w w':World} {bs:List Bool} {base g cap:Nat}
theorem UN (h:p:=by
 have:=(hown.lt W.heap.size (by simp[Value.ownBlock])).2;exact this):p:=h
section
theorem info4:(prog.info? 4).map (fun i=>(i.zero,i.size,i.bytes))=M (M (bo false),1,1):=by kernel_rfl
def IsBools (w:World) (a:Option Addr) (bs:List Bool):Prop:=
 ∀i,i<bs.length->∃b off,a=M ⟨b,off,Q⟩/\b<w.heap.size/\w.cell? ⟨b,off+i,Q⟩=bo (bs.getD i false)
theorem IsBools.below {a:Option Addr} (h:IsBools w a bs) (hb:Below w.heap.size w w'):IsBools w' a bs:=fun i hi=>by
 obtain⟨b,off,ha,hlt,c0⟩:=h i hi;exact⟨b,off,ha,nd hlt hb.size,aB hb c0⟩
theorem pW {n:Nat} (h:w.ownsRow base 4 1 (J (M ⟨g,0,Q⟩) n cap) n (bs.map bo)):IsBools w (M ⟨g,0,Q⟩) bs:=fun i hi=>by
 rcases h.2 with ⟨h0,_⟩ | ⟨g',cap',cur,he,hb,hg,hnc,hcm,hcs,htake⟩
 ·cases h0
 ·injection he with e1 e2 e3
  injection e1 with e1
  injection e1 with e1 _ _
  subst e1;have hc:=h.cells (g:=g) rfl i (bo (bs.getD i false)) (by simp[List.getD,hi]);rw[bZ]at hc;exact⟨g,0,rfl,(Array.getElem?_eq_some_iff.1 hg).1,hc⟩
def aY (sh:Nat) (ks:List Int):List Bool:=ks.foldl (fun bs k=>bs.set (k.toNat%sh) true) (List.replicate sh false)
theorem xL (sh:Nat) (ks:List Int) (k:Int):aY sh (ks++[k])=(aY sh ks).set (k.toNat%sh) true:=by simp[aY]
theorem bN (sh:Nat):∀ks,(aY sh ks).length=sh:=fun ks=>by
 have h:∀(l:List Int) (bs:List Bool),(l.foldl (fun bs k=>bs.set (k.toNat%sh) true) bs).length=bs.length:=by
  intro l
  induction l with
  | nil=>intro bs;rfl
  | cons k t ih=>intro bs;rw[List.foldl_cons,ih];simp
 rw[aY,h,List.length_replicate]
theorem marks_take (sh:Nat) (ks:List Int) (k:Nat) (h:k<ks.length):aY sh (ks.take (k+1))=(aY sh (ks.take k)).set ((ks.getD k 0).toNat%sh) true:=by
 rw[lp h,xL];exact Xa
theorem made_bools0:(madeCells (bo false).cells (0*1)).toList=(List.replicate 0 false).map bo:=by kernel_rfl
theorem made_bools1:(madeCells (bo false).cells (1*1)).toList=(List.replicate 1 false).map bo:=by kernel_rfl
theorem made_bools2:(madeCells (bo false).cells (2*1)).toList=(List.replicate 2 false).map bo:=by kernel_rfl
theorem made_bools3:(madeCells (bo false).cells (3*1)).toList=(List.replicate 3 false).map bo:=by kernel_rfl
theorem made_bools4:(madeCells (bo false).cells (4*1)).toList=(List.replicate 4 false).map bo:=by kernel_rfl
theorem qP (n:Nat) (h:n<=4):(madeCells (bo false).cells (n*1)).toList=(List.replicate n false).map bo:=by
 have e:n=0∨n=1∨n=2∨n=3∨n=4:=om;rcases e with rfl | rfl | rfl | rfl | rfl
 ·exact made_bools0
 ·exact made_bools1
 ·exact made_bools2
 ·exact made_bools3
 ·exact made_bools4
theorem mU {n:Nat} (h:w.ownsRow base 4 1 (J (M ⟨g,0,Q⟩) n cap) n (bs.map bo)) (i:Nat) (hi:i<bs.length):w.cell? ⟨g,i,Q⟩=bo (bs.getD i false):=by
 have hc:=h.cells (g:=g) rfl i (bo (bs.getD i false)) (by simp[List.getD,hi]);rw[bZ]at hc;simpa using hc
theorem kO (w:World) (b i:Nat) (v:Value):w.grownBy (w.setCell ⟨b,i,Q⟩ v) (M b):=⟨rfl,rfl,rfl,by simp,fun j _ hj=>wo w ⟨b,i,Q⟩ v j (fun h=>hj (by rw[h]))⟩
theorem lL {base':Nat} {e:TypeId} {size:Nat} {v:Value} {n:Nat} {xs:List Value} (h:w.ownsRow base e size v n xs) (hb:base'<=base):w.ownsRow base' e size v n xs:=by
 exact Ur
variable (la:Option Addr) (lc:Nat) (l:List TxA)
theorem rE (sh:Nat) (ka:Option Addr) (kc:Nat) (ks:List Int) (w:World) (hs:0<sh) (hs4:sh<=4) (hk:IsInts w ka ks) (hkl:ks.length<=100) (hkk:∀i,i<ks.length->0<=ks.getD i 0/\ks.getD i 0<8) :
  Calls prog 268 #[ag #[Y I sh,J la l.length lc],J ka ks.length kc] w fun e w'=>∃g cap,e=rt (J (M ⟨g,0,Q⟩) sh cap)/\w'.ownsRow w.heap.size 4 1 (J (M ⟨g,0,Q⟩) sh cap) sh ((aY sh ks).map bo)/\Below w.heap.size w w':=by
 obtain⟨i0,hi,hz0,hz1,hz2⟩:=info_parts info4;have HK:=Hi hk;have HR:=Hi hkk;have HM:=Hi (qP sh hs4);have q0:(w.alloc (U #[Y I sh,J la l.length lc] 29)).cell? ⟨w.heap.size,0,Q⟩=Y I sh:=sm;have q1:(w.alloc (U #[Y I sh,J la l.length lc] 29)).cell? ⟨w.heap.size,1,Q⟩=J la l.length lc:=sm;have hU:Below w.heap.size w (w.alloc (U #[Y I sh,J la l.length lc] 29)):=aA br _;have hsz:w.heap.size+1=(w.alloc (U #[Y I sh,J la l.length lc] 29)).heap.size:=sm;clear hk hkk;go_enter func268,ntmps268
 go_wp2_with (first | (at_make;refine wpList_make_full _ rfl _ _ 104 rfl (w.heap.size+1) 4 i0 (bo false) 1 underlying104 hi hz0 hz1 I I _ _ sh rfl rfl rfl rfl (by rw[hz2];omega) (by unfold maxLen;omega) sm ?_;intro w1 hown hgrow) | go_in)
 generalize w.alloc (U #[Y I sh,J la l.length lc] 29)=W at *;rw[HM.out]at hown;have UW:=l9 (n7 (w.heap.size+1) W) hgrow om (fun j hj=>by cases hj);have r0:=(UW.cell (p:=⟨w.heap.size,0,Q⟩) sm).trans q0;have r1:=(UW.cell (p:=⟨w.heap.size,1,Q⟩) sm).trans q1;have hW1:=Hi (hU.trans (UW.mono om))
 have hg1:W.heap.size<w1.heap.size:=by
  exact UN
 have hm0:Hid (w1.ownsRow _ 4 1 _ sh ((aY sh []).map bo)):=hown;clear q0 q1 hU UW hown hgrow HM;generalize W.heap.size=g at *;have hgw:w.heap.size≠g:=om;go_wp2
 go_loopw [7,13] (fun _ i wr=>∃k:Nat,k<=ks.length/\i=Y I k/\Hid (wr.ownsRow (w.heap.size+1) 4 1 (J (M ⟨g,0,Q⟩) sh sh) sh ((aY sh (ks.take k)).map bo))/\w1.grownBy wr (M g)) (fun _ i _=>ks.length - (intOf i).toNat)
 case atStart=>exact⟨0,nz,rfl,hm0,wv _ _⟩
 case round=>
  obtain⟨k,hk,rfl,hown,hgr⟩:=hrel;clear hm0;have far:∀(b j:Nat) (v:Value),b≠g->w1.cell? ⟨b,j,Q⟩=M v->wr.cell? _=M v:=fun b j v hne h=>hgr.cell h (by simpa using hne)
  have t0:=far _ _ _ hgw r0;have t1:=far _ _ _ hgw r1;by_cases hlt:k<ks.length
  ·obtain⟨b,off,rfl,hb,c00⟩:=HK.out k hlt;have c0:=aB hW1.out c00;obtain⟨z0,z8⟩:=HR.out k hlt;have hbg:b≠g:=om;have d0:=far _ _ _ hbg c0;have HT:=Hi (marks_take sh ks k hlt);generalize ks.getD k 0=z at *;obtain⟨y,rfl⟩:=wg z0;have hy:y<8:=om;have hMl:(aY sh (ks.take k)).length=sh:=bN sh _;have hlt2:y%sh<sh:=l7 _ hs;have hA:Below wr.heap.size wr (wr.alloc (U #[Y I sh,J la l.length lc] 29)):=aA br _;have ho1:=bY hown.out hA;have q3:=mU ho1 (y%sh) (by rw[hMl];exact hlt2);have q4:=ho1.frozenAt (y%sh)
   have R1:Hid (((wr.alloc (U #[Y I sh,J la l.length lc] 29)).setCell ⟨g,y%sh,Q⟩ (bo true)).ownsRow (w.heap.size+1) 4 1 (J (M ⟨g,0,Q⟩) sh sh) sh ((aY sh (ks.take (k+1))).map bo)):=by
    have h:=(ho1.stored (y%sh) (bo true)).1;rw[HT.out,List.map_set];exact h
   have R2:Hid (w1.grownBy ((wr.alloc (U #[Y I sh,J la l.length lc] 29)).setCell _ (bo true)) _):=(hgr.trans (lb wr _ _)).trans (kO _ g (y%sh) _);have hm1:(0:Int)<=((y%sh:Nat):Int):=om;have hm2:((y%sh:Nat):Int)<(sh:Int):=om;have CS:=Hi (uB la lc l sh y wr hs hs4 hy);generalize (aY sh (ks.take k)).getD (y%sh) false=old at *;clear hown hgr far c0 c00 hA ho1 z0 z8 hMl;generalize y%sh=r at *
   go_wp2_with fail
   refine CS.out.mono ?_;rintro e w' ⟨rfl,hw'⟩;rw[hw'];clear hw' w' CS;generalize wr.alloc (U #[Y I sh,J la l.length lc] 29)=V at *;clear t0 t1 d0;go_wp2;go_roundw
   case rel=>exact⟨k+1,by omega,by go_num,R1,R2.out⟩
   case measure=>simp[intOf];omega
  ·have hkk:k=ks.length:=om
   have hfin:Hid (wr.ownsRow w.heap.size 4 1 (J (M ⟨g,0,Q⟩) sh sh) sh ((aY sh ks).map bo)):=by
    have h:=hown.out;rw[hkk,le nr]at h;exact lL h om
   have hB:=Hi (hW1.out.trans ((l9 (n7 w.heap.size w1) hgr om (fun j hj=>by injection hj with hj;omega))));clear hown hgr far;go_wp2;go_ret;exact⟨g,sh,rfl,hfin.out,hB.out⟩
end
theorem xp (h:p:=by
 subst hv;have z0:=aB hnx y0;have z1:=aB hnx y1;have B2:=Hi (aC HB.out hnx);have HK:=Hi hk;clear hown hnx hk hjj hj
 go_wp2_with fail
 refine(HSH.out ka kc _ HK.out).mono ?_;rintro e w3 ⟨g,cap,rfl,ho,hb3⟩;have ho2:=Hi (lL ho B2.out.size);have B3:=Hi (aC B2.out hb3);clear ho hb3 z0 z1;go_wp2;go_ret;exact⟨g,cap,rfl,ho2.out,B3.out⟩):p:=h
theorem yn (h:p:=by
 have RB:=(((hnx.alloc om _).alloc (by simp;omega) _).grown hgrow (by simp;omega) (fun j hj=>(hown.lt j hj).1));clear hown' hgrow hown hnx d0 d1;exact Vs):p:=h
theorem Vs (h:p:=by
 go_wp2;go_roundw
 case rel=>exact⟨j+1,by omega,by go_num,R,RB⟩
 case measure=>simp[intOf];omega):p:=h
section
theorem eG {l:List TxA} (h:eN l=0) (k:Nat) (hk:k<l.length):kF (l.getD k x0)=0:=by
 have h8:=gZ h;unfold eN at h;rw[if_neg om]at h;exact jQ kF l x0 h k hk
theorem ext2' {W:World} {p1 p2:Addr} {v1 v2:Value} (hb:Below W.heap.size W w') (q1:W.cell? p1=M v1) (q2:W.cell? p2=M v2) :
  Below W.heap.size W w'/\w'.cell? p1=M v1/\w'.cell? p2=M v2:=⟨hb,aB hb q1,aB hb q2⟩
def aO (l:List TxA) (k:Nat):List (Int×Bool):=bQ (l.getD k x0).rs (aJ (l.getD k x0).ss) 8
def aT (L:List (Int×Bool)):List Int:=L.map Prod.fst
def aR (L:List (Int×Bool)):List Int:=(L.filter Prod.snd).map Prod.fst
theorem qQ (rs ks:List Int):∀n,∀p∈bQ rs ks n,0<=p.1/\p.1<n
 | 0,p,h=>by cases h
 | n+1,p,h=>by
  rw[bQ,List.mem_append]at h;rcases h with h | h
  ·have:=qQ rs ks n p h;omega
  ·by_cases c:(n:Int)∈ks∨(n:Int)∈rs
   ·rw[if_pos c]at h;simp only[List.mem_singleton]at h;subst h;exact⟨by simp,by simp;omega⟩
   ·rw[if_neg c]at h;cases h
theorem keysIn_range (l:List TxA) (k:Nat):∀i,i<(aT (aO l k)).length->0<=(aT (aO l k)).getD i 0/\(aT (aO l k)).getD i 0<8:=fun i hi=>by
 have hm:(aT (aO l k)).getD i 0∈aT (aO l k):=by simp[List.getD,hi]
 obtain⟨p,hp,he⟩:=List.mem_map.1 hm;have:=qQ _ _ _ p hp;rw[<-he];exact this
theorem setsIn_range (l:List TxA) (k:Nat):∀i,i<(aR (aO l k)).length->0<=(aR (aO l k)).getD i 0/\(aR (aO l k)).getD i 0<8:=fun i hi=>by
 have hm:(aR (aO l k)).getD i 0∈aR (aO l k):=by simp[List.getD,hi]
 obtain⟨p,hp,he⟩:=List.mem_map.1 hm;have:=qQ _ _ _ p (List.mem_filter.1 hp).1;rw[<-he];exact this
theorem uJ (l:List TxA) (k:Nat):(aO l k).length<=8:=oK _ _ _
theorem keysIn_take (L:List (Int×Bool)) (k:Nat) (h:k<L.length):aT (L.take (k+1))=aT (L.take k)++[(L.getD k (0,false)).1]:=by
 rw[lp h];unfold aT;rw[ny];congr 1;exact Xa
theorem setsIn_take (L:List (Int×Bool)) (k:Nat) (h:k<L.length):aR (L.take (k+1))=aR (L.take k)++(if (L.getD k (0,false)).2 then [(L.getD k (0,false)).1] else []):=by
 rw[lp h];have e:L.getD k (0,false)=L[k]:=by simp[List.getD,h]
 rw[e];unfold aR;rw[List.filter_append,ny];congr 1;by_cases c:L[k].2=true
 ·rw[if_pos c];simp[c]
 ·rw[if_neg c];simp[c]
variable (la:Option Addr) (lc:Nat) (l:List TxA) (m n:Int)
theorem xN (k:Nat) (w:World) (hl:IsTxs w la l) (he:yO m l k=0) :
  Calls prog 267 #[ag #[Y I m,J la l.length lc],Y I k] w fun e w'=>∃a c,e=rt (J a (aO l k).length c)/\IsLks w' a (aO l k)/\Below w.heap.size w w':=by
 obtain⟨hp,hn⟩:=kV he;have hkl:k<l.length:=by have:=qM hn;omega
 have HE:Hid (aH [aN m l,nQ k _]=0):=he;have HC:=Hi (eG (aX hp).2.2 k hkl);have hW:Hid (Below _ w (w.alloc (U #[Y I m,J la l.length lc] 29))):=aA br _;have HLW:=Hi (hl.below hW.out);have y0:(w.alloc (U #[Y I m,J la l.length lc] 29)).cell? ⟨w.heap.size,0,Q⟩=Y I m:=sm;have y1:(w.alloc (U #[Y I m,J la l.length lc] 29)).cell? ⟨w.heap.size,1,Q⟩=J la l.length lc:=sm;have hlk:Hid (lksOf (l.getD k x0).rs (l.getD k x0).gs (l.getD k x0).ss=aO l k):=if_pos HC.out;clear hl he hp hn;generalize aO l k=L at *;go_enter func267,ntmps267
 go_wp2_with fail
 generalize w.alloc (U #[Y I m,J la l.length lc] 29)=W at *
 go_region_held3 (fun w'=>Below W.heap.size W w'/\w'.cell? ⟨w.heap.size,0,Q⟩=Y I m/\w'.cell? ⟨w.heap.size,1,Q⟩=J la l.length lc) ((go_split_ands;refine ext2' ?_ y0 y1;repeat (first | assumption | exact br | refine aD ?_ | refine aA ?_ _ | refine aC ?_ (by assumption))))
  (first
   | (go_at_call 280;refine(zB la lc l m k _).mono ?_;rintro e w' ⟨rfl,hby⟩)
   | (go_at_call 28;refine(cI la lc l m _ ?_).mono ?_;(refine HLW.out.below ?_;go_split_ands;repeat (first | assumption | exact br | refine aD ?_ | refine aA ?_ _ | refine aC ?_ (by assumption)));rintro e w' ⟨rfl,hbx⟩)
   | (go_at_call 15;refine(aQ [aN m l,nQ k l.length] _ 2 _ sm HE.out ?_).mono ?_;(exact lS _ _ _ _ sm);rintro e w' ⟨rfl,rfl⟩))
 all_goals (
  go_split_ands;obtain⟨b,off,rfl,hb,c0,c1,c2,hx⟩:=HLW.out k hkl;have d0:=aB (by assumption) c0;have d1:=aB (by assumption) c1;have d2:=aB (by assumption) c2;have HX:=hx.t.below (by assumption);have hch:Hid (bP (l.getD k x0).rs (l.getD k x0).gs (l.getD k x0).ss=0):=HC.out;clear c0 c1 c2 hx;generalize l.getD k x0=x at *;obtain⟨ra,ga,sa,rc,gc,sc,rs,gs,ss⟩:=x;simp only at d0 d1 d2 HX hlk hch;have HX':=HX
  go_wp2_with fail
  refine(locks_any ra ga sa rc gc sc rs gs ss _ HX').mono ?_;rintro e w2 ⟨a,cap,rfl,hL,hb2⟩;rw[hlk.out]at hL ⊢;rw[hch.out];have B2:=Hi (aC hW.out (aC (by assumption) hb2));have hL2:Hid (IsLks (w2.alloc (U #[Y I 0] 22)) a L):=hL.below (aA br _);clear hL hb2 HX HX' d0 d1 d2
  go_wp2_with fail
  refine(uN a _ cap _).mono ?_;rintro e w3 ⟨rfl,rfl⟩;go_wp2;go_ret;exact⟨a,cap,rfl,hL2.out,aA B2.out _⟩)
theorem part1_ok (sh k p q:Nat) (w:World) (h0:w.cell? ⟨p,0,Q⟩=Y I sh) (h1:w.cell? ⟨p,1,Q⟩=J la l.length lc) (h2:w.cell? ⟨q,0,Q⟩=Y I k) (hl:IsTxs w la l) (he:yO sh l k=0) :
  Calls prog 266 #[pd (M ⟨p,0,Q⟩),pd (M ⟨q,0,Q⟩)] w fun e w'=>∃g cap,e=rt (J (M ⟨g,0,Q⟩) sh cap)/\w'.ownsRow w.heap.size 4 1 (J (M ⟨g,0,Q⟩) sh cap) sh ((aY sh (aT (aO l k))).map bo)/\Below w.heap.size w w':=by
 obtain⟨i0,hi,hz0,hz1,hz2⟩:=info_parts info3;have hsh:=aX (kV he).1;have s0:0<sh:=om;have s4:sh<=4:=om;have HP:=Hi (xN la lc l sh k w hl he);have HL8:=uJ l k
 have HSH:Hid (∀(ka:Option Addr) (kc:Nat) (w:World),IsInts w ka (aT (aO l k))->Calls prog 268 #[ag #[Y I sh,J la l.length lc],J ka (aO l k).length kc] w fun e w'=>∃g cap,e=rt (J (M ⟨g,0,Q⟩) sh cap)/\w'.ownsRow w.heap.size 4 1 (J (M ⟨g,0,Q⟩) sh cap) sh ((aY sh (aT (aO l k))).map bo)/\Below w.heap.size w w'):=fun ka kc w hk=>by
  have hlen:(aT _).length=(aO l k).length:=lm _;have h:=rE la lc l sh ka kc (aT (aO l k)) w s0 s4 hk (by rw[hlen];omega) (keysIn_range l k);rw[hlen]at h;exact h
 clear hl he hsh s0 s4;generalize aO l k=L at *;go_enter func266,ntmps266
 go_wp2_with fail
 refine HP.out.mono ?_;clear HP;rintro e w1 ⟨a,c,rfl,hL,hb⟩;have HL:=Hi hL;have HB:=Hi hb;clear hL;have y0:=aB hb h0;have y1:=aB hb h1;clear hb h0 h1 h2;go_wp2
 go_loopw [3,5,10] (fun v _ i wr=>∃k:Nat,k<=L.length/\i=Y I k/\wr.ownsRow w1.heap.size 3 1 v k ((aT (L.take k)).map (Y I))/\Below w1.heap.size w1 wr) (fun _ _ i _=>L.length - (intOf i).toNat)
 case atStart=>exact⟨0,nz,rfl,n8 _ _ _ _,br⟩
 case round=>
  obtain⟨j,hj,rfl,hown,hnx⟩:=hrel;have hsz:=hnx.size;by_cases hlt:j<L.length
  ·obtain⟨b,off,rfl,hb,c0,c1⟩:=HL.out j hlt;have d0:=aB hnx c0;have d1:=aB hnx c1;have HT:=Hi (keysIn_take L j hlt);clear c0 c1;generalize (L.getD j (0,false))=pr at *;obtain⟨z,z'⟩:=pr;simp only at d0 d1 HT
   go_wp2_with (first
    | (at_builtin;refine wpList_append_own _ rfl _ _ 41 rfl w1.heap.size 3 i0 (Y I 0) 1 8 underlying41 hi hz0 hz1 hz2 rfl dc _ _ _ rfl ((hown.alloc _).alloc _) ⟨wr.heap.size+1,0,Q⟩ 1 1 [Y I z] rfl rfl (lP _ _ _ sm) (ints_oneCell I [z]) (by unfold maxLen;omega) om (by simp;omega) ?_;intro v' w2 hown' hgrow _)
    | go_in)
   have R:w2.ownsRow w1.heap.size 3 1 v' (j+1) ((aT (L.take (j+1))).map (Y I)):=by rw[HT.out,ny];exact hown'
   exact yn
  ·have hjj:j=L.length:=om;rw[hjj,le nr]at hown;have hlen:(aT L).length=_:=lm _;obtain⟨ka,kc,hv,hk⟩:=gF hown;rw[hlen]at hv;exact xp
theorem active1_ok (sh k p q:Nat) (w:World) (h0:w.cell? ⟨p,0,Q⟩=Y I sh) (h1:w.cell? ⟨p,1,Q⟩=J la l.length lc) (h2:w.cell? ⟨q,0,Q⟩=Y I k) (hl:IsTxs w la l) (he:yO sh l k=0) :
  Calls prog 269 #[pd (M ⟨p,0,Q⟩),pd (M ⟨q,0,Q⟩)] w fun e w'=>∃g cap,e=rt (J (M ⟨g,0,Q⟩) sh cap)/\w'.ownsRow w.heap.size 4 1 (J (M ⟨g,0,Q⟩) sh cap) sh ((aY sh (aR (aO l k))).map bo)/\Below w.heap.size w w':=by
 obtain⟨i0,hi,hz0,hz1,hz2⟩:=info_parts info3;have hsh:=aX (kV he).1;have s0:0<sh:=om;have s4:sh<=4:=om;have HP:=Hi (xN la lc l sh k w hl he);have HL8:=uJ l k
 have HSH:Hid (∀(ka:Option Addr) (kc:Nat) (w:World),IsInts w ka (aR (aO l k))->Calls prog 268 #[ag #[Y I sh,J la l.length lc],J ka (aR (aO l k)).length kc] w fun e w'=>∃g cap,e=rt (J (M ⟨g,0,Q⟩) sh cap)/\w'.ownsRow w.heap.size 4 1 (J (M ⟨g,0,Q⟩) sh cap) sh ((aY sh (aR (aO l k))).map bo)/\Below w.heap.size w w'):=fun ka kc w hk=>by
  have hlen:(aR (aO l k)).length<=(aO l k).length:=by unfold aR;rw[lm];exact List.length_filter_le _ _
  exact rE la lc l sh ka kc (aR (aO l k)) w s0 s4 hk om (setsIn_range l k)
 clear hl he hsh s0 s4;generalize aO l k=L at *;go_enter func269,ntmps269
 go_wp2_with fail
 refine HP.out.mono ?_;clear HP;rintro e w1 ⟨a,c,rfl,hL,hb⟩;have HL:=Hi hL;have HB:=Hi hb;clear hL;have y0:=aB hb h0;have y1:=aB hb h1;clear hb h0 h1 h2;go_wp2
 go_loopw [3,5,10] (fun v _ i wr=>∃k:Nat,k<=L.length/\i=Y I k/\wr.ownsRow w1.heap.size 3 1 v (aR (L.take k)).length ((aR (L.take k)).map (Y I))/\Below w1.heap.size w1 wr) (fun _ _ i _=>L.length - (intOf i).toNat)
 case atStart=>exact⟨0,nz,rfl,n8 _ _ _ _,br⟩
 case round=>
  obtain⟨j,hj,rfl,hown,hnx⟩:=hrel;have hsz:=hnx.size;by_cases hlt:j<L.length
  ·obtain⟨b,off,rfl,hb,c0,c1⟩:=HL.out j hlt;have d0:=aB hnx c0;have d1:=aB hnx c1;have HT:=Hi (setsIn_take L j hlt)
   have hsl:(aR (L.take j)).length<=j:=by
    unfold aR;rw[lm];refine nh (List.length_filter_le _ _) ?_;rw[l6];omega
   clear c0 c1;generalize (L.getD j (0,false))=pr at *;obtain⟨z,z'⟩:=pr;simp only at d0 d1 HT
   cases z' with
   | true=>
    have HTT:Hid (aR _=aR _++[z]):=HT.out;clear HT
    go_wp2_with (first
     | (at_builtin;refine wpList_append_own _ rfl _ _ 41 rfl w1.heap.size 3 i0 (Y I 0) 1 8 underlying41 hi hz0 hz1 hz2 rfl dc _ _ _ rfl ((hown.alloc _).alloc _) ⟨wr.heap.size+1,0,Q⟩ 1 1 [Y I z] rfl rfl (lP _ _ _ sm) (ints_oneCell I [z]) (by unfold maxLen;omega) om (by simp;omega) ?_;intro v' w2 hown' hgrow _)
     | go_in)
    have R:w2.ownsRow w1.heap.size 3 1 v' (aR (L.take (j+1))).length ((aR (L.take (j+1))).map (Y I)):=by rw[HTT.out,ny,nj];exact hown'
    exact yn
   | false=>
    have HTT:Hid (aR (L.take (j+1))=aR (L.take j)):=by show _=_;rw[HT.out];simp
    clear HT
    go_wp2_with go_in
    have R:(wr.alloc (U #[Y I z,bo false] 286)).ownsRow w1.heap.size 3 1 u3 (aR (L.take (j+1))).length ((aR (L.take (j+1))).map (Y I)):=by rw[HTT.out];exact hown.alloc _
    have RB:Below _ w1 (wr.alloc (U #[Y I z,bo false] 286)):=hnx.alloc om _;clear hown hnx d0 d1;exact Vs
  ·have hjj:j=L.length:=om;rw[hjj,le nr]at hown;obtain⟨ka,kc,hv,hk⟩:=gF hown;exact xp
end
end Go.Proofs.YtcgpkonfneofdaaGreatDoor
