/- Conditions: those that each theorem states. -/
import Derived.Test.YtcgpkonfneofdaaGreatDoorQStoreF
import Derived.Test.YtcgpkonfneofdaaGreatDoorQHallE
import Derived.Test.YtcgpkonfneofdaaGreatDoorQPlaceE
set_option maxRecDepth 100000
set_option maxHeartbeats 8000000
namespace Go.Proofs.YtcgpkonfneofdaaGreatDoor
open Go.RowKit Go.Proofs.Tryz
open Go.Value renaming slice->J,int->Y,bool->bo,pointer->pd,agg->ag,tuple->tu,string->sg,iface->fc
open Go.IntKind renaming i64->I
open Go.Obj renaming cells->U
open Go.Ending renaming returned->rt,panicked->pg
open Option renaming some->M,none->Q
variable {n b sz C H:Nat} {w' w0 V w3:World} {a:Option Addr} {v5 v6 v7 v5' v6' v7' u5 u6 u7 v s1 s2 s3 s4:Value} {row:Option Nat}
section
def tr1 (sh:Nat) (l:List TxA) (S:SA) (n k:Nat):Bool:=(!cR S.rd n k || iF sh (gX l n) k) && (!cR S.wr n k || (mW sh (gX l n) k && dT sh l S n))
theorem truthB_tr {sh:Nat} {l:List TxA} {S:SA}:cV sh l S=(List.range l.length).all fun n=>(List.range sh).all (tr1 sh l S n):=rfl
theorem truth_stop {sh:Nat} {l:List TxA} {S:SA} {k:Nat} (hn:n<l.length) (hk:k<sh) (h:tr1 sh l S n k=false):cV sh l S=false:=by
 rw[truthB_tr];exact gD hn (gD hk h)
def IsBB (w:World) (a:Option Addr) (rows:List (List Bool)):Prop:=
 ∀i,i<rows.length->∃b off a' c',a=M ⟨b,off,Q⟩/\b<w.heap.size/\w.cell? ⟨b,off+i,Q⟩=J a' (rows.getD i []).length c'/\IsBools w a' (rows.getD i [])/\(a'=Q->c'=0)
def IsII (w:World) (a:Option Addr) (rows:List (List Int)):Prop:=
 ∀i,i<rows.length->∃b off a' c',a=M ⟨b,off,Q⟩/\b<w.heap.size/\w.cell? ⟨b,off+i,Q⟩=J a' (rows.getD i []).length c'/\IsInts w a' (rows.getD i [])/\(a'=Q->c'=0)
theorem IsBB.below {w:World} {rows:List (List Bool)} (h:IsBB w a rows) (hb:Below w.heap.size w w'):IsBB w' a rows:=fun i hi=>by
 obtain⟨b,off,a',c',e,h1,h2,h3,h4⟩:=h i hi;exact⟨b,off,a',c',e,nd h1 hb.size,aB hb h2,h3.below hb,h4⟩
theorem IsII.below {w:World} {rows:List (List Int)} (h:IsII w a rows) (hb:Below w.heap.size w w'):IsII w' a rows:=fun i hi=>by
 obtain⟨b,off,a',c',e,h1,h2,h3,h4⟩:=h i hi;exact⟨b,off,a',c',e,nd h1 hb.size,aB hb h2,h3.below hb,h4⟩
structure Sta (w:World) (sa ra wa va:Option Addr) (S:SA):Prop where
 st:IsInts w sa S.st
 rd:IsBB w ra S.rd
 wr:IsBB w wa S.wr
 vs:IsII w va S.vs
theorem Sta.below {w:World} {sa ra wa va:Option Addr} {S:SA} (h:Sta w sa ra wa va S) (hb:Below w.heap.size w w'):Sta w' sa ra wa va S:=⟨h.st.below hb,h.rd.below hb,h.wr.below hb,h.vs.below hb⟩
theorem IsBB.rows {w:World} {rows:List (List Bool)} (h:IsBB w a rows) {sh:Nat} (hn:rows.length=n) (hs:∀i,i<n->(rows.getD i []).length=sh) (h0:0<sh):IsBR 0 w a n sh (cR rows):=fun i hi=>by
 obtain⟨b,off,a',c',e,h1,h2,h3,_⟩:=h i om;have hl:=hs i hi;obtain⟨b',off',ea,hb',_⟩:=h3 0 om;subst ea;refine⟨b,off,b',off',c',e,⟨nz,h1⟩,⟨nz,hb'⟩,by rw[h2,hl],fun k hk=>?_⟩;obtain⟨b2,off2,e2,_,hc⟩:=h3 k om;injection e2 with e2
 injection e2 with q1 q2 _
 subst q1 q2;exact hc
theorem IsII.rows {w:World} {V:List (List Int)} (h:IsII w a V) {l:List TxA} (hn:V.length=l.length) (hs:∀i,i<l.length->(V.getD i []).length=(gX l i).rs.length):IsIR 0 w a l V:=fun i hi=>by
 obtain⟨b,off,a',c',e,h1,h2,h3,h4⟩:=h i om;have hl:=hs i hi;exact⟨b,off,a',c',e,⟨nz,h1⟩,by rw[h2,hl],hl,h3,fun _ _=>nz,h4⟩
variable {w:World} {h sh:Nat} {l:List TxA} {S:SA} {A:HA}
theorem wD (H:Hall w h sh l S A) :
    Calls prog 236 #[pd (M ⟨h,0,Q⟩)] w fun e w'=>e=rt (Y I (if cV sh l S then 0 else 1))/\w'=w:=by
  have HH:=Hi H;have x0:=H.h0;have p0:=H.p0;have p1:=H.p1;have hl8:=H.l8;have hs4:=H.s4;have HE1:Hid (cV sh l S=true->(if cV sh l S then (0:Int) else 1)=0):=fun e=>by rw[e];rfl
  have HE0:Hid (cV sh l S=false->(if cV sh l S then (0:Int) else 1)=1):=fun e=>by rw[e];rfl
  clear H;generalize (if cV sh l S then (0:Int) else 1)=E at *;go_enter func236,ntmps236;go_wp2
  go_loop [3,4,13] (fun _ _ i=>∃n:Nat,n<=l.length/\i=Y I n/\Hid ((List.range n).all (fun n=>(List.range sh).all (tr1 sh l S n))=true)) (fun _ _ i=>l.length - (intOf i).toNat)
  case atStart=>exact⟨0,nz,rfl,rfl⟩
  case round=>
    obtain⟨n,hn',rfl,hall⟩:=hrel;by_cases hlt:n<l.length
    · have i1:(n:Int)<(l.length:Int):=by omega
      have i0:(0:Int)<=(n:Int):=om;have HN:Hid ((List.range sh).all _=true->(List.range _).all _=true):=fun e=>by rw[mC,hall.out,e];rfl
      clear hall;obtain⟨b1,o1,b1',o1',k1,x1,y1,z1⟩:=tW HH.out.h2 HH.out.rd hlt;obtain⟨b2,o2,b2',o2',k2,x2,y2,z2⟩:=tW HH.out.h3 HH.out.wr hlt;obtain⟨b3,o3,b3',o3',k3,x3,y3,z3⟩:=tW HH.out.h5 HH.out.pt hlt;obtain⟨b4,o4,b4',o4',k4,x4,y4,z4⟩:=tW HH.out.h6 HH.out.ac hlt;have Z1:=Hi z1;have Z2:=Hi z2;have Z3:=Hi z3;have Z4:=Hi z4;have CR:=Hi (uG HH.out hlt);clear z1 z2 z3 z4;go_wp2
      go_loop [4,23] (fun _ i=>∃k:Nat,k<=sh/\i=Y I k/\Hid ((List.range k).all (tr1 sh l S n)=true)) (fun _ i=>sh - (intOf i).toNat)
      case atStart=>exact⟨0,nz,rfl,rfl⟩
      case round=>
        obtain⟨k,hk',rfl,hall⟩:=hrel;by_cases hlt2:k<sh
        · have j1:(k:Int)<(sh:Int):=by omega
          have j0:(0:Int)<=(k:Int):=om;have d1:=Z1.out k hlt2;have d2:=Z2.out k hlt2;have d3:=Z3.out k hlt2;have d4:=Z4.out k hlt2;have HT:Hid (tr1 sh l S n k=(_ && _)):=rfl;have HG:Hid (tr1 sh l S n k=true->(List.range _).all _=true):=fun e=>by rw[mC,hall.out,e];rfl
          have HB:Hid (tr1 sh l S n k=false->cV sh l S=false):=fun e=>truth_stop hlt hlt2 e
          clear hall;generalize tr1 sh l S n k=T at *;generalize cR S.rd n k=r at *;generalize cR S.wr n k=t at *;generalize iF sh (gX l n) k=P at *;generalize mW sh (gX l n) k=Qq at *;generalize dT sh l S n=R at *;rcases r with _ | _ <;> rcases P with _ | _ <;> rcases t with _ | _ <;> try rcases Qq with _ | _
          all_goals first
            | (have HF:Hid (cV sh l S=false):=HB.out HT.out
               clear HT HG HB CR HN;go_wp2;go_ret;exact⟨by rw[HE0.out HF.out];rfl,rfl⟩)
            | (have HF:Hid ((List.range (k+1)).all (tr1 sh l S n)=true):=HG.out HT.out
               clear HT HG HB CR HN;go_wp2;go_round
               case rel=>exact⟨k+1,by omega,by go_num,HF⟩
               case measure=>simp[intOf];omega)
            | (go_wp2_with fail
               refine CR.out.mono ?_;rintro e w1 ⟨rfl,hw1⟩;subst hw1;clear CR
               cases R
               · have HF:=Hi (HB.out HT.out)
                 clear HT HG HB HN;go_wp2;go_ret;exact⟨by rw[HE0.out HF.out];rfl,rfl⟩
               · have HF:=Hi (HG.out HT.out)
                 clear HT HG HB HN;go_wp2;go_round
                 case rel=>exact⟨k+1,by omega,by go_num,HF⟩
                 case measure=>simp[intOf];omega)
        · have hkk:k=sh:=by omega
          have HF:=Hi (HN.out (by have:=hall.out;rw[hkk]at this;exact this));have j1:¬(k:Int)<(sh:Int):=om;clear hall HN CR;go_wp2;go_round
          case rel=>exact⟨n+1,by omega,by go_num,HF⟩
          case measure=>simp[intOf];omega
    · have hnn:n=l.length:=by omega
      have HF:Hid (cV sh l S=true):=by
        have:=hall.out;rw[hnn]at this;exact this
      have i1:¬(n:Int)<(l.length:Int):=om;clear hall;go_wp2;go_ret;exact⟨by rw[HE1.out HF.out];rfl,rfl⟩
end
theorem zw {p:Prop} (h:p:=by
 go_enter func230,ntmps230;go_wp2;go_ret;exact⟨by rw[HF.out];rfl,br⟩):p:=h
theorem UA {p:Prop} (h:p:=by
 go_quiet (fail)
 go_wp2;go_ret;exact⟨by rw[HF.out];rfl,aV UV.out _⟩):p:=h
section
structure Hall0 (w:World) (h p sh:Nat) (l:List TxA) (S:SA) (la sa ra wa va:Option Addr) (lc sc rc wc vc:Nat):Prop where
 h0:w.cell? ⟨h,0,Q⟩=pd (M ⟨p,0,Q⟩)
 h1:w.cell? ⟨h,1,Q⟩=J sa S.st.length sc
 h2:w.cell? ⟨h,2,Q⟩=J ra S.rd.length rc
 h3:w.cell? ⟨h,3,Q⟩=J wa S.wr.length wc
 h4:w.cell? ⟨h,4,Q⟩=J va S.vs.length vc
 p0:w.cell? ⟨p,0,Q⟩=Y I sh
 p1:w.cell? ⟨p,1,Q⟩=J la l.length lc
 tx:IsTxs w la l
 sta:Sta w sa ra wa va S
 l8:l.length<=8
 s4:sh<=4
theorem Hall0.below {w:World} {h p sh:Nat} {l:List TxA} {S:SA} {la sa ra wa va:Option Addr} {lc sc rc wc vc:Nat} (H:Hall0 w h p sh l S la sa ra wa va lc sc rc wc vc) (hb:Below w.heap.size w w'):Hall0 w' h p sh l S la sa ra wa va lc sc rc wc vc:=
 ⟨aB hb H.h0,aB hb H.h1,aB hb H.h2,aB hb H.h3,aB hb H.h4,aB hb H.p0,aB hb H.p1,H.tx.below hb,H.sta.below hb,H.l8,H.s4⟩
def row1 (sh:Nat) (l:List TxA) (S:SA) (n:Nat):Prop:=(S.rd.getD n []).length=sh/\(S.wr.getD n []).length=sh/\(S.vs.getD n []).length=(gX l n).rs.length
theorem form_bad {sh:Nat} {l:List TxA} {S:SA} (h:¬Form sh l S):gL sh l S=false:=by
 cases e:gL sh l S with
 | false=>rfl
 | true=>exact absurd (cH.1 e) h
variable {w:World} {h p sh:Nat} {l:List TxA} {S:SA} {la sa ra wa va:Option Addr} {lc sc rc wc vc:Nat}
theorem pS (H:Hall0 w h p sh l S la sa ra wa va lc sc rc wc vc) (h8:S.st.length=8) :
  Kr 230 #[pd (M ⟨h,0,Q⟩)] w (Y I (if gL sh l S then 0 else 1)):=by
 have HE1:Hid (Form sh l S->(if gL sh l S then (0:Int) else 1)=0):=fun e=>by rw[cH.2 e];rfl
 have HE0:Hid (¬Form sh l S->(if gL sh l S then (0:Int) else 1)=1):=fun e=>by rw[form_bad e];rfl
 generalize (if gL sh l S then (0:Int) else 1)=E at *;have HH:=Hi H;have H8:=Hi h8;have x0:=H.h0;have x2:=H.h2;have x3:=H.h3;have x4:=H.h4;have p0:=H.p0;have p1:=H.p1;have hl8:=H.l8;clear H h8;by_cases e1:S.rd.length=l.length;rotate_left
 ·have HF:=Hi (HE0.out fun F=>e1 F.rd);have d1:((S.rd.length:Int) != (l.length:Int))=true:=by rw[bne_iff_ne];omega
  clear HE0 HE1 HH H8;exact zw
 by_cases e2:S.wr.length=l.length;rotate_left
 ·have HF:=Hi (HE0.out fun F=>e2 F.wr);have d1:((S.rd.length:Int) != (l.length:Int))=false:=by rw[bne_eq_false_iff_eq];omega
  have d2:((S.wr.length:Int) != (l.length:Int))=true:=by rw[bne_iff_ne];omega
  clear HE0 HE1 HH H8 e1;exact zw
 by_cases e3:S.vs.length=l.length;rotate_left
 ·have HF:=Hi (HE0.out fun F=>e3 F.vs);have d1:((S.rd.length:Int) != (l.length:Int))=false:=by rw[bne_eq_false_iff_eq];omega
  have d2:((S.wr.length:Int) != (l.length:Int))=false:=by rw[bne_eq_false_iff_eq];omega
  have d3:((S.vs.length:Int) != (l.length:Int))=true:=by rw[bne_iff_ne];omega
  clear HE0 HE1 HH H8 e1 e2;exact zw
 rw[e1]at x2;rw[e2]at x3;rw[e3]at x4;have Q1:=Hi e1;have Q2:=Hi e2;have Q3:=Hi e3;clear e1 e2 e3;have d1:((l.length:Int) != (l.length:Int))=false:=sm;go_enter func230,ntmps230;go_wp2
 go_loopw [50] (fun i wr=>∃n:Nat,n<=l.length/\i=Y I n/\Hid (∀i,i<n->row1 sh l S i)/\Hid (Below w.heap.size w wr)) (fun i _=>l.length - (intOf i).toNat)
 case atStart=>exact⟨0,nz,rfl,(fun i hi=>absurd hi (nl _)),br⟩
 case round=>
  obtain⟨n,hn',rfl,hall,hB⟩:=hrel;by_cases hlt:n<l.length
  ·have i1:(n:Int)<(l.length:Int):=om;have i0:(0:Int)<=(n:Int):=om;obtain⟨bt,ot,ea,_,t0,t1,t2,_⟩:=HH.out.tx n hlt;obtain⟨b1,o1,a1,c1,f1,_,y1,_,_⟩:=HH.out.sta.rd n (by rw[Q1.out];exact hlt);obtain⟨b2,o2,a2,c2,f2,_,y2,_,_⟩:=HH.out.sta.wr n (by rw[Q2.out];exact hlt);obtain⟨b3,o3,a3,c3,f3,_,y3,_,_⟩:=HH.out.sta.vs n (by rw[Q3.out];exact hlt);have z0:=aB hB.out x0;have z2:wr.cell? ⟨h,2,Q⟩=J (M ⟨b1,o1,Q⟩) l.length rc:=by rw[<-f1];exact aB hB.out x2
   have z3:wr.cell? ⟨h,3,Q⟩=J (M ⟨b2,o2,Q⟩) l.length wc:=by rw[<-f2];exact aB hB.out x3
   have z4:wr.cell? ⟨h,4,Q⟩=J (M ⟨b3,o3,Q⟩) l.length vc:=by rw[<-f3];exact aB hB.out x4
   have zp0:=aB hB.out p0;have zt0:=aB hB.out t0;have zt1:=aB hB.out t1;have zt2:=aB hB.out t2;have zy1:=aB hB.out y1;have zy2:=aB hB.out y2;have zy3:=aB hB.out y3;subst ea
   have HG:Hid ((S.rd.getD n []).length=sh->(S.wr.getD n []).length=sh->(S.vs.getD n []).length=(l.getD n Go.Proofs.YtcgpkonfneofdaaGreatDoor.x0).rs.length->∀i,i<n+1->row1 sh l S i):=fun q1 q2 q3 i hi=>by
    by_cases e:i=n
    ·subst e;exact⟨q1,q2,q3⟩
    ·exact hall.out i om
   have HB:Hid (¬((S.rd.getD n []).length=sh/\(S.wr.getD n []).length=sh/\(S.vs.getD n []).length=(l.getD n Go.Proofs.YtcgpkonfneofdaaGreatDoor.x0).rs.length)->¬Form sh l S):=fun q F=>q ⟨F.rn n hlt,F.wn n hlt,F.vn n hlt⟩
   clear hall t0 t1 t2 y1 y2 y3;generalize (S.rd.getD n []).length=L1 at *;generalize (S.wr.getD n []).length=L2 at *;generalize (S.vs.getD n []).length=L3 at *;generalize l.getD n Go.Proofs.YtcgpkonfneofdaaGreatDoor.x0=x at *;obtain⟨xa,xb,xc,xd,xe,xf,rs,gs,ss⟩:=x;simp only at zt0 zt1 zt2 HG HB;have UV:Hid (Below w.heap.size w (wr.alloc (U #[J xa rs.length xd,J xb gs.length xe,J xc ss.length xf] 95))):=aA hB.out _;have bV:Below wr.heap.size wr (wr.alloc (U #[J xa rs.length xd,J xb gs.length xe,J xc ss.length xf] 95)):=aA br _
   go_upto_region 7 with fail
   have z0:=aB bV z0;have z2:=aB bV z2;have z3:=aB bV z3;have z4:=aB bV z4;have zp0:=aB bV zp0;have zy1:=aB bV zy1;have zy2:=aB bV zy2;have zy3:=aB bV zy3;have zx:(wr.alloc (U #[J xa rs.length xd,J xb gs.length xe,J xc ss.length xf] 95)).cell? ⟨wr.heap.size,0,Q⟩=J xa rs.length xd:=sm;clear bV zt0 zt1 zt2 hB;generalize (wr.alloc (U #[J xa rs.length xd,J xb gs.length xe,J xc ss.length xf] 95))=V at *;by_cases q1:L1=sh;rotate_left
   ·have HF:=Hi (HE0.out (HB.out fun q=>q1 q.1));have g1:((L1:Int) != (sh:Int))=true:=by rw[bne_iff_ne];omega
    clear HE0 HE1 HB HG;exact UA
   have g1:((L1:Int) != (sh:Int))=false:=by rw[bne_eq_false_iff_eq];omega
   by_cases q2:L2=sh;rotate_left
   ·have HF:=Hi (HE0.out (HB.out fun q=>q2 q.2.1));have g2:((L2:Int) != (sh:Int))=true:=by rw[bne_iff_ne];omega
    clear HE0 HE1 HB HG q1;exact UA
   have g2:((L2:Int) != (sh:Int))=false:=by rw[bne_eq_false_iff_eq];omega
   by_cases q3:L3=rs.length;rotate_left
   ·have HF:=Hi (HE0.out (HB.out fun q=>q3 q.2.2));have g3:((L3:Int) != (rs.length:Int))=true:=by rw[bne_iff_ne];omega
    clear HE0 HE1 HB HG q1 q2;exact UA
   have g3:((L3:Int) != (rs.length:Int))=false:=by rw[bne_eq_false_iff_eq];omega
   have HR:=Hi (HG.out q1 q2 q3);clear HB HG q1 q2 q3
   go_quiet (fail)
   have UQ:Hid (Below w.heap.size w (V.drewN nq)):=aV UV.out _;clear UV z0 z2 z3 z4 zp0 zy1 zy2 zy3 zx;go_wp2;go_roundw
   case rel=>exact⟨n+1,by omega,by go_num,HR,UQ⟩
   case measure=>simp[intOf];omega
  ·have hnn:n=l.length:=om
   have HF:Hid (E=0):=HE1.out (by
    have:=hall.out;rw[hnn]at this;exact⟨H8.out,Q1.out,Q2.out,Q3.out,fun i hi=>(this i hi).1,fun i hi=>(this i hi).2.1,fun i hi=>(this i hi).2.2⟩)
   have i1:¬(n:Int)<(l.length:Int):=om;clear hall;go_wp2;go_ret;exact⟨by rw[HF.out];rfl,hB.out⟩
end
theorem zp {p:Prop} (h:p:=by
 go_wp2_with fail
 refine H.out.mono ?_;clear H;rintro e w1 ⟨g,c,rfl,ho,hb⟩;have hB:=Hi (aC hU.out hb);have hO:=Hi (lL ho hU.out.size);clear hb ho;go_wp2;go_ret2;exact⟨g,c,rfl,hO.out,hB.out⟩):p:=h
theorem zt {p:Prop} (h:p:=by
 unfold Oper.wp execOp;simp only[ho,resolve,invoke,builtin,Sem.run_bind,Sem.run_pure,Result.andThen_ok,List.map_toArray,List.map_cons,List.map_nil,hs,hx,hrun];exact h v' w' h2 h3 h5):p:=h
theorem VT {p:Prop} (h:p:=by
 exact⟨Q,0,by rw[h,h0],fun i hi=>by omega⟩):p:=h
theorem vW {α:Type} (L:List α) (x d:α) (i:Nat) (hi:i<(L++[x]).length):(i<L.length/\(L++[x]).getD i d=L.getD i d)∨(i=L.length/\(L++[x]).getD i d=x):=by
 rw[nj,lz]at hi;by_cases h:i<L.length
 ·left;exact⟨h,by simp[List.getD,List.getElem?_append_left h]⟩
 ·right;have e:i=L.length:=om;subst e;exact⟨rfl,by simp[List.getD]⟩
def kJ (v5 v6 v7:Value) (b:Nat):Prop:=v5.ownBlock≠M b/\v6.ownBlock≠M b/\v7.ownBlock≠M b
theorem far_to5 (h:kJ v5 v6 v7 b) (hb:b<sz) (hv:v5'.ownBlock=v5.ownBlock∨v5'.ownBlock=M sz):kJ v5' v6 v7 b:=by
 refine⟨?_,?_,?_⟩
 ·rcases hv with e | e
  ·rw[e];exact h.1
  ·rw[e];intro q;injection q with q;omega
 ·exact h.2.1
 ·exact h.2.2
theorem far_to6 (h:kJ v5 v6 v7 b) (hb:b<sz) (hv:v6'.ownBlock=v6.ownBlock∨v6'.ownBlock=M sz):kJ v5 v6' v7 b:=by
 refine⟨?_,?_,?_⟩
 ·exact h.1
 ·rcases hv with e | e
  ·rw[e];exact h.2.1
  ·rw[e];intro q;injection q with q;omega
 ·exact h.2.2
theorem far_to7 (h:kJ v5 v6 v7 b) (hb:b<sz) (hv:v7'.ownBlock=v7.ownBlock∨v7'.ownBlock=M sz):kJ v5 v6 v7' b:=by
 refine⟨?_,?_,?_⟩
 ·exact h.1
 ·exact h.2.1
 ·rcases hv with e | e
  ·rw[e];exact h.2.2
  ·rw[e];intro q;injection q with q;omega
def Inn (C:Nat) (w:World) (v5 v6 v7:Value) (sh:Nat) (F:Nat->Nat->Bool) (L:List (Nat×Nat)):Prop:=
 ∀i,i<L.length->C<=(L.getD i (0,0)).1/\(L.getD i (0,0)).1<w.heap.size/\kJ v5 v6 v7 (L.getD i (0,0)).1/\∀j,j<sh->w.cell? ⟨(L.getD i (0,0)).1,j,Q⟩=bo (F i j)
def InnL (C:Nat) (w:World) (v5 v6 v7:Value) (l:List TxA) (L:List (Option Addr×Nat×Nat)):Prop:=
 ∀i,i<L.length->(L.getD i (Q,0,0)).2.1=(pP (gX l i)).length/\IsLks w (L.getD i (Q,0,0)).1 (pP (gX l i))/\∀ad,(L.getD i (Q,0,0)).1=M ad->C<=ad.block/\ad.block<w.heap.size/\kJ v5 v6 v7 ad.block
structure Tri (C:Nat) (w:World) (v5 v6 v7:Value) (sh:Nat) (l:List TxA) (L5 L6:List (Nat×Nat)) (L7:List (Option Addr×Nat×Nat)):Prop where
 o5:w.ownsRow C 104 1 v5 L5.length (L5.map fun p=>J (M ⟨p.1,0,Q⟩) sh p.2)
 o6:w.ownsRow C 104 1 v6 L6.length (L6.map fun p=>J (M ⟨p.1,0,Q⟩) sh p.2)
 o7:w.ownsRow C 265 1 v7 L7.length (L7.map fun p=>J p.1 p.2.1 p.2.2)
 d56:∀j,v5.ownBlock=M j->v6.ownBlock≠M j
 d57:∀j,v5.ownBlock=M j->v7.ownBlock≠M j
 d67:∀j,v6.ownBlock=M j->v7.ownBlock≠M j
 i5:Inn C w v5 v6 v7 sh (fun n k=>iF sh (gX l n) k) L5
 i6:Inn C w v5 v6 v7 sh (fun n k=>mW sh (gX l n) k) L6
 i7:InnL C w v5 v6 v7 l L7
theorem Inn.kept {w:World} {sh:Nat} {F:Nat->Nat->Bool} {L:List (Nat×Nat)} (h:Inn C w v5 v6 v7 sh F L) (hg:w.grownBy w' row) (hr:∀b,C<=b->b<w.heap.size->kJ v5 v6 v7 b->row≠M b/\kJ u5 u6 u7 b):Inn C w' u5 u6 u7 sh F L:=fun i hi=>by
 obtain⟨h1,h2,h3,h4⟩:=h i hi;obtain⟨q1,q2⟩:=hr _ h1 h2 h3;exact⟨h1,nd h2 hg.size,q2,fun j hj=>hg.cell (h4 j hj) (fun e=>q1 e.symm)⟩
theorem IsLks.keptBy {w:World} {L:List (Int×Bool)} (h:IsLks w a L) (hg:w.grownBy w' row) (hr:∀ad,a=M ad->row≠M ad.block):IsLks w' a L:=fun i hi=>by
 obtain⟨b,off,ha,hlt,c0,c1⟩:=h i hi;have hn:M b≠row:=fun e=>hr _ ha e.symm
 exact⟨b,off,ha,nd hlt hg.size,hg.cell c0 hn,hg.cell c1 hn⟩
theorem InnL.kept {w:World} {l:List TxA} {L:List (Option Addr×Nat×Nat)} (h:InnL C w v5 v6 v7 l L) (hg:w.grownBy w' row) (hr:∀b,C<=b->b<w.heap.size->kJ v5 v6 v7 b->row≠M b/\kJ u5 u6 u7 b):InnL C w' u5 u6 u7 l L:=fun i hi=>by
 obtain⟨h1,h2,h3⟩:=h i hi;refine⟨h1,h2.keptBy hg (fun ad e=>?_),fun ad e=>?_⟩
 ·obtain⟨q1,q2,q3⟩:=h3 ad e;exact(hr _ q1 q2 q3).1
 ·obtain⟨q1,q2,q3⟩:=h3 ad e;exact⟨q1,nd q2 hg.size,(hr _ q1 q2 q3).2⟩
theorem fU {w:World} {e size:Nat} {xs:List Value} (h:w.ownsRow C e size v n xs) (hg:w.grownBy w' row) (hr:∀j,v.ownBlock=M j->row≠M j):w'.ownsRow C e size v n xs:=by
 refine h.kept hg ?_
 cases ho:v.ownBlock with
 | none=>exact .inl rfl
 | some j=>exact .inr (fun q=>hr j ho q.symm)
theorem Tri.nil (C:Nat) (w:World) (sh:Nat) (l:List TxA):Tri C w (J Q 0 0) (J Q 0 0) (J Q 0 0) sh l [] [] []:=
 ⟨n8 _ _ _ _,n8 _ _ _ _,n8 _ _ _ _,(fun j e=>by cases e),(fun j e=>by cases e),(fun j e=>by cases e),fun i hi=>absurd hi (nl _),fun i hi=>absurd hi (nl _),fun i hi=>absurd hi (nl _)⟩
theorem Tri.on {w:World} {sh:Nat} {l:List TxA} {L5 L6:List (Nat×Nat)} {L7:List (Option Addr×Nat×Nat)} (T:Tri C w v5 v6 v7 sh l L5 L6 L7) (hg:w.grownBy w' row) (hr:∀j,row=M j->j<C):Tri C w' v5 v6 v7 sh l L5 L6 L7:=by
 have far:∀b,C<=b->row≠M b:=fun b hb e=>by have:=hr b e;omega
 exact⟨fU T.o5 hg (fun j e=>far j (T.o5.lt j e).1),fU T.o6 hg (fun j e=>far j (T.o6.lt j e).1),fU T.o7 hg (fun j e=>far j (T.o7.lt j e).1),T.d56,T.d57,T.d67,T.i5.kept hg (fun b h1 _ h3=>⟨far b h1,h3⟩),T.i6.kept hg (fun b h1 _ h3=>⟨far b h1,h3⟩),T.i7.kept hg (fun b h1 _ h3=>⟨far b h1,h3⟩)⟩
theorem Tri.below {w:World} {sh:Nat} {l:List TxA} {L5 L6:List (Nat×Nat)} {L7:List (Option Addr×Nat×Nat)} (T:Tri C w v5 v6 v7 sh l L5 L6 L7) (hb:Below w.heap.size w w'):Tri C w' v5 v6 v7 sh l L5 L6 L7:=T.on (cC hb Q) (fun j e=>by cases e)
theorem pD {v':Value} {u:Value} (hv:v'.ownBlock=v.ownBlock∨v'.ownBlock=M sz) (h:∀j,v.ownBlock=M j->u.ownBlock≠M j) (hu:∀j,u.ownBlock=M j->j<sz):∀j,v'.ownBlock=M j->u.ownBlock≠M j:=fun j e q=>by
 rcases hv with x | x
 ·rw[x]at e;exact h j e q
 ·rw[x]at e;injection e with e;have:=hu j q;omega
theorem Tri.push5 {w:World} {sh:Nat} {l:List TxA} {L5 L6:List (Nat×Nat)} {L7:List (Option Addr×Nat×Nat)} (T:Tri C w v5 v6 v7 sh l L5 L6 L7) (g c:Nat)
  (ho:w'.ownsRow C 104 1 v5' (L5.length+1) ((L5.map fun p=>J (M ⟨p.1,0,Q⟩) sh p.2)++[J (M ⟨g,0,Q⟩) sh c])) (hg:w.grownBy w' v5.ownBlock) (hv:v5'.ownBlock=v5.ownBlock∨v5'.ownBlock=M w.heap.size)
  (h1:C<=g) (h2:g<w.heap.size) (h3:kJ v5 v6 v7 g) (h4:∀j,j<sh->w.cell? ⟨g,j,Q⟩=bo (iF sh (gX l L5.length) j)):Tri C w' v5' v6 v7 sh l (L5++[(g,c)]) L6 L7:=by
 have hf:∀b,C<=b->b<_->kJ v5 v6 v7 b->_≠M b/\kJ v5' v6 v7 b:=fun b _ q2 q3=>⟨q3.1,far_to5 q3 q2 hv⟩
 refine⟨by rw[nj,ny];exact ho,fU T.o6 hg (fun j e q=>T.d56 j q e),fU T.o7 hg (fun j e q=>T.d57 j q e),pD hv T.d56 (fun j e=>(T.o6.lt j e).2),pD hv T.d57 (fun j e=>(T.o7.lt j e).2),T.d67,fun i hi=>?_,T.i6.kept hg hf,T.i7.kept hg hf⟩;rcases vW L5 (g,c) (0,0) i hi with ⟨q1,q2⟩ | ⟨q1,q2⟩
 ·rw[q2];exact(T.i5.kept hg hf) i q1
 ·rw[q2,q1];exact⟨h1,nd h2 hg.size,(hf g h1 h2 h3).2,fun j hj=>hg.cell (h4 j hj) (fun e=>h3.1 e.symm)⟩
theorem Tri.push6 {w:World} {sh:Nat} {l:List TxA} {L5 L6:List (Nat×Nat)} {L7:List (Option Addr×Nat×Nat)} (T:Tri C w v5 v6 v7 sh l L5 L6 L7) (g c:Nat)
  (ho:w'.ownsRow C 104 1 v6' (L6.length+1) ((L6.map fun p=>J (M ⟨p.1,0,Q⟩) sh p.2)++[J (M ⟨g,0,Q⟩) sh c])) (hg:w.grownBy w' v6.ownBlock) (hv:v6'.ownBlock=v6.ownBlock∨v6'.ownBlock=M w.heap.size)
  (h1:C<=g) (h2:g<w.heap.size) (h3:kJ v5 v6 v7 g) (h4:∀j,j<sh->w.cell? ⟨g,j,Q⟩=bo (mW sh (gX l L6.length) j)):Tri C w' v5 v6' v7 sh l L5 (L6++[(g,c)]) L7:=by
 have hf:∀b,C<=b->b<_->kJ v5 v6 v7 b->_≠M b/\kJ v5 v6' v7 b:=fun b _ q2 q3=>⟨q3.2.1,far_to6 q3 q2 hv⟩
 refine⟨fU T.o5 hg (fun j e q=>T.d56 j e q),by rw[nj,ny];exact ho,fU T.o7 hg (fun j e q=>T.d67 j q e),fun j e q=>(pD hv (fun j e q=>T.d56 j q e) (fun j e=>(T.o5.lt j e).2)) j q e,T.d57,pD hv T.d67 (fun j e=>(T.o7.lt j e).2),T.i5.kept hg hf,fun i hi=>?_,T.i7.kept hg hf⟩;rcases vW L6 (g,c) (0,0) i hi with ⟨q1,q2⟩ | ⟨q1,q2⟩
 ·rw[q2];exact(T.i6.kept hg hf) i q1
 ·rw[q2,q1];exact⟨h1,nd h2 hg.size,(hf g h1 h2 h3).2,fun j hj=>hg.cell (h4 j hj) (fun e=>h3.2.1 e.symm)⟩
theorem Tri.push7 {w:World} {sh:Nat} {l:List TxA} {L5 L6:List (Nat×Nat)} {L7:List (Option Addr×Nat×Nat)} (T:Tri C w v5 v6 v7 sh l L5 L6 L7) (a:Option Addr) (c:Nat)
  (ho:w'.ownsRow C 265 1 v7' (L7.length+1) ((L7.map fun p=>J p.1 p.2.1 p.2.2)++[J a (pP (gX l L7.length)).length c])) (hg:w.grownBy w' v7.ownBlock) (hv:v7'.ownBlock=v7.ownBlock∨v7'.ownBlock=M w.heap.size)
  (h1:IsLks w a (pP (gX l L7.length))) (h2:∀ad,a=M ad->C<=ad.block/\ad.block<w.heap.size/\kJ v5 v6 v7 ad.block):Tri C w' v5 v6 v7' sh l L5 L6 (L7++[(a,(pP (gX l L7.length)).length,c)]):=by
 have hf:∀b,C<=b->b<_->kJ v5 v6 v7 b->_≠M b/\kJ v5 v6 v7' b:=fun b _ q2 q3=>⟨q3.2.2,far_to7 q3 q2 hv⟩
 refine⟨fU T.o5 hg (fun j e q=>T.d57 j e q),fU T.o6 hg (fun j e q=>T.d67 j e q),by rw[nj,ny];exact ho,T.d56,fun j e q=>(pD hv (fun j e q=>T.d57 j q e) (fun j e=>(T.o5.lt j e).2)) j q e,fun j e q=>(pD hv (fun j e q=>T.d67 j q e) (fun j e=>(T.o6.lt j e).2)) j q e,T.i5.kept hg hf,T.i6.kept hg hf,fun i hi=>?_⟩;rcases vW L7 (a,(pP (gX l L7.length)).length,c) (Q,0,0) i hi with ⟨q1,q2⟩ | ⟨q1,q2⟩
 ·rw[q2];exact(T.i7.kept hg hf) i q1
 ·rw[q2,q1];refine⟨rfl,h1.keptBy hg (fun ad e=>(hf _ (h2 ad e).1 (h2 ad e).2.1 (h2 ad e).2.2).1),fun ad e=>?_⟩;obtain⟨p1,p2,p3⟩:=h2 ad e;exact⟨p1,nd p2 hg.size,(hf _ p1 p2 p3).2⟩
theorem Tri.br5 {w:World} {sh:Nat} {l:List TxA} {L5 L6:List (Nat×Nat)} {L7:List (Option Addr×Nat×Nat)} (T:Tri C w v5 v6 v7 sh l L5 L6 L7):∃a cap,v5=J a L5.length cap/\IsBR C w a L5.length sh (fun n k=>iF sh (gX l n) k):=by
 rcases T.o5.2 with ⟨h,h0⟩ | ⟨g,cap,cur,h,hb,hg,_⟩
 ·exact VT
 ·subst h;refine⟨M ⟨g,0,Q⟩,cap,rfl,fun i hi=>?_⟩;obtain⟨q1,q2,q3,q4⟩:=T.i5 i hi;have hc:=T.o5.cells (g:=g) rfl i (J (M ⟨(L5.getD i (0,0)).1,0,Q⟩) sh (L5.getD i (0,0)).2) (by simp[List.getD,hi]);rw[bZ,nw]at hc;exact⟨g,0,(L5.getD i (0,0)).1,0,(L5.getD i (0,0)).2,rfl,⟨hb,(Array.getElem?_eq_some_iff.1 hg).1⟩,⟨q1,q2⟩,by rw[nw];exact hc,fun k hk=>by rw[nw];exact q4 k hk⟩
theorem Tri.br6 {w:World} {sh:Nat} {l:List TxA} {L5 L6:List (Nat×Nat)} {L7:List (Option Addr×Nat×Nat)} (T:Tri C w v5 v6 v7 sh l L5 L6 L7):∃a cap,v6=J a L6.length cap/\IsBR C w a L6.length sh (fun n k=>mW sh (gX l n) k):=by
 rcases T.o6.2 with ⟨h,h0⟩ | ⟨g,cap,cur,h,hb,hg,_⟩
 ·exact VT
 ·subst h;refine⟨M ⟨g,0,Q⟩,cap,rfl,fun i hi=>?_⟩;obtain⟨q1,q2,q3,q4⟩:=T.i6 i hi;have hc:=T.o6.cells (g:=g) rfl i (J (M ⟨(L6.getD i (0,0)).1,0,Q⟩) sh (L6.getD i (0,0)).2) (by simp[List.getD,hi]);rw[bZ,nw]at hc;exact⟨g,0,(L6.getD i (0,0)).1,0,(L6.getD i (0,0)).2,rfl,⟨hb,(Array.getElem?_eq_some_iff.1 hg).1⟩,⟨q1,q2⟩,by rw[nw];exact hc,fun k hk=>by rw[nw];exact q4 k hk⟩
theorem Tri.lr7 {w:World} {sh:Nat} {l:List TxA} {L5 L6:List (Nat×Nat)} {L7:List (Option Addr×Nat×Nat)} (T:Tri C w v5 v6 v7 sh l L5 L6 L7) (hn:L7.length=l.length):∃a cap,v7=J a L7.length cap/\IsLR C w a l:=by
 rcases T.o7.2 with ⟨h,h0⟩ | ⟨g,cap,cur,h,hb,hg,_⟩
 ·exact VT
 ·subst h;refine⟨M ⟨g,0,Q⟩,cap,rfl,fun i hi=>?_⟩;have hi7:i<L7.length:=om;obtain⟨q1,q2,q3⟩:=T.i7 i hi7;have hc:=T.o7.cells (g:=g) rfl i (J (L7.getD i (Q,0,0)).1 (L7.getD i (Q,0,0)).2.1 (L7.getD i (Q,0,0)).2.2) (by simp[List.getD,hi7]);rw[bZ,nw,q1]at hc;exact⟨g,0,(L7.getD i (Q,0,0)).1,(L7.getD i (Q,0,0)).2.2,rfl,⟨hb,(Array.getElem?_eq_some_iff.1 hg).1⟩,by rw[nw];exact hc,q2,fun ad e=>(q3 ad e).1⟩
theorem bO {w:World} {ops:Array Oper} {o:Oper} {a:Act} {K:Act->World->Prop} {Qq:Exit->Act->World->Prop} {E:Prop} (hgd:o.guard=Q) (s x:Operand) (t e:TypeId)
  (ho:o.op=.call {callee:=.builtin .append,args:=#[s,x],argTypes:=#[t,t]}) (i:TypeInfo) (z:Value) (ht:prog.underlying t=M (.slice e)) (hi:prog.info? e=M i) (hz:i.zero=M z) (h1:i.size=1) (h24:i.bytes=24) (hzs:z.cells.size=1)
  (C:Nat) (v:Value) (n:Nat) (xs:List Value) (hs:a.eval s=v) (hown:w.ownsRow C e 1 v n xs)
  (ad:Addr) (c:Nat) (u:Value) (hx:a.eval x=J (M ad) 1 c) (hnews:w.cell? ad=M u) (hu:u.oneCell'=true)
  (hsm:n<=100) (hbase:C<=w.heap.size)
  (h:∀v' w',w'.ownsRow C e 1 v' (n+1) (xs++[u])->w.grownBy w' v.ownBlock->(v'.ownBlock=v.ownBlock∨v'.ownBlock=M w.heap.size)->K (a.put o.dst v') w') :
  if Region.wanted o (yielded ops a.tmps)=true then Oper.wp prog o a w K Qq else E:=by
 have hw:Region.wanted o (yielded ops a.tmps)=true:=by simp[Region.wanted,hgd]
 rw[if_pos hw]
 obtain⟨v',w',hrun,h2,h3,_,h5⟩:=run_append_own_at (P:=prog) w C t o.type e i z 1 24 ht hi hz h1 h24 hzs dc v n xs hown ad 1 c [u] rfl (fun j q hj=>by
  match j,hj with
  | 0,hj=>simp at hj;subst hj;simpa[Addr.add]using hnews
  | j+1,hj=>simp at hj) (fun q hq=>by simp at hq;subst hq;exact hu) (by unfold maxLen;omega) om hbase
 exact zt
theorem info104:(prog.info? 104).map (fun i=>(i.zero,i.size,i.bytes))=M (M (J Q 0 0),1,24):=by kernel_rfl
theorem info265:(prog.info? 265).map (fun i=>(i.zero,i.size,i.bytes))=M (M (J Q 0 0),1,24):=by kernel_rfl
theorem uO (a:Option Addr) (k c:Nat) (w:World):Calls prog 231 #[J a k c,Y I 0] w fun e' w'=>e'=rt (J a k c)/\w'=w.alloc (U #[Y I 0] 22):=by
 go_enter func231,ntmps231;exact vr
theorem part_own (la:Option Addr) (lc:Nat) (l:List TxA) (sh k:Nat) (w:World) (hl:IsTxs w la l) (he:yO sh l k=0) :
  Calls prog 232 #[ag #[Y I sh,J la l.length lc],Y I k] w fun e w'=>∃g c,e=rt (tu #[J (M ⟨g,0,Q⟩) sh c,Y I 0])/\w'.ownsRow w.heap.size 4 1 (J (M ⟨g,0,Q⟩) sh c) sh ((aY sh (aT (aO l k))).map bo)/\Below w.heap.size w w':=by
 have hg:Below _ w (((w.alloc (U #[Y I sh,J la l.length lc] 29)).alloc (U #[Y I k] 3)).alloc (U #[Y I 0] 22)):=aA (aA (aA br _) _) _;have h0:(((w.alloc (U #[Y I sh,J la l.length lc] 29)).alloc (U #[Y I k] 3)).alloc (U #[Y I 0] 22)).cell? _=Y I sh:=aB (aA br _) (aB (aA br _) (aF w _ 29 _ 0 _ rfl rfl));have h1:(((w.alloc (U #[Y I sh,J la l.length lc] 29)).alloc (U #[Y I k] 3)).alloc (U #[Y I 0] 22)).cell? _=J la _ lc:=aB (aA br _) (aB (aA br _) (aF w _ 29 _ 1 _ rfl rfl));have h2:(((w.alloc (U #[Y I sh,J la l.length lc] 29)).alloc (U #[Y I k] 3)).alloc (U #[Y I 0] 22)).cell? ⟨w.heap.size+1,0,Q⟩=Y I k:=aB (aA br _) (aF _ _ 3 _ 0 _ sm rfl);have H:=Hi (vI _ sh _ _ (part1_ok la lc l sh k _ _ _ h0 h1 h2 (hl.below hg) he));have hU:Hid (Below _ w ((w.alloc (U #[Y I sh,J la l.length lc] 29)).alloc (U #[Y I k] 3))):=aA (aA br _) _;clear h0 h1 h2 hg;go_enter func232,ntmps232;exact zp
theorem active_own (la:Option Addr) (lc:Nat) (l:List TxA) (sh k:Nat) (w:World) (hl:IsTxs w la l) (he:yO sh l k=0) :
  Calls prog 233 #[ag #[Y I sh,J la l.length lc],Y I k] w fun e w'=>∃g c,e=rt (tu #[J (M ⟨g,0,Q⟩) sh c,Y I 0])/\w'.ownsRow w.heap.size 4 1 (J (M ⟨g,0,Q⟩) sh c) sh ((aY sh (aR (aO l k))).map bo)/\Below w.heap.size w w':=by
 have hg:Below _ w (((w.alloc (U #[Y I sh,J la l.length lc] 29)).alloc (U #[Y I k] 3)).alloc (U #[Y I 0] 22)):=aA (aA (aA br _) _) _;have h0:(((w.alloc (U #[Y I sh,J la l.length lc] 29)).alloc (U #[Y I k] 3)).alloc (U #[Y I 0] 22)).cell? _=Y I sh:=aB (aA br _) (aB (aA br _) (aF w _ 29 _ 0 _ rfl rfl));have h1:(((w.alloc (U #[Y I sh,J la l.length lc] 29)).alloc (U #[Y I k] 3)).alloc (U #[Y I 0] 22)).cell? _=J la _ lc:=aB (aA br _) (aB (aA br _) (aF w _ 29 _ 1 _ rfl rfl));have h2:(((w.alloc (U #[Y I sh,J la l.length lc] 29)).alloc (U #[Y I k] 3)).alloc (U #[Y I 0] 22)).cell? ⟨w.heap.size+1,0,Q⟩=Y I k:=aB (aA br _) (aF _ _ 3 _ 0 _ sm rfl);have H:=Hi (sE _ sh _ _ (active1_ok la lc l sh k _ _ _ h0 h1 h2 (hl.below hg) he));have hU:Hid (Below _ w ((w.alloc (U #[Y I sh,J la l.length lc] 29)).alloc (U #[Y I k] 3))):=aA (aA br _) _;clear h0 h1 h2 hg;go_enter func233,ntmps233;exact zp
section
variable (ra ga sa:Option Addr) (rc gc sc:Nat) (rs:List Int) (gs:List Gd) (ss:List St)
theorem locks_okA (w:World) (ht:IsTx w ra ga sa rs gs ss) (hc:bP rs gs ss=0) (h3:ss.length<=3) :
  Calls prog 235 #[ag #[J ra rs.length rc,J ga gs.length gc,J sa ss.length sc]] w fun e w'=>∃a cap,e=rt (tu #[J a (bQ rs (aJ ss) 8).length cap,Y I 0])/\(IsLks w' a (bQ rs (aJ ss) 8)/\∀ad,a=M ad->w.heap.size<=ad.block)/\Below w.heap.size w w':=by
 obtain⟨i0,hi,hz0,hz1,hz2⟩:=info_parts info286;have HT:=Hi ht;have HC:=Hi hc;have hkl:Hid ((aJ ss).length<=maxLen):=by rw[cM];exact ht.ls
 clear ht hc;go_enter func235,ntmps235
 go_wp2_with fail
 refine(fA ra ga sa rc gc sc rs gs ss _ (HT.out.below (aA br _))).mono ?_;rintro e w1 ⟨rfl,hb1⟩;rw[HC.out];have x0:w1.cell? ⟨w.heap.size,0,Q⟩=J ra rs.length rc:=(hb1.cell sm).trans sm;have x1:w1.cell? ⟨w.heap.size,1,Q⟩=J ga gs.length gc:=(hb1.cell sm).trans sm;have x2:w1.cell? ⟨w.heap.size,2,Q⟩=J sa ss.length sc:=(hb1.cell sm).trans sm;have B1:=aC (aA br _) hb1;clear hb1 HC
 go_wp2_with fail
 refine(lH ra ga sa rc gc sc rs gs ss _ (HT.out.below B1) h3).mono ?_;rintro e W ⟨ka,kc,rfl,hka,hbW⟩;have y0:=aB hbW x0;have hW:=Hi (aC B1 hbW);have hra:=Hi (HT.out.r.below hW.out);have hlr:=Hi HT.out.lr;have HKA:=Hi hka;have hq:w.heap.size<W.heap.size:=np W _ y0;clear x0 x1 x2 B1 hbW HT hka;generalize hB:W.heap.size=B at *
 go_wp2_with fail
 go_loopw [5,7,8,16] (fun v _ _ i wr=>∃k:Nat,k<=8/\i=Y I k/\wr.ownsRow B 286 2 v (bQ rs (aJ ss) k).length (fZ (bQ rs (aJ ss) k))/\Below B W wr) (fun _ _ _ i _=>8 - (intOf i).toNat)
 case atStart=>exact⟨0,nz,rfl,n8 _ _ _ _,br⟩
 case round=>
  obtain⟨k,hk,rfl,hown,hnx⟩:=hrel;have hsz:B<=wr.heap.size:=by have:=hnx.size;omega
  have q0:=(hnx.cell (p:=⟨w.heap.size,0,Q⟩) hq).trans y0;have hll:=oK rs (aJ ss) k;by_cases hlt:k<8
  ·exact ub
  ·have hk8:k=8:=om;subst hk8;obtain⟨a,cap,hv,hL⟩:=uK hown rfl
   have hlow:Hid (∀ad,a=M ad->w.heap.size<=ad.block):=fun ad e=>by
    have h:=(hown.lt ad.block (by rw[hv,e];rfl)).1;omega
   have RB:=hW.out.trans (hnx.mono om);rw[hv];clear hown hnx hv;go_wp2;go_ret2;exact⟨a,cap,rfl,⟨hL,hlow.out⟩,RB⟩
end
theorem zb {p:Prop} (h:p:=by
 simp only[World.frozen?_setCell];exact(nv (a:=⟨H,j,Q⟩) (hg.block H hc.hs hn)).trans (hc.fz j)):p:=h
theorem Uj {p:Prop} (h:p:=by
 rw[nt _ _ _ _ (by simpa using hHp)];exact hg.cell hc.p0 hp):p:=h
theorem Uk {p:Prop} (h:p:=by
 rw[nt _ _ _ _ (by simpa using hHp)];exact hg.cell hc.p1 hp):p:=h
theorem UG {p:Prop} (h:p:=by
 simp only[World.size_setCell];exact nd hc.hs hg.size):p:=h
structure HL (w0 w:World) (H p sh:Nat) (l:List TxA) (la:Option Addr) (lc:Nat) (s1 s2 s3 s4 v5 v6 v7:Value) (L5 L6:List (Nat×Nat)) (L7:List (Option Addr×Nat×Nat)):Prop where
 c0:w.cell? ⟨H,0,Q⟩=pd (M ⟨p,0,Q⟩)
 c1:w.cell? ⟨H,1,Q⟩=M s1
 c2:w.cell? ⟨H,2,Q⟩=M s2
 c3:w.cell? ⟨H,3,Q⟩=M s3
 c4:w.cell? ⟨H,4,Q⟩=M s4
 c5:w.cell? ⟨H,5,Q⟩=M v5
 c6:w.cell? ⟨H,6,Q⟩=M v6
 c7:w.cell? ⟨H,7,Q⟩=M v7
 fz:∀j,w.frozen? ⟨H,j,Q⟩=false
 p0:w.cell? ⟨p,0,Q⟩=Y I sh
 p1:w.cell? ⟨p,1,Q⟩=J la l.length lc
 tri:Tri (H+1) w v5 v6 v7 sh l L5 L6 L7
 bl:Below w0.heap.size w0 w
 hw:w0.heap.size<=H
 hp:p<H
 hs:H<w.heap.size
theorem HL.below {w:World} {p sh:Nat} {l:List TxA} {la:Option Addr} {lc:Nat} {L5 L6:List (Nat×Nat)} {L7:List (Option Addr×Nat×Nat)} (h:HL w0 w H p sh l la lc s1 s2 s3 s4 v5 v6 v7 L5 L6 L7) (hb:Below w.heap.size w w'):HL w0 w' H p sh l la lc s1 s2 s3 s4 v5 v6 v7 L5 L6 L7:=
 ⟨aB hb h.c0,aB hb h.c1,aB hb h.c2,aB hb h.c3,aB hb h.c4,aB hb h.c5,aB hb h.c6,aB hb h.c7,fun j=>(hb.frozen (p:=⟨H,j,Q⟩) h.hs).trans (h.fz j),aB hb h.p0,aB hb h.p1,h.tri.below hb,aC h.bl hb,h.hw,h.hp,nd h.hs hb.size⟩
theorem HL.push5 {wc:World} {p sh:Nat} {l:List TxA} {la:Option Addr} {lc:Nat} {L5 L6:List (Nat×Nat)} {L7:List (Option Addr×Nat×Nat)} (hV:HL w0 V H p sh l la lc s1 s2 s3 s4 v5 v6 v7 L5 L6 L7) (hb:Below V.heap.size V wc) (g c:Nat)
  (ho:w3.ownsRow (H+1) 104 1 v5' (L5.length+1) ((L5.map fun p=>J (M ⟨p.1,0,Q⟩) sh p.2)++[J (M ⟨g,0,Q⟩) sh c])) (hg:wc.grownBy w3 v5.ownBlock) (hv:v5'.ownBlock=v5.ownBlock∨v5'.ownBlock=M wc.heap.size)
  (h1:H+1<=g) (h2:g<wc.heap.size) (h3:V.heap.size<=g) (h4:∀j,j<sh->wc.cell? ⟨g,j,Q⟩=bo (iF sh (gX l L5.length) j)) :
  HL w0 (w3.setCell ⟨H,5,Q⟩ v5') H p sh l la lc s1 s2 s3 s4 v5' v6 v7 (L5++[(g,c)]) L6 L7:=by
 have hc:=hV.below hb;have hn:M H≠v5.ownBlock:=fun e=>by have:=(hc.tri.o5.lt H e.symm).1;omega
 have hp:M p≠v5.ownBlock:=fun e=>by have:=(hc.tri.o5.lt p e.symm).1;have:=hc.hp;omega
 have far:∀b,V.heap.size<=b->kJ v5 v6 v7 b:=fun b hb'=>⟨fun e=>by have:=(hV.tri.o5.lt b e).2;omega,fun e=>by have:=(hV.tri.o6.lt b e).2;omega,fun e=>by have:=(hV.tri.o7.lt b e).2;omega⟩
 have T:=hc.tri.push5 g c ho hg hv h1 h2 (far g h3) h4;have hHp:H≠p:=by have:=hc.hp;omega
 have hbl:=hc.bl.grown hg hc.bl.size (fun j e=>by have:=(hc.tri.o5.lt j e).1;have:=hc.hw;omega);refine⟨(aE dc (hg.cell hc.c0 hn)),(aE dc (hg.cell hc.c1 hn)),(aE dc (hg.cell hc.c2 hn)),(aE dc (hg.cell hc.c3 hn)),(aE dc (hg.cell hc.c4 hn)),(aK (hg.cell hc.c5 hn)),(aE dc (hg.cell hc.c6 hn)),(aE dc (hg.cell hc.c7 hn)),fun j=>?_,?_,?_,T.on (aP w3 H 5 _) (fun j e=>by injection e with e;omega),aG hbl hc.hw _,hc.hw,hc.hp,?_⟩
 ·exact zb
 ·exact Uj
 ·exact Uk
 ·exact UG
theorem HL.push6 {wc:World} {p sh:Nat} {l:List TxA} {la:Option Addr} {lc:Nat} {L5 L6:List (Nat×Nat)} {L7:List (Option Addr×Nat×Nat)} (hV:HL w0 V H p sh l la lc s1 s2 s3 s4 v5 v6 v7 L5 L6 L7) (hb:Below V.heap.size V wc) (g c:Nat)
  (ho:w3.ownsRow (H+1) 104 1 v6' (L6.length+1) ((L6.map fun p=>J (M ⟨p.1,0,Q⟩) sh p.2)++[J (M ⟨g,0,Q⟩) sh c])) (hg:wc.grownBy w3 v6.ownBlock) (hv:v6'.ownBlock=v6.ownBlock∨v6'.ownBlock=M wc.heap.size)
  (h1:H+1<=g) (h2:g<wc.heap.size) (h3:V.heap.size<=g) (h4:∀j,j<sh->wc.cell? ⟨g,j,Q⟩=bo (mW sh (gX l L6.length) j)) :
  HL w0 (w3.setCell ⟨H,6,Q⟩ v6') H p sh l la lc s1 s2 s3 s4 v5 v6' v7 L5 (L6++[(g,c)]) L7:=by
 have hc:=hV.below hb;have hn:M H≠v6.ownBlock:=fun e=>by have:=(hc.tri.o6.lt H e.symm).1;omega
 have hp:M p≠v6.ownBlock:=fun e=>by have:=(hc.tri.o6.lt p e.symm).1;have:=hc.hp;omega
 have far:∀b,V.heap.size<=b->kJ v5 v6 v7 b:=fun b hb'=>⟨fun e=>by have:=(hV.tri.o5.lt b e).2;omega,fun e=>by have:=(hV.tri.o6.lt b e).2;omega,fun e=>by have:=(hV.tri.o7.lt b e).2;omega⟩
 have T:=hc.tri.push6 g c ho hg hv h1 h2 (far g h3) h4;have hHp:H≠p:=by have:=hc.hp;omega
 have hbl:=hc.bl.grown hg hc.bl.size (fun j e=>by have:=(hc.tri.o6.lt j e).1;have:=hc.hw;omega);refine⟨(aE dc (hg.cell hc.c0 hn)),(aE dc (hg.cell hc.c1 hn)),(aE dc (hg.cell hc.c2 hn)),(aE dc (hg.cell hc.c3 hn)),(aE dc (hg.cell hc.c4 hn)),(aE dc (hg.cell hc.c5 hn)),(aK (hg.cell hc.c6 hn)),(aE dc (hg.cell hc.c7 hn)),fun j=>?_,?_,?_,T.on (aP w3 H 6 _) (fun j e=>by injection e with e;omega),aG hbl hc.hw _,hc.hw,hc.hp,?_⟩
 ·exact zb
 ·exact Uj
 ·exact Uk
 ·exact UG
theorem HL.push7 {wc:World} {p sh:Nat} {l:List TxA} {la:Option Addr} {lc:Nat} {L5 L6:List (Nat×Nat)} {L7:List (Option Addr×Nat×Nat)} (hV:HL w0 V H p sh l la lc s1 s2 s3 s4 v5 v6 v7 L5 L6 L7) (hb:Below V.heap.size V wc) (a:Option Addr) (c:Nat)
  (ho:w3.ownsRow (H+1) 265 1 v7' (L7.length+1) ((L7.map fun p=>J p.1 p.2.1 p.2.2)++[J a (pP (gX l L7.length)).length c])) (hg:wc.grownBy w3 v7.ownBlock) (hv:v7'.ownBlock=v7.ownBlock∨v7'.ownBlock=M wc.heap.size)
  (h1:IsLks wc a (pP (gX l L7.length))) (h2:∀ad,a=M ad->V.heap.size<=ad.block/\ad.block<wc.heap.size) :
  HL w0 (w3.setCell ⟨H,7,Q⟩ v7') H p sh l la lc s1 s2 s3 s4 v5 v6 v7' L5 L6 (L7++[(a,(pP (gX l L7.length)).length,c)]):=by
 have hc:=hV.below hb;have hn:M H≠v7.ownBlock:=fun e=>by have:=(hc.tri.o7.lt H e.symm).1;omega
 have hp:M p≠v7.ownBlock:=fun e=>by have:=(hc.tri.o7.lt p e.symm).1;have:=hc.hp;omega
 have far:∀b,V.heap.size<=b->kJ v5 v6 v7 b:=fun b hb'=>⟨fun e=>by have:=(hV.tri.o5.lt b e).2;omega,fun e=>by have:=(hV.tri.o6.lt b e).2;omega,fun e=>by have:=(hV.tri.o7.lt b e).2;omega⟩
 have T:=hc.tri.push7 a c ho hg hv h1 (fun ad e=>⟨by have:=(h2 ad e).1;have:=hV.hs;omega,(h2 ad e).2,far _ (h2 ad e).1⟩);have hHp:H≠p:=by have:=hc.hp;omega
 have hbl:=hc.bl.grown hg hc.bl.size (fun j e=>by have:=(hc.tri.o7.lt j e).1;have:=hc.hw;omega);refine⟨(aE dc (hg.cell hc.c0 hn)),(aE dc (hg.cell hc.c1 hn)),(aE dc (hg.cell hc.c2 hn)),(aE dc (hg.cell hc.c3 hn)),(aE dc (hg.cell hc.c4 hn)),(aE dc (hg.cell hc.c5 hn)),(aE dc (hg.cell hc.c6 hn)),(aK (hg.cell hc.c7 hn)),fun j=>?_,?_,?_,T.on (aP w3 H 7 _) (fun j e=>by injection e with e;omega),aG hbl hc.hw _,hc.hw,hc.hp,?_⟩
 ·exact zb
 ·exact Uj
 ·exact Uk
 ·exact UG
end Go.Proofs.YtcgpkonfneofdaaGreatDoor
