/- Conditions: those that each theorem states. -/
import Derived.Test.YtcgpkonfneofdaaGreatDoorQStoreF
set_option maxRecDepth 100000
set_option maxHeartbeats 8000000
namespace Go.Proofs.YtcgpkonfneofdaaGreatDoor
open Go.RowKit Go.Proofs.Tryz
open Go.Value renaming slice->J,int->Y,bool->bo,pointer->pd,agg->ag,tuple->tu,string->sg,iface->fc
open Go.IntKind renaming i64->I
open Go.Obj renaming cells->U
open Go.Ending renaming returned->rt,panicked->pg
open Option renaming some->M,none->Q
variable {C ec xc:Nat} {w w':World} {ea xa:Option Addr} {E:List Int}
section
def SO (C:Nat) (w:World) (ea:Option Addr) (ec:Nat) (xa:Option Addr) (xc:Nat) (E:List Int) (R:List (Bool×List Int)):Prop:=
 IsAt C w.heap.size w ea E/\(ea=Q->ec=0)/\∃rl,ResRow C w (J xa R.length xc) rl/\rl.map RsA.told=R
theorem SO.set {R:List (Bool×List Int)} (h:SO C w ea ec xa xc E R) (b i:Nat) (v:Value) (hb:b<C):SO C (w.setCell ⟨b,i,Q⟩ v) ea ec xa xc E R:=by
 obtain⟨h1,h2,rl,h3,h4⟩:=h;exact⟨(h1.set ⟨b,i,Q⟩ v (.inl hb)).widen nr sm,h2,rl,h3.kept (aP w b i v) (fun j e=>by injection e with e;omega),h4⟩
theorem SO.below {R:List (Bool×List Int)} (h:SO C w ea ec xa xc E R) (hb:Below w.heap.size w w'):SO C w' ea ec xa xc E R:=by
 obtain⟨h1,h2,rl,h3,h4⟩:=h;exact⟨(h1.below hb).widen nr hb.size,h2,rl,h3.below hb,h4⟩
theorem SO.mono {C':Nat} {R:List (Bool×List Int)} (h:SO C w ea ec xa xc E R) (hc:C'<=C):SO C' w ea ec xa xc E R:=by
 obtain⟨h1,h2,rl,h3,h4⟩:=h;exact⟨h1.widen hc nr,h2,rl,uF h3 hc,h4⟩
theorem SO.ints {R:List (Bool×List Int)} (h:SO C w ea ec xa xc E R):IsInts w ea E:=h.1.ints nr
theorem SO.res {R:List (Bool×List Int)} (h:SO C w ea ec xa xc E R):IsRes w xa R:=by
 obtain⟨h1,h2,rl,h3,h4⟩:=h;obtain⟨a,cap,he,hr⟩:=h3.res;injection he with e1 e2 e3
 subst e1;rw[h4]at hr;exact hr
theorem so_none (C:Nat) (w:World):SO C w Q 0 Q 0 [] []:=⟨fun i hi=>absurd hi sm,fun _=>rfl,[],kS _ _,rfl⟩
def cP (s:List Int):Int:=if s.length=8 then 0 else 1
theorem dE (s:List Int) (sa:Option Addr) (sc:Nat) (w:World) :
  Calls prog 78 #[J sa s.length sc] w fun e w'=>e=rt (Y I (cP s))/\w'=w:=wH s sa sc w
def fN (s:List Int) (l:List TxA):Int:=aH [cP s,eN l]
theorem iY {s:List Int} {l:List TxA} (h:fN s l=0):s.length=8/\eN l=0:=by
 have h':=aW _ h;have h0:cP s=0:=by simpa using h' 0
 unfold cP at h0;refine⟨?_,by simpa using h' 1⟩;by_cases c:s.length=8
 ·exact c
 ·rw[if_neg c]at h0;omega
theorem ext2 {W:World} {p1 p2:Addr} {v1 v2:Value} (hb:Below W.heap.size W w') (q1:W.cell? p1=M v1) (q2:W.cell? p2=M v2) :
  Below W.heap.size W w'/\w'.cell? p1=M v1/\w'.cell? p2=M v2:=⟨hb,aB hb q1,aB hb q2⟩
variable (sa la:Option Addr) (sc lc:Nat) (s:List Int) (l:List TxA)
theorem ser1_pan (p q:Nat) (w:World) (h0:w.cell? ⟨p,0,Q⟩=J sa s.length sc) (h1:w.cell? ⟨q,0,Q⟩=J la l.length lc) (hl:IsTxs w la l) (he:¬fN s l=0) :
  Kp 223 #[pd (M ⟨p,0,Q⟩),pd (M ⟨q,0,Q⟩)] w (fN s l):=by
 have HE:Hid (¬aH [cP s,eN l]=0):=he;have HV:Hid (fN s l=aH [cP s,eN l]):=rfl;clear he;have hW:Hid (Below _ w (w.alloc (U #[J Q 0 0,J Q 0 0] 250))):=aA br _;have HLW:=Hi (hl.below hW.out);have y0:=aB hW.out h0;have y1:=aB hW.out h1;clear hl h0 h1;go_enter func223,ntmps223
 go_wp2_with fail
 generalize w.alloc (U #[J Q 0 0,J Q 0 0] 250)=W at *
 go_region_held (fun w'=>Below W.heap.size W w'/\w'.cell? ⟨p,0,Q⟩=J sa s.length sc/\w'.cell? ⟨q,0,Q⟩=J la l.length lc) ((go_split_ands;refine ext2 ?_ y0 y1;repeat (first | assumption | exact br | refine aD ?_ | refine aA ?_ _ | refine aC ?_ (by assumption))))
  (first
   | (go_at_call 78;refine(dE s sa sc _).mono ?_;rintro e w' ⟨rfl,rfl⟩)
   | (go_at_call 64;refine(kY la lc l _ ?_).mono ?_;(refine HLW.out.below ?_;go_split_ands;repeat (first | assumption | exact br | refine aD ?_ | refine aA ?_ _ | refine aC ?_ (by assumption)));rintro e w' ⟨rfl,hbx⟩)
   | (go_at_call 15;refine(fT (dR [cP s,eN l] _ 2 _ sm HE.out ?_) (tu #[])).mono ?_;(exact lS _ _ _ _ sm);rintro e w' (⟨rfl,rfl⟩ | ⟨hF,rfl,rfl⟩);(refine⟨rfl,by rw[HV.out],aC hW.out ?_⟩;go_split_ands;repeat (first | assumption | exact br | refine aD ?_ | refine aA ?_ _ | refine aC ?_ (by assumption)))))
 exact xq
theorem ser1_ok (p q:Nat) (w:World) (h0:w.cell? ⟨p,0,Q⟩=J sa s.length sc) (h1:w.cell? ⟨q,0,Q⟩=J la l.length lc) (hs:IsInts w sa s) (hl:IsTxs w la l) (he:fN s l=0) :
  Calls prog 223 #[pd (M ⟨p,0,Q⟩),pd (M ⟨q,0,Q⟩)] w fun e w'=>∃ea ec xa xc,e=rt (ag #[J ea (bK s l).length ec,J xa (bE s l).length xc])/\SO w.heap.size w' ea ec xa xc (bK s l) (bE s l)/\Below w.heap.size w w':=by
 have H8:=Hi ((iY he).1);have HC:=Hi ((iY he).2);have HE:Hid (aH [cP s,eN l]=0):=he;have HLN:Hid ((bK s l).length=_):=fQ _ _;clear he;have hW:Hid (Below _ w (w.alloc (U #[J Q 0 0,J Q 0 0] 250))):=aA br _;have HLW:=Hi (hl.below hW.out);have HSW:=Hi (hs.below hW.out);have y0:=aB hW.out h0;have y1:=aB hW.out h1;have v0:(w.alloc (U #[J Q 0 0,J Q 0 0] 250)).cell? ⟨w.heap.size,0,Q⟩=J Q 0 0:=sm;have v1:(w.alloc (U #[J Q 0 0,J Q 0 0] 250)).cell? ⟨w.heap.size,1,Q⟩=J Q 0 0:=sm;have vf:∀j,(w.alloc (U #[J Q 0 0,J Q 0 0] 250)).frozen? ⟨w.heap.size,j,Q⟩=false:=fun j=>by simp
 have hqW:w.heap.size<(w.alloc (U #[J Q 0 0,J Q 0 0] 250)).heap.size:=sm;clear hl hs h0 h1;go_enter func223,ntmps223
 go_wp2_with fail
 generalize w.alloc (U #[J Q 0 0,J Q 0 0] 250)=W at *
 go_region_held3 (fun w'=>Below W.heap.size W w'/\w'.cell? ⟨p,0,Q⟩=J sa s.length sc/\w'.cell? ⟨q,0,Q⟩=J la l.length lc) ((go_split_ands;refine ext2 ?_ y0 y1;repeat (first | assumption | exact br | refine aD ?_ | refine aA ?_ _ | refine aC ?_ (by assumption))))
  (first
   | (go_at_call 78;refine(dE s sa sc _).mono ?_;rintro e w' ⟨rfl,rfl⟩)
   | (go_at_call 64;refine(kY la lc l _ ?_).mono ?_;(refine HLW.out.below ?_;go_split_ands;repeat (first | assumption | exact br | refine aD ?_ | refine aA ?_ _ | refine aC ?_ (by assumption)));rintro e w' ⟨rfl,hbx⟩)
   | (go_at_call 15;refine(aQ [cP s,eN l] _ 2 _ sm HE.out ?_).mono ?_;(exact lS _ _ _ _ sm);rintro e w' ⟨rfl,rfl⟩))
 all_goals (
  go_split_ands
  go_wp2_with fail
  refine(yZ sa la sc lc s l _ (HSW.out.below ?_) H8.out (HLW.out.below ?_) HC.out).mono ?_
  ·assumption
  ·assumption
  rintro e w2 ⟨g,cap,xv,rl,rfl,hst,hres,htl,hb2⟩
  obtain⟨xa,xc,hv⟩:∃xa xc,xv=J xa rl.length xc:=by
   rcases hres.1.2 with ⟨h,h0⟩ | ⟨g2,cap2,cur,h,_⟩
   ·exact⟨Q,0,by rw[h,h0]⟩
   ·exact⟨_,_,h⟩
  subst hv;have hrl:rl.length=(bE s l).length:=by rw[<-htl,lm]
  rw[hrl]at hres ⊢;rw[<-HLN.out]at hst ⊢
  have hb3:Below W.heap.size W w2:=by
   refine aC ?_ hb2;assumption
  have hso:Hid (SO (w.heap.size+1) w2 (M ⟨g,0,Q⟩) cap xa xc (bK s l) (bE s l)):=by
   obtain⟨a',c',he',hi'⟩:=gC hst;injection he' with e1 e2 e3
   subst e1;exact SO.mono ⟨hi',(fun h=>by cases h),rl,hres,htl⟩ (nh hqW (Below.size (B:=W.heap.size) (by assumption)))
  have x0:=aB hb3 v0;have x1:=aB hb3 v1;have xf:=fun j=>(hb3.frozen (p:=⟨w.heap.size,j,Q⟩) hqW).trans (vf j)
  have B3:=Hi (aC hW.out hb3);clear hst hres htl hb2 hb3 v0 v1 vf HLW HSW HLN hrl;go_wp2;refine bodyPost_ret (v:=ag #[J (M ⟨g,0,Q⟩) (bK s l).length cap,J xa (bE s l).length xc]) (by simp[results,results223,go_sem,x0,x1]) rfl ⟨_,cap,xa,xc,rfl,?_,?_⟩
  ·exact((hso.out.set _ 0 _ (nk _)).set _ 1 _ (nk _)).mono om
  ·exact aG (aG B3.out nr _) nr _)
theorem tU (p:Addr) (x y:Int) (older:List PanicEntry) (w:World) (hc:w.cell? p=M (Y I y)) (hz:w.frozen? p=false) :
  CallsD prog 260 #[pd (M p)] (.panicking ({v:=fc 22 (Y I x),recovered:=false}::older)) w fun e u' w'=>
   e=rt (tu #[])/\u'=.panicking ({v:=fc 22 (Y I x),recovered:=true}::older)/\w'=w.setCell p (Y I x):=by
 refine callsD_of_wpS func260 rfl fun c₀ cs hu=>?_
 apply wpS_seq;apply wpS_region;simp[wpOpsS,go_sem,recoverD,hu,ntmps260,Exit.thenS];apply wpS_seq;apply wpS_region;simp[wpOpsS,go_sem,Exit.thenS];refine wpS_cond (t:=true) (by simp[Act.eval,Array.replicate]) ?_;simp only[if_true];apply wpS_region;simp[wpOpsS,go_sem,cQ,hc,hz,bodyPostS,results,results260]
theorem catchS_idle (p:Addr) (w:World) :
  CallsD prog 260 #[pd (M p)] .returning w fun e u' w'=>e=rt (tu #[])/\u'=.returning/\w'=w:=by
 refine callsD_of_wpS func260 rfl fun c₀ cs hu=>?_
 apply wpS_seq;apply wpS_region;simp[wpOpsS,go_sem,recoverD,hu,ntmps260,Exit.thenS];apply wpS_seq;apply wpS_region;simp[wpOpsS,go_sem,Exit.thenS];refine wpS_cond (t:=false) (by simp[Act.eval,Array.replicate]) ?_;simp only[Bool.false_eq_true,if_false];refine wpS_of_wp (wp_skip ?_)
 cases c₀
 simp_all [bodyPostS,results,results260]
theorem caught_s_ret (cap:Array Value) (E:List Int) (R:List (Bool×List Int)) (w:World)
  (h:Calls prog 223 cap ((w.alloc (U #[J Q 0 0,J Q 0 0] 250)).alloc (U #[Y I 0] 22)) fun e w'=>∃ea ec xa xc,e=rt (ag #[J ea E.length ec,J xa R.length xc])/\SO ((w.alloc (U #[J Q 0 0,J Q 0 0] 250)).alloc (U #[Y I 0] 22)).heap.size w' ea ec xa xc E R/\Below ((w.alloc (U #[J Q 0 0,J Q 0 0] 250)).alloc (U #[Y I 0] 22)).heap.size ((w.alloc (U #[J Q 0 0,J Q 0 0] 250)).alloc (U #[Y I 0] 22)) w') :
  Calls prog 222 #[.func (.func 223) #[] cap] w fun e w'=>∃ea ec xa xc,e=rt (tu #[ag #[J ea E.length ec,J xa R.length xc],Y I 0])/\SO w.heap.size w' ea ec xa xc E R/\Below w.heap.size w w':=by
 have H:=Hi h;clear h;go_enter_defers func222,ntmps222
 go_wp2_with fail
 refine H.out.mono ?_;clear H;rintro e w1 ⟨ea,ec,xa,xc,rfl,hso,hb⟩;have e0:w1.cell? ⟨w.heap.size+1,0,Q⟩=Y I 0:=(hb.cell sm).trans sm;have ef:∀j,w1.frozen? _=false:=fun j=>(hb.frozen (p:=⟨w.heap.size+1,j,Q⟩) sm).trans sm
 have c0:w1.cell? ⟨w.heap.size,0,Q⟩=J Q 0 0:=(hb.cell (by simp;omega)).trans ((ni _ _ _ sm).trans sm);have c1:w1.cell? ⟨w.heap.size,1,Q⟩=J Q 0 0:=(hb.cell (by simp;omega)).trans ((ni _ _ _ sm).trans sm);have cf:∀j,w1.frozen? _=false:=fun j=>(hb.frozen (p:=⟨w.heap.size,j,Q⟩) (by simp;omega)).trans (((aA (n7 (w.alloc (U #[J Q 0 0,J Q 0 0] 250)).heap.size (w.alloc (U #[J Q 0 0,J Q 0 0] 250))) (U #[Y I 0] 22)).frozen (p:=⟨w.heap.size,j,Q⟩) sm).trans sm)
 have hso':Hid (SO (w.heap.size+2) w1 ea ec xa xc E R):=hso.mono sm;have B1:=Hi (aC (aA (aA br _) _) hb);clear hb hso;go_wp2;refine leaves_cons (f:=260) (args:=#[pd (M ⟨w.heap.size+1,0,Q⟩)]) sm (by simp[go_sem]) ?_;refine(catchS_idle ⟨w.heap.size+1,0,Q⟩ _).mono ?_;rintro e u' w'' ⟨rfl,rfl,rfl⟩;simp[Leaves,settle,results,results222,go_sem,e0,c0,c1];refine⟨ea,ec,xa,xc,⟨⟨rfl,rfl⟩,rfl,rfl⟩,?_,?_⟩
 ·exact(((hso'.out.set _ 0 _ om).set _ 1 _ om).set _ 0 _ om).mono om
 ·exact aG (aG (aG B1.out nr _) nr _) sm _
theorem caught_s_pan (cap:Array Value) (x:Int) (w:World)
  (h:Calls prog 223 cap ((w.alloc (U #[J Q 0 0,J Q 0 0] 250)).alloc (U #[Y I 0] 22)) fun e w'=>e=pg [{v:=fc 22 (Y I x),recovered:=false}]/\Below ((w.alloc (U #[J Q 0 0,J Q 0 0] 250)).alloc (U #[Y I 0] 22)).heap.size ((w.alloc (U #[J Q 0 0,J Q 0 0] 250)).alloc (U #[Y I 0] 22)) w') :
  Kr 222 #[.func (.func 223) #[] cap] w (tu #[ag #[J Q 0 0,J Q 0 0],Y I x]):=by
 have H:=Hi h;clear h;go_enter_defers func222,ntmps222
 go_wp2_with fail
 refine H.out.mono ?_;clear H;rintro e w1 ⟨rfl,hb⟩;have e0:w1.cell? ⟨w.heap.size+1,0,Q⟩=Y I 0:=(hb.cell sm).trans sm;have ef:w1.frozen? _=false:=(hb.frozen (p:=⟨w.heap.size+1,0,Q⟩) sm).trans sm;have c0:w1.cell? ⟨w.heap.size,0,Q⟩=J Q 0 0:=(hb.cell (by simp;omega)).trans ((ni _ _ _ sm).trans sm);have c1:w1.cell? ⟨w.heap.size,1,Q⟩=J Q 0 0:=(hb.cell (by simp;omega)).trans ((ni _ _ _ sm).trans sm);have B1:=aC (aA (aA br _) _) hb;clear hb;refine leaves_cons (f:=260) (args:=#[pd (M ⟨w.heap.size+1,0,Q⟩)]) sm (by simp[go_sem]) ?_;refine(tU ⟨w.heap.size+1,0,Q⟩ x 0 [] _ e0 ef).mono ?_;rintro e u' w'' ⟨rfl,rfl,rfl⟩;simp[Leaves,settle,results,results222,go_sem,e0,c0,c1];exact aG B1 sm _
def kR (s:List Int) (l:List TxA):List Int:=if fN s l=0 then bK s l else []
def cF (s:List Int) (l:List TxA):List (Bool×List Int):=if fN s l=0 then bE s l else []
theorem aAc (E:List Int) (R:List (Bool×List Int)) (x:Int) (w:World)
  (h:Calls prog 222 #[.func (.func 223) #[] #[pd (M ⟨w.heap.size,0,Q⟩),pd (M ⟨w.heap.size+1,0,Q⟩)]] ((w.alloc (U #[J sa s.length sc] 41)).alloc (U #[J la l.length lc] 27)) fun e w'=>∃ea ec xa xc,e=rt (tu #[ag #[J ea E.length ec,J xa R.length xc],Y I x])/\SO ((w.alloc (U #[J sa s.length sc] 41)).alloc (U #[J la l.length lc] 27)).heap.size w' ea ec xa xc E R/\Below ((w.alloc (U #[J sa s.length sc] 41)).alloc (U #[J la l.length lc] 27)).heap.size ((w.alloc (U #[J sa s.length sc] 41)).alloc (U #[J la l.length lc] 27)) w') :
  Calls prog 187 #[J sa s.length sc,J la l.length lc] w fun e w'=>∃ea ec xa xc,e=rt (tu #[J ea E.length ec,J xa R.length xc,Y I x])/\SO w.heap.size w' ea ec xa xc E R/\Below w.heap.size w w':=by
 have H:=h;have H':=Hi H;clear h H;go_enter func187,ntmps187
 go_wp2_with fail
 refine H'.out.mono ?_;clear H';rintro e w1 ⟨ea,ec,xa,xc,rfl,hso,hb⟩;have hso':Hid (SO w.heap.size w1 ea ec xa xc E R):=hso.mono (by simp;omega);have B1:=Hi (aC (aA (aA br _) _) hb);clear hso hb;go_wp2
 go_region
 go_wp2;go_ret3;exact⟨ea,ec,xa,xc,rfl,hso'.out.below (aD (aA br _)),aD (aA B1.out _)⟩
theorem wP (w:World) (hs:IsInts w sa s) (hl:IsTxs w la l) :
  Calls prog 187 #[J sa s.length sc,J la l.length lc] w fun e w'=>∃ea ec xa xc,e=rt (tu #[J ea (kR s l).length ec,J xa (cF s l).length xc,Y I (fN s l)])/\SO w.heap.size w' ea ec xa xc (kR s l) (cF s l)/\Below w.heap.size w w':=by
 have hg:Below _ w ((((w.alloc (U #[J sa s.length sc] 41)).alloc (U #[J la l.length lc] 27)).alloc (U #[J Q 0 0,J Q 0 0] 250)).alloc (U #[Y I 0] 22)):=aA (aA (aA (aA br _) _) _) _
 have h0:((((w.alloc (U #[J sa s.length sc] 41)).alloc (U #[J la l.length lc] 27)).alloc (U #[J Q 0 0,J Q 0 0] 250)).alloc (U #[Y I 0] 22)).cell? ⟨w.heap.size,0,Q⟩=J sa s.length sc:=by
  exact UB
 have h1:((((w.alloc (U #[J sa s.length sc] 41)).alloc (U #[J la l.length lc] 27)).alloc (U #[J Q 0 0,J Q 0 0] 250)).alloc (U #[Y I 0] 22)).cell? ⟨w.heap.size+1,0,Q⟩=J la l.length lc:=by
  rw[ni _ _ _ sm,ni _ _ _ sm];simp
 by_cases he:fN s l=0
 ·have e1:kR s l=bK s l:=if_pos he;have e2:cF s l=bE s l:=if_pos he;rw[e1,e2,he];exact aAc sa la sc lc s l _ _ _ w (caught_s_ret _ _ _ _ (ser1_ok sa la sc lc s l _ _ _ h0 h1 (hs.below hg) (hl.below hg) he))
 ·have e1:kR s l=[]:=if_neg he;have e2:cF s l=[]:=if_neg he;rw[e1,e2];refine aAc sa la sc lc s l _ _ _ w ((caught_s_pan _ _ _ (ser1_pan sa la sc lc s l _ _ _ h0 h1 (hl.below hg) he)).mono ?_);exact fun _ _ ⟨q1,q2⟩=>⟨Q,0,Q,0,q1,so_none _ _,q2⟩
end
section
theorem zH {row:Option Nat} (h:w.grownBy w' row):w.grownBy w'.drew row:=⟨h.os,h.tape,h.output,h.size,h.block⟩
variable (sa:Option Addr) (sc:Nat) (s:List Int) (ra ga ta:Option Addr) (rc gc tc:Nat) (rs:List Int) (gs:List Gd) (ss:List St)
theorem aAp {s:List Int} {ad:Addr} (hs:IsInts w (M ad) s):∀j u,(s.map (Y I))[j]?=M u->w.cell? (ad.add j)=M u:=by
 intro j u hj
 have hlt:j<s.length:=by
  exact xg
 obtain⟨b,off,ha,hb,hc⟩:=hs j hlt;injection ha with ha
 subst ha;rw[bZ,hc];simp[hlt]at hj;simp[List.getD,hlt,hj]
theorem applyR_any (w:World) (hs:IsInts w sa s) (h8:s.length=8) (ht:IsTx w ra ga ta rs gs ss) (hE:bP rs gs ss=0) :
  Calls prog 136 #[J sa s.length sc,ag #[J ra rs.length rc,J ga gs.length gc,J ta ss.length tc]] w fun e w'=>∃a cap va vc,e=rt (tu #[J a s.length cap,ag #[bo (dU (dA s rs) gs),J va (dA s rs).length vc]])/\IsAt w.heap.size w'.heap.size w' a (cD s (aJ ss) (aS (dA s rs) gs ss))/\(a=Q->cap=0)/\IsAt w.heap.size w'.heap.size w' va (dA s rs)/\Below w.heap.size w w':=by
 obtain⟨i0,hi,hz0,hz1,hz2⟩:=info_parts info3;obtain⟨hm,_,hgg,hss⟩:=bR hE;obtain⟨h4,hg2,h3,_⟩:=bI _ _ _ hm;obtain⟨hrr,hrk⟩:=nJ hE
 obtain⟨ad,rfl⟩:∃ad,sa=M ad:=by
  exact Vt
 have hML:(aS (dA s rs) gs ss).length<=ss.length:=by unfold aS;split <;> simp[eY]
 have CR0:Hid (∀za zc w',IsInts w' za (dA s rs)->(za=Q->zc=0)->Below w.heap.size w w'->Calls prog 95 #[ag #[J ra rs.length rc,J ga gs.length gc,J ta ss.length tc],J za (dA s rs).length zc] w' fun e w''=>∃va vc ma mc,e=rt (tu #[ag #[bo (dU (dA s rs) gs),J va (dA s rs).length vc],J ma (aS (dA s rs) gs ss).length mc])/\IsAt w'.heap.size w''.heap.size w'' va (dA s rs)/\IsAt w'.heap.size w''.heap.size w'' ma (aS (dA s rs) gs ss)/\Below w'.heap.size w' w''):=fun za zc w' hz hn hb=>
  tG ra ga ta rc gc tc rs gs ss za zc (dA s rs) w' (ht.below hb) hz hn (by rw[mJ];exact h4) (mJ s rs) hgg hss h3 hg2
 have hkl:=Hi (mJ s rs);have TK:=Hi (fun k h=>take_rd s rs k h);generalize dA s rs=Z at *;generalize aS Z gs ss=Mm at *;generalize dU Z gs=D at *;have H8:=Hi h8;have HS:=Hi hs;have HT:=Hi ht;have HR:=Hi hrr;have HRK:=Hi hrk;clear hs h8 ht hE hm hrr hrk hgg hss;go_enter func136,ntmps136;have y0:((w.alloc (U #[J ra rs.length rc,J ga gs.length gc,J ta ss.length tc] 95)).alloc (U #[bo false,J Q 0 0] 148)).cell? ⟨w.heap.size,0,Q⟩=J ra rs.length rc:=by rw[ni _ _ _ sm];simp
 have y1:((w.alloc (U #[J ra rs.length rc,J ga gs.length gc,J ta ss.length tc] 95)).alloc (U #[bo false,J Q 0 0] 148)).cell? ⟨w.heap.size,1,Q⟩=J ga gs.length gc:=by rw[ni _ _ _ sm];simp
 have y2:((w.alloc (U #[J ra rs.length rc,J ga gs.length gc,J ta ss.length tc] 95)).alloc (U #[bo false,J Q 0 0] 148)).cell? ⟨w.heap.size,2,Q⟩=J ta ss.length tc:=by rw[ni _ _ _ sm];simp
 have y3:((w.alloc (U #[J ra rs.length rc,J ga gs.length gc,J ta ss.length tc] 95)).alloc (U #[bo false,J Q 0 0] 148)).cell? ⟨w.heap.size+1,0,Q⟩=bo false:=sm;have y4:((w.alloc (U #[J ra rs.length rc,J ga gs.length gc,J ta ss.length tc] 95)).alloc (U #[bo false,J Q 0 0] 148)).cell? ⟨w.heap.size+1,1,Q⟩=J Q 0 0:=sm;have yf:∀j,((w.alloc (U #[J ra rs.length rc,J ga gs.length gc,J ta ss.length tc] 95)).alloc (U #[bo false,J Q 0 0] 148)).frozen? ⟨w.heap.size+1,j,Q⟩=false:=fun j=>by simp
 have VB:Hid (Below w.heap.size w ((w.alloc (U #[J ra rs.length rc,J ga gs.length gc,J ta ss.length tc] 95)).alloc (U #[bo false,J Q 0 0] 148))):=aA (aA br _) _;have hV2:((w.alloc (U #[J ra rs.length rc,J ga gs.length gc,J ta ss.length tc] 95)).alloc (U #[bo false,J Q 0 0] 148)).heap.size=w.heap.size+2:=sm;go_wp2;generalize ((w.alloc (U #[J ra rs.length rc,J ga gs.length gc,J ta ss.length tc] 95)).alloc (U #[bo false,J Q 0 0] 148))=V at *;obtain⟨B,hB⟩:=nm (V.heap.size)
 go_loopw [6,7] (fun v i wr=>∃k:Nat,k<=rs.length/\i=Y I k/\wr.ownsRow B 3 1 v k ((Z.take k).map (Y I))/\Below B V wr) (fun _ i _=>rs.length - (intOf i).toNat)
 case atStart=>exact⟨0,nz,rfl,n8 _ _ _ _,br⟩
 case round=>
  obtain⟨k,hk,rfl,hown,hnx⟩:=hrel;have hsz:B<=wr.heap.size:=by rw[hB];exact hnx.size
  have hVw:Below V.heap.size V wr:=by rw[<-hB];exact hnx
  have hwr:=Hi (aC VB.out hVw);have z0:=aB hVw y0;by_cases hlt:k<rs.length
  ·obtain⟨b,off,rfl,hb,c0⟩:=HT.out.r k hlt;obtain⟨hz,hz'⟩:=nA rs HR.out k hlt;have HTk:=Hi (TK.out k hlt);generalize rs.getD k 0=z at *;obtain⟨m,rfl⟩:=wg hz;have hms:m<s.length:=by have:=H8.out;omega
   obtain⟨b',off',hadd,hb',c1⟩:=HS.out m hms;injection hadd with hadd
   subst hadd;have d0:=aB hwr.out c0;have d1:=aB hwr.out c1;have hg:uP s (m:Int)=s.getD m 0:=rfl;rw[hg]at HTk;generalize s.getD m 0=y at *;clear c0 c1 hg hz hz' y0 y1 y2 y3 y4 yf hVw
   go_wp2_with (first
    | (at_builtin;refine wpList_append_own _ rfl _ _ 41 rfl B 3 i0 (Y I 0) 1 8 underlying41 hi hz0 hz1 hz2 rfl dc _ _ _ rfl (hown.alloc _) ⟨wr.heap.size,0,Q⟩ 1 1 [Y I y] rfl rfl (lP _ _ _ sm) (ints_oneCell I [y]) (by unfold maxLen;omega) om (by simp;omega) ?_;intro v' w1 hown' hgrow _)
    | go_in)
   have R:w1.ownsRow B 3 1 v' (k+1) ((Z.take (k+1)).map (Y I)):=by rw[HTk.out,ny];exact hown'
   have RB:=((hnx.alloc om _).grown hgrow (by simp;omega) (fun j hj=>(hown.lt j hj).1));clear hown' hgrow hown hnx d0 d1 z0;exact vp
  ·have R:wr.ownsRow B 3 1 u6 rs.length (Z.map (Y I)):=by
    have hkk:k=rs.length:=om;exact Uc
   obtain⟨za,zc,rfl,hza,hzn⟩:=uY R;have z1:=aB hVw y1;have z2:=aB hVw y2;have z3:=aB hVw y3;have z4:=aB hVw y4;have zf:=fun j=>(hVw.frozen (p:=⟨w.heap.size+1,j,Q⟩) (by show w.heap.size+1<_;omega)).trans (yf j)
   have hzi:=Hi (hza.ints nr);have hzn':=Hi hzn;have CR:=Hi (CR0.out za zc wr hzi.out hzn'.out hwr.out);clear hown hnx y0 y1 y2 y3 y4 yf R hza hzn hzi hzn';clear CR0 TK
   go_wp2_with fail
   refine CR.out.mono ?_;clear CR;rintro e w2 ⟨va,vc,ma,mc,rfl,hva,hma,hb2⟩;have Uuu:Below w2.heap.size w2 (w2.alloc (U #[bo D,J va Z.length vc] 148)):=aA br _;have U2:=aC hb2 Uuu;have q0:=aB U2 z0;have q1:=aB U2 z1;have q2:=aB U2 z2;have q3:=aB U2 z3;have q4:=aB U2 z4;have hlw:w.heap.size+1<wr.heap.size:=by have:=hVw.size;omega
   have qf:=fun j=>(U2.frozen (p:=⟨w.heap.size+1,j,Q⟩) hlw).trans (zf j)
   have r0:(w2.alloc (U #[bo D,J va Z.length vc] 148)).cell? ⟨w2.heap.size,0,Q⟩=bo D:=sm;have r1:(w2.alloc (U #[bo D,J va Z.length vc] 148)).cell? ⟨w2.heap.size,1,Q⟩=J va Z.length vc:=sm;have hva2:Hid (IsAt (w.heap.size+2) w2.heap.size (w2.alloc (U #[bo D,J va Z.length vc] 148)) va Z):=(hva.below Uuu).widen om nr;have hma2:Hid (IsAt (w.heap.size+2) w2.heap.size (w2.alloc (U #[bo D,J va Z.length vc] 148)) ma Mm):=(hma.below Uuu).widen om nr;have hW:=Hi (aC hwr.out U2);have hR:w2.heap.size<(w2.alloc (U #[bo D,J va Z.length vc] 148)).heap.size:=sm;have hw2:w.heap.size+1<w2.heap.size:=by have:=hb2.size;omega
   clear Uuu U2 z0 z1 z2 z3 z4 zf hva hma hb2 hwr hVw hsz
   go_upto_region 7 with fail
   generalize (w2.alloc (U #[bo D,J va Z.length vc] 148))=W at *;generalize w2.heap.size=R at *;have hsW:Hid (∀o:Obj,IsInts (W.alloc o) _ s):=fun o=>(HS.out.below hW.out).below (aA br _)
   go_wp2_with (first
    | (at_builtin;refine wpList_append_own _ rfl _ _ 41 rfl W.heap.size 3 i0 (Y I 0) 1 8 underlying41 hi hz0 hz1 hz2 rfl dc _ 0 [] rfl (lv W #[] 0 nr dc rfl) ad s.length sc (s.map (Y I)) rfl sm (aAp (hsW.out _)) (ints_oneCell I s) (by have:=H8.out;unfold maxLen;omega) (by have:=H8.out;omega) sm ?_;intro v' w3 hown' hgrow _)
    | go_in)
   have RB:=(aA br _).grown hgrow sm (fun j hj=>by have hj':M W.heap.size=M j:=hj;injection hj' with hj';exact Nat.le_of_eq hj');simp only[Nat.zero_add,List.nil_append]at hown';obtain⟨g,cap,rfl,hg1,hg2⟩:=hown'.form (by have:=H8.out;omega);have p2:=aB RB q2;have p3:=aB RB q3;have p4:=aB RB q4;have hlW:w.heap.size+1<W.heap.size:=om;have pf:=fun j=>(RB.frozen (p:=⟨w.heap.size+1,j,Q⟩) hlW).trans (qf j)
   have t0:=aB RB r0;have t1:=aB RB r1;have hva3:=Hi (hva2.out.below RB);have hma3:=Hi (hma2.out.below RB);have hW3:=Hi (aC hW.out RB);have hown0:Hid (w3.ownsRow w.heap.size 3 1 _ s.length _):=rM hown' om;have hW3s:=RB.size;clear hgrow RB q0 q1 q2 q3 q4 qf r0 r1 hva2 hma2 hW hown' hsW;have far:∀{wx:World},w3.grownBy wx (M g)->∀(b:Nat) j v,b≠g->w3.cell? ⟨b,j,Q⟩=M v->wx.cell? _=M v:=fun hg b j v hne h=>hg.cell h (by simpa using hne)
   go_wp2
   go_loopw [11] (fun i wx=>∃k:Nat,k<=Mm.length/\i=Y I k/\wx.ownsRow w.heap.size 3 1 (J (M ⟨g,0,Q⟩) s.length cap) s.length ((cD s ((aJ ss).take k) (Mm.take k)).map (Y I))/\w3.grownBy wx (M g)) (fun i _=>Mm.length - (intOf i).toNat)
   case atStart=>exact⟨0,nz,rfl,by simpa[cD]using hown0.out,wv _ _⟩
   case round=>
    obtain⟨k2,hk2,rfl,hown,hgr⟩:=hrel;by_cases hlt2:k2<Mm.length
    ·obtain⟨b,off,rfl,hb1,hb2,m0⟩:=hma3.out k2 hlt2;have hks:k2<ss.length:=om;obtain⟨b',off',rfl,hb',k0,_⟩:=HT.out.s k2 hks;have hkl2:k2<(aJ ss).length:=by rw[cM];exact hks
     obtain⟨hz,hz'⟩:=nA (aJ ss) HRK.out k2 hkl2;have HTk:=Hi (oF (aJ ss) s Mm k2 hkl2 hlt2)
     have k1:w3.cell? ⟨b',off'+k2*6,Q⟩=Y I ((aJ ss).getD k2 0):=by
      rw[jR ss k2 hks];exact(aB hW3.out k0)
     generalize (aJ ss).getD k2 0=z at *;obtain⟨m,rfl⟩:=wg hz;have hms:m<s.length:=by have:=H8.out;omega
     have q0:=far hgr _ _ _ om m0;have q1:=far hgr _ _ _ om k1;have q2:=far hgr _ _ _ om p2;have hPl:(cD s ((aJ ss).take k2) (Mm.take k2)).length=s.length:=kU _ _ _;have q3:=row_cell hown hPl m hms;have q4:=fun j=>hown.frozenAt j
     have R3:Hid ((wr.setCell ⟨g,m,Q⟩ (Y I (Mm.getD k2 0))).ownsRow w.heap.size 3 1 (J (M ⟨g,0,Q⟩) s.length cap) s.length ((cD s ((aJ ss).take (k2+1)) (Mm.take (k2+1))).map (Y I))):=by
      rw[HTk.out,List.map_set];exact(hown.stored m (Y I (Mm.getD k2 0))).1
     have R4:Hid (w3.grownBy (wr.setCell _ (Y I (Mm.getD k2 0))) _):=hgr.trans (aP wr g m _);generalize (cD s ((aJ ss).take k2) (Mm.take k2)).getD m 0=y at *;generalize Mm.getD k2 0=y' at *;clear hown hgr hPl m0 k0 k1 p2 p3 p4 pf t0 t1 hz hz';go_wp2
     go_region
     all_goals (
      go_wp2;go_roundw
      case rel=>exact⟨k2+1,by omega,by go_num,R3.out.drew,zH R4.out⟩
      case measure=>simp[intOf];omega)
    ·have hkk:k2=Mm.length:=om;have hML':Mm.length<=(aJ ss).length:=by rw[cM];exact hML
     have hfin:Hid (wr.ownsRow w.heap.size 3 1 (J (M ⟨g,0,Q⟩) s.length cap) s.length ((cD s (aJ ss) Mm).map (Y I))):=by
      have h:=hown;rw[hkk,le (Nat.le_refl Mm.length),qK _ _ _ hML']at h;exact h
     have q0:=far hgr _ _ _ om t0;have q1:=far hgr _ _ _ om t1;have q3:=far hgr _ _ _ om p3;have q4:=far hgr _ _ _ om p4;have qf:=fun j=>(hgr.frozen_far ⟨w.heap.size+1,j,Q⟩ (by show w.heap.size+1<_;omega) (by simp;omega)).trans (pf j)
     have hvr:Hid (IsAt (w.heap.size+2) R wr va Z):=hva3.out.keptBy hgr (fun _ ad ha e=>by
      obtain⟨b,off,ha',_,h2,_⟩:=hva3.out 0 (List.length_pos_iff.2 (by assumption));rw[ha]at ha';injection ha' with ha'
      subst ha';injection e with e
      simp at e;omega)
     have hRs:R<=wr.heap.size:=by have:=hgr.size;omega
     have hG:=Hi (hW3.out.grown hgr om (fun j e=>by injection e with e;omega));clear hown hgr p2 p3 p4 pf t0 t1 far hva3 hma3 hown0;go_wp2
     go_region
     all_goals (
      go_wp2;obtain⟨aa,ac,hae,hai⟩:=gC hfin.out;have hPl:(cD s (aJ ss) Mm).length=s.length:=kU _ _ _;rw[<-hPl]at hae;injection hae with e1 e2 e3
      subst e1;refine bodyPost_ret (v:=tu #[J (M ⟨g,0,Q⟩) s.length cap,ag #[bo D,J va Z.length vc]]) (by simp[results,results136,go_sem,q3,q4]) rfl ⟨_,cap,va,vc,rfl,?_,(fun h=>by cases h),?_,?_⟩
      ·have far2:cD s (aJ ss) Mm≠[]->∀ad,(M ⟨g,0,Q⟩:Option Addr)=M ad->(M (w.heap.size+1):Option Nat)≠M ad.block:=fun _ ad ha e=>by
        injection ha with ha
        subst ha;injection e with e
        simp at e;omega
       exact(((hai.keptBy (aP wr (w.heap.size+1) 0 _) far2).keptBy (aP _ (w.heap.size+1) 1 _) far2).below (aD br)).widen nr sm
      ·exact(((hvr.out.set ⟨w.heap.size+1,0,Q⟩ _ (.inl sm)).set ⟨w.heap.size+1,1,Q⟩ _ (.inl sm)).below (aD br)).widen om (by simpa using hRs)
      ·exact aD (aG (aG hG.out sm _) sm _))
end
end Go.Proofs.YtcgpkonfneofdaaGreatDoor
