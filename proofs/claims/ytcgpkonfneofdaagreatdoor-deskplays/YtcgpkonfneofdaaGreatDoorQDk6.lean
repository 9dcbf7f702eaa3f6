/- Conditions: those that each theorem states. -/
import Derived.Test.YtcgpkonfneofdaaGreatDoorQDkR
import Derived.Test.YtcgpkonfneofdaaGreatDoorQWirB
set_option maxRecDepth 100000
set_option maxHeartbeats 8000000
namespace Go.Proofs.YtcgpkonfneofdaaGreatDoor
open Go.RowKit Go.Proofs.Tryz
open Go.Value renaming slice->J,int->Y,bool->bo,pointer->pd,agg->ag,tuple->tu,string->sg,iface->fc
open Go.IntKind renaming i64->I
open Go.Obj renaming cells->U
open Go.Ending renaming returned->rt,panicked->pg
open Option renaming some->M,none->Q
variable {xs:List (List UInt8)} {w':World} {b B:Nat} {r:Option Nat} {v z kd n k:Int} {x a:List UInt8} {p:Prop} {s zs:List Int}
section
theorem slc1 (sb n:Nat) (w:World):(Instr.slice 55 (J (M ⟨sb,0,Q⟩) (n+1) (n+1)) (M (Y I 1)) Q Q).run prog w=.ok (J (if n=0 then M ⟨sb,0,Q⟩ else M ⟨sb,1,Q⟩) n n) w:=by
 have i:(1:Int)<=(n:Int)+1:=om;by_cases h:n=0
 ·subst h;go_simp
 ·rw[if_neg h];go_simp
section
variable (P:Nat) (D:Nat->Prop) (m:Int) (la:Option Addr) (lc:Nat) (l:List TxA) (ba:Option Addr) (bc:Nat) (bg:List Int) (q:Q4) (S:SA) (w:World)
theorem clkObey (x:List UInt8) (xs:List (List UInt8)) (na:Option Addr) (nc:Nat) (hn:IsStrs w na xs) (hP:∀ad,na=M ad->ad.block≠P) (hl:∀y∈xs,y.length<=4096) (h:Clk P D m la lc l ba bc bg q S w) (hk:OkDesk m l bg S) (hs:Std w) (hs2:∀w',Below P w w'->Std w'):Calls prog 44 #[pd (M ⟨P,0,Q⟩),aM x,J na xs.length nc] w fun e w'=>AnsP P D m la lc l w (vE m l bg S x xs) e w':=by
 match xs,hn,hl with
 | [],_,_=>exact clkObey0 P D m la lc l ba bc bg q S w x na nc h hk hs hs2
 | [a],_,_=>exact(clkObeyX P w x na 1 nc dc dc).mono fun e w' ⟨he,hb⟩=>⟨he,by decide,hb⟩
 | [a,b],hn,hl=>
  obtain⟨nb,no,rfl,hlt,c0⟩:=hn 0 sm;obtain⟨nb',no',e',_,c1⟩:=hn 1 sm;injection e' with e'
  injection e' with e1 e2
  subst e1 e2;exact clkObey2 P D m la lc l ba bc bg q S w x a b (hl a sm) (hl b sm) nb no nc hlt (hP _ rfl) c0 c1 h hk hs
 | a::b::c::r,_,_=>exact(clkObeyX P w x na (r.length+3) nc om om).mono fun e w' ⟨he,hb⟩=>⟨he,by decide,hb⟩
theorem clkAns1 (x:List UInt8) (xs:List (List UInt8)) (cb wb sb:Nat) (h1:cb<w.heap.size/\cb≠P) (h2:wb<w.heap.size/\wb≠P) (h3:sb<w.heap.size/\sb≠P) (c0:w.cell? ⟨cb,0,Q⟩=pd (M ⟨P,0,Q⟩)) (c1:w.cell? ⟨wb,0,Q⟩=J (M ⟨sb,0,Q⟩) (xs.length+1) (xs.length+1)) (c2:w.cell? ⟨sb,0,Q⟩=M (aM x)) (na:Option Addr) (hsl:∀w:World,(Instr.slice 55 (J (M ⟨sb,0,Q⟩) (xs.length+1) (xs.length+1)) (M (Y I 1)) Q Q).run prog w=.ok (J na xs.length xs.length) w) (hnP:∀ad,na=M ad->ad.block≠P) (hn:IsStrs w na xs) (hl:∀y∈xs,y.length<=4096) (h:Clk P D m la lc l ba bc bg q S w) (hk:OkDesk m l bg S) (hs:Std w) (hs2:∀w',Below P w w'->Std w'):Calls prog 43 #[pd (M ⟨cb,0,Q⟩),pd (M ⟨wb,0,Q⟩)] w fun e w'=>AnsP P D m la lc l w (vE m l bg S x xs) e w':=by
 have KS:Hid (∀w',w.grownBy w' (M P)->w'.cell? _=M _/\w'.cell? _=M _/\w'.cell? _=M _):=fun w' hg=>by
  have e:∀b,b<w.heap.size/\b≠P->w'.heap[b]?=w.heap[b]?:=fun b hb=>hg.block b hb.1 (fun e=>by injection e with e;exact hb.2 e)
  exact⟨(nu (a:=⟨cb,0,Q⟩) (e cb h1)).trans c0,(nu (a:=⟨wb,0,Q⟩) (e wb h2)).trans c1,(nu (a:=⟨sb,0,Q⟩) (e sb h3)).trans c2⟩
 have CT:∀w',Below w.heap.size w w'->Calls prog 44 #[pd _,aM x,J na xs.length xs.length] w' fun e w''=>AnsP P D m la lc l w' _ e w'':=fun w' hb'=>clkObey P D m la lc l ba bc bg q S w' x xs _ _ (hn.below hb') hnP hl (h.on hb') hk (hs.on hb') (fun w2 h2=>hs2 w2 ((hb'.mono (wi h.pl)).trans h2))
 cases hr:vE m l bg S x xs with
 | ok p=>
  rw[hr]at CT;have CX:Hid (∀w',Below w.heap.size w w'->Calls prog 44 _ w' fun e w''=>e=rt _/\∃(ba:Option Addr) (bc:Nat) (q2:Q4) (D2:Nat->Prop),Clk P D2 m la lc l ba bc p.2.1 q2 p.2.2 w''/\(∀b,D2 b->D b∨w.heap.size<=b)/\w.grownBy w'' _):=fun w' hb'=>(CT w' hb').mono fun e w'' ⟨he,ba,bc,q2,D2,hc,hd,hg⟩=>⟨he,ba,bc,q2,D2,hc,fun b h=>(hd b h).elim .inl (fun h=>.inr (nh hb'.size h)),cN (bG hb') hg⟩
  clear CT hr h hk hs hs2 hn hl c0 c1 c2 h1 h2 h3 hnP;generalize xs.length=n at *;unfold aM at *;go_enter func43,ntmps43
  go_upto_region 1 with fail
  refine wp_region_held_drew (S:=(fun w'=>w'.cell? ⟨cb,0,Q⟩=pd (M ⟨P,0,Q⟩)/\w'.cell? ⟨wb,0,Q⟩=J (M ⟨sb,0,Q⟩) (n+1) (n+1)/\w'.cell? ⟨sb,0,Q⟩=sg ⟨x.toArray⟩)) kr ?_ (fun hHeld=>?_)
  ·exact KS.out _ (bG (aD br))
  refine tk 0 ?_;refine tk 1 ?_;refine tk 2 ?_;refine tk 3 ?_;refine tk 4 ?_;refine tk 5 ?_;refine r1 6 (fun K hK=>?_);go_simp
  go_wp2_with (go_at_call 44;refine(CX.out _ (aD br)).mono ?_;rintro e w1 ⟨rfl,hq⟩)
  have HQ:=aI hq;clear hq;clear hHeld;refine hK.out _ _ (KS.out _ HQ.out.choose_spec.choose_spec.choose_spec.choose_spec.2.2) (fun hHeld=>?_);clear hK K;refine tk 7 ?_;exact VR
 | error z=>
  rw[hr]at CT;have CX:Hid (∀w',Below w.heap.size w w'->Calls prog 44 _ w' fun e w''=>e=pg [{v:=fc 22 _,recovered:=false}]/\¬z=0/\Below w.heap.size w w''):=fun w' hb'=>(CT w' hb').mono fun e w'' ⟨he,hz,hg⟩=>⟨he,hz,aC hb' hg⟩
  clear CT hr h hk hs hs2 hn hl c0 c1 c2 h1 h2 h3 hnP;generalize xs.length=n at *;unfold aM at *;go_enter func43,ntmps43
  go_upto_region 1 with fail
  refine wp_region_held_drew (S:=(fun w'=>w'.cell? ⟨cb,0,Q⟩=pd (M ⟨P,0,Q⟩)/\w'.cell? ⟨wb,0,Q⟩=J (M ⟨sb,0,Q⟩) (n+1) (n+1)/\w'.cell? ⟨sb,0,Q⟩=sg ⟨x.toArray⟩)) kr ?_ (fun hHeld=>?_)
  ·exact KS.out _ (bG (aD br))
  refine tk 0 ?_;refine tk 1 ?_;refine tk 2 ?_;refine tk 3 ?_;refine tk 4 ?_;refine tk 5 ?_;refine r1 6 (fun K hK=>?_);go_simp
  go_wp2_with (go_at_call 44;refine(CX.out _ (aD br)).mono ?_;rintro e w1 ⟨rfl,hn1,hb1⟩)
  exact⟨rfl,rfl,hn1,hb1⟩
end
theorem caughtW_ret (F:FuncId) (cap:Array Value) (hF:∀w,Sem.run prog (callFunc F cap) w=.ok (.enter F cap) w) (P:Value->World->Prop) (B:Nat) (w:World) (hB:B<w.heap.size) (hP:∀v w',P v w'->(w.alloc (U #[Y I 0] 22)).grownBy w' (M B)->P v (w'.setCell ⟨w.heap.size,0,Q⟩ (Y I 0)))
  (h:Calls prog F cap (w.alloc (U #[Y I 0] 22)) fun e w'=>∃v,e=rt v/\P v w'/\(w.alloc (U #[Y I 0] 22)).grownBy w' (M B)) :
  Calls prog 11 #[.func (.func F) #[] cap] w fun e w'=>∃v,e=rt (tu #[v,Y I 0])/\P v w'/\w.grownBy w' (M B):=by
 have H:=aI h;have HP:=aI hP;have HF:=aI hF;clear h hP hF;go_enter_defers func11,ntmps11
 go_wp2_with fail
 rw[HF.out,Oper.upon_enter];refine H.out.mono ?_;clear H;rintro e w1 ⟨v,rfl,hv,hb⟩;have hbk:w1.heap[w.heap.size]?=(w.alloc _).heap[w.heap.size]?:=hb.block _ sm (fun e=>by injection e with e;omega);have hc:w1.cell? ⟨w.heap.size,0,Q⟩=Y I 0:=by rw[nu (a:=⟨w.heap.size,0,Q⟩) hbk];simp
 have hf:w1.frozen? ⟨w.heap.size,0,Q⟩=false:=by rw[nv (a:=⟨w.heap.size,0,Q⟩) hbk];simp
 have Hb:=aI hb;have HV:=aI (HP.out v w1 hv hb);clear hb hv HP hbk;go_wp2;refine leaves_cons (f:=30) (args:=#[pd (M ⟨w.heap.size,0,Q⟩)]) sm (by simp[go_sem]) ?_;refine(sK ⟨w.heap.size,0,Q⟩ _).mono ?_;rintro e u' w'' ⟨rfl,rfl,rfl⟩;simp[Leaves,settle,results,results11,go_sem,hc];have hb:=Hb.out;refine⟨HV.out,hb.os,hb.tape,hb.output,?_,fun k hk hne=>?_⟩
 ·rw[n9];have:=hb.size;simp at this;omega
 ·rw[iB _ _ _ _ _ om,hb.block k (by simp;omega) hne];exact(aA br _).block k hk
end
section
def jF (m:Int) (l:List TxA) (bg:List Int) (S:SA) (x:List UInt8):List UInt8×List Int×SA:=
 match vE m l bg S ((eT 32 x).headD []) (eT 32 x).tail with
 | .ok p=>p
 | .error z=>([101,114,114,111,114,32]++cL z,bg,S)
theorem bL (c:UInt8):∀(x:List UInt8),∀y∈eT c x,y.length<=x.length
 | [],y,h=>by
  rw[List.mem_singleton.1 h];exact nr
 | b::r,y,h=>by
  have ih:=bL c r;unfold eT at h;split at h
  ·rcases List.mem_cons.1 h with rfl | h
   ·exact nz
   ·have:=ih y h;rw[lh];omega
  ·rcases List.mem_cons.1 h with rfl | h
   ·have:((eT c r).headD []).length<=r.length:=by
     cases hs:eT c r with
     | nil=>exact nz
     | cons a t=>exact ih a (by rw[hs];simp)
    rw[lh,lh];omega
   ·have:=ih y (List.mem_of_mem_tail h);rw[lh];omega
theorem IsStrs.tail1 {w:World} {wd:List UInt8} {sb:Nat} (h:IsStrs w (M ⟨sb,0,Q⟩) (wd::xs)):IsStrs w (if xs.length=0 then M ⟨sb,0,Q⟩ else M ⟨sb,1,Q⟩) xs:=fun i hi=>by
 rw[if_neg om];obtain⟨b,off,e,hlt,hc⟩:=h (i+1) (by simpa using hi);injection e with e
 injection e with e1 e2
 subst e1 e2;refine⟨sb,1,rfl,hlt,?_⟩;rw[show 1+i=0+(i+1) by omega,hc];simp
theorem cond_pan {P:Nat} {D:Nat->Prop} {m:Int} {la:Option Addr} {lc:Nat} {l:List TxA} {U4:World} {cap:Array Value} (w:World) (z:Int) (hU:U4=w.alloc (U #[Y I 0] 22)) (hz:¬z=0) (h:Calls prog 43 cap U4 fun e w'=>AnsP P D m la lc l U4 (.error z) e w') :
  Calls prog 11 #[.func (.func 43) #[] cap] w fun e w'=>(e=rt (tu #[sg ⟨#[]⟩,Y I z])/\Below w.heap.size w w')/\¬z=0:=by
 subst hU;exact(nL 43 cap (fun _=>rfl) z w (h.mono fun e w' ⟨he,_,hb⟩=>⟨he,by simpa using hb⟩)).mono fun e w' hh=>⟨hh,hz⟩
section
variable (P:Nat) (D:Nat->Prop) (m:Int) (la:Option Addr) (lc:Nat) (l:List TxA) (ba:Option Addr) (bc:Nat) (bg:List Int) (q:Q4) (S:SA) (w:World)
def AnsF (P:Nat) (D:Nat->Prop) (m:Int) (la:Option Addr) (lc:Nat) (l:List TxA) (w:World) (r:List UInt8×List Int×SA) (e:Ending) (w':World):Prop:=
 e=rt (aM r.1)/\∃(ba:Option Addr) (bc:Nat) (q2:Q4) (D2:Nat->Prop),Clk P D2 m la lc l ba bc r.2.1 q2 r.2.2 w'/\(∀b,D2 b->D b∨w.heap.size<=b)/\w.grownBy w' (M P)
theorem clkCaught (wd:List UInt8) (xs:List (List UInt8)) (hl:∀y∈xs,y.length<=4096) (h:Clk P D m la lc l ba bc bg q S w) (hk:OkDesk m l bg S) (hE:∀z,vE m l bg S wd xs=.error z->0<z/\z<=100) (hs2:∀w',Below P w w'->Std w'):Calls prog 11 #[.func (.func 43) #[] #[pd (M ⟨w.heap.size,0,Q⟩),pd (M ⟨w.heap.size+1+1,0,Q⟩)]] (((w.alloc (U #[pd (M ⟨P,0,Q⟩)] 81)).alloc (U ((wd::xs).map aM).toArray 9)).alloc (U #[J (M ⟨w.heap.size+1,0,Q⟩) (xs.length+1) (xs.length+1)] 55)) fun e w'=>match vE m l bg S wd xs with
  | .ok p=>e=rt (tu #[aM p.1,Y I 0])/\∃(ba:Option Addr) (bc:Nat) (q2:Q4) (D2:Nat->Prop),Clk P D2 m la lc l ba bc p.2.1 q2 p.2.2 w'/\(∀b,D2 b->D b∨w.heap.size<=b)/\w.grownBy w' (M P)
  | .error z=>e=rt (tu #[sg ⟨#[]⟩,Y I z])/\¬z=0/\Below w.heap.size w w':=by
 have hPl:=h.pl;obtain⟨U1,hU1⟩:=nm ((w.alloc (U #[pd (M ⟨P,0,Q⟩)] 81)));obtain⟨U2,hU2⟩:=nm (U1.alloc (U ((wd::xs).map aM).toArray 9));obtain⟨U3,hU3⟩:=nm (U2.alloc (U #[J (M ⟨w.heap.size+1,0,Q⟩) (xs.length+1) (xs.length+1)] 55));obtain⟨U4,hU4⟩:=nm (U3.alloc (U #[Y I 0] 22));have s1:U1.heap.size=w.heap.size+1:=by rw[hU1];simp
 have s2:U2.heap.size=w.heap.size+1+1:=by rw[hU2];simp[s1]
 have s3:U3.heap.size=w.heap.size+1+1+1:=by rw[hU3];simp[s2]
 have s4:U4.heap.size=w.heap.size+1+1+1+1:=by rw[hU4];simp[s3]
 have b1:Below w.heap.size w U1:=by rw[hU1];exact aA br _
 have b12:Below U1.heap.size U1 U2:=by rw[hU2];exact aA br _
 have b23:Below U2.heap.size U2 U3:=by rw[hU3];exact aA br _
 have b34:Below U3.heap.size U3 U4:=by rw[hU4];exact aA br _
 have b24:=aC b23 b34;have b14:=aC b12 b24;have b04:=aC b1 b14;have b03:=aC b1 (aC b12 b23);have c0:U1.cell? ⟨w.heap.size,0,Q⟩=pd (M ⟨P,0,Q⟩):=by rw[hU1];exact aF _ _ 81 _ 0 _ rfl rfl
 have cS:IsStrs U2 (M ⟨w.heap.size+1,0,Q⟩) (wd::xs):=by
  rw[hU2,<-s1];exact uA U1 (wd::xs)
 have c1:U3.cell? ⟨w.heap.size+1+1,0,Q⟩=J (M ⟨w.heap.size+1,0,Q⟩) (xs.length+1) (xs.length+1):=by
  rw[hU3];exact aF _ _ 55 _ 0 _ s2.symm rfl
 have c2:U2.cell? ⟨w.heap.size+1,0,Q⟩=M (aM wd):=by
  obtain⟨b,off,e,_,hc⟩:=cS 0 sm;injection e with e
  injection e with e1 e2
  subst e1 e2;exact hc
 have CA:=clkAns1 P D m la lc l ba bc bg q S U4 wd xs w.heap.size (w.heap.size+1+1) (w.heap.size+1) ⟨by omega,by omega⟩ ⟨by omega,by omega⟩ ⟨by omega,by omega⟩ (aB b14 c0) (aB b34 c1) (aB b24 c2) _ (slc1 (w.heap.size+1) xs.length) (fun ad e=>by
  split at e <;> (injection e with e;subst e;show w.heap.size+1≠P;omega)) (cS.below b24).tail1 hl (h.on b04) hk (hs2 U4 (b04.mono (wi hPl))) (fun w2 h2=>hs2 w2 ((b04.mono (wi hPl)).trans h2))
 have eW:(((w.alloc (U #[pd (M ⟨P,0,Q⟩)] 81)).alloc (U ((wd::xs).map aM).toArray 9)).alloc (U #[J (M ⟨w.heap.size+1,0,Q⟩) (xs.length+1) (xs.length+1)] 55))=U3:=by rw[hU3,hU2,hU1]
 rw[eW]
 cases hr:vE m l bg S wd xs with
 | ok p=>
  rw[hr]at CA;refine(caughtW_ret 43 _ (fun _=>rfl) (fun v w'=>v=aM p.1/\∃(ba:Option Addr) (bc:Nat) (q2:Q4) (D2:Nat->Prop),Clk P D2 m la lc l ba bc p.2.1 q2 p.2.2 w'/\(∀b,D2 b->D b∨U4.heap.size<=b)) P U3 om (fun v w' hv hg=>?_) ?_).mono ?_
  ·obtain⟨rfl,ba,bc,q2,D2,hc,hd⟩:=hv;refine⟨rfl,ba,bc,q2,D2,hc.frame (iB _ _ _ _ _ om) ⟨rfl,rfl,rfl,by rw[n9];exact nr,fun b hb=>iB _ _ _ _ _ om⟩ (fun b hb=>iB _ _ _ _ _ ?_),hd⟩;rcases hd b hb with hh | hh
   ·have:=(h.dl b hh).2;omega
   ·omega
  ·rw[<-hU4];exact CA.mono fun e w' ⟨he,ba,bc,q2,D2,hc,hd,hg⟩=>⟨_,he,⟨rfl,ba,bc,q2,D2,hc,hd⟩,hg⟩
  ·rintro e w' ⟨v,rfl,⟨rfl,ba,bc,q2,D2,hc,hd⟩,hg⟩;exact⟨rfl,ba,bc,q2,D2,hc,fun b hb=>(hd b hb).elim .inl (fun hh=>.inr om),cN (bG b03) hg⟩
 | error z=>
  rw[hr]at CA;refine(cond_pan U3 z hU4 (by have:=hE z hr;omega) CA).mono ?_;rintro e w' ⟨⟨rfl,hb⟩,hz⟩;exact⟨rfl,hz,aC b03 hb⟩
end
end
section
section
variable (P:Nat) (D:Nat->Prop) (m:Int) (la:Option Addr) (lc:Nat) (l:List TxA) (ba:Option Addr) (bc:Nat) (bg:List Int) (q:Q4) (S:SA) (w:World)
theorem clkAnswer (x:List UInt8) (hx:x.length<=4096) (h:Clk P D m la lc l ba bc bg q S w) (hk:OkDesk m l bg S) (hE:∀wd xs z,vE m l bg S wd xs=.error z->0<z/\z<=100) (hs:Std w) (hs2:∀w',Below P w w'->Std w'):Calls prog 21 #[pd (M ⟨P,0,Q⟩),aM x] w fun e w'=>AnsF P D m la lc l w (jF m l bg S x) e w':=by
 have H:=aI h;have hsl:=oX 32 x;have hml:=bL 32 x
 obtain⟨wd,xs,hsp⟩:∃wd xs,eT 32 x=wd::xs:=by
  cases hh:eT 32 x with
  | nil=>exact absurd hh (spl_ne 32 x)
  | cons a t=>exact⟨a,t,rfl⟩
 have hcn:x.count 32=xs.length:=by rw[hsp,lh]at hsl;omega
 have eA:jF m l bg S x=(match vE m l bg S wd xs with
  | .ok p=>p
  | .error z=>([101,114,114,111,114,32]++cL z,bg,S)):=by unfold jF;rw[hsp];rfl
 have C1:Hid (letI Z:=w.alloc (U #[pd (M ⟨P,0,Q⟩)] 81);Calls prog 41 #[aM x,sg ⟨#[32]⟩] Z fun e w'=>e=rt (J (M ⟨w.heap.size+1,0,Q⟩) (xs.length+1) (xs.length+1))/\w'=(Z.alloc (U ((wd::xs).map aM).toArray 9))):=by
  have hh:=split_q x hx 32 (w.alloc (U #[pd (M ⟨P,0,Q⟩)] 81)) (hs.on (aA br _));rw[hsp,hcn]at hh;have e1:(w.alloc (U #[pd (M ⟨P,0,Q⟩)] 81)).heap.size=w.heap.size+1:=sm;rw[e1]at hh;exact hh
 have CC:=aI (clkCaught P D m la lc l ba bc bg q S w wd xs (fun y hy=>nh (hml y (by rw[hsp];simp[hy])) hx) h hk (hE wd xs) hs2);have HE:=aI (hE wd xs);have S0:=aI hs;rw[eA];clear h hk hE hs hs2 hsl hml hsp hcn eA
 cases hr:vE m l bg S wd xs with
 | ok p=>
  rw[hr]at CC;clear hr HE;go_enter func21,ntmps21
  go_wp2_with fail
  refine C1.out.mono ?_;rintro e w2 ⟨rfl,rfl⟩;clear C1
  go_wp2_with fail
  refine CC.out.mono ?_;rintro e w3 ⟨rfl,hq⟩;have HQ:=aI hq;clear hq CC;go_wp2;go_ret;exact⟨rfl,HQ.out⟩
 | error z=>
  have hz:=HE.out z hr;rw[hr]at CC;clear hr HE;have f1:=sU [101,114,114,111,114,32] (cL z) (by have:=aAy (n:=z) om om;simp;omega);have CI:=Hi (fun w hs=>tM z om om w hs);obtain⟨T,hT⟩:=nm (cL z);rw[<-hT]at f1 CI;have HT:=aI hT;clear hT;go_enter func21,ntmps21
  go_wp2_with fail
  refine C1.out.mono ?_;rintro e w2 ⟨rfl,rfl⟩;clear C1
  go_wp2_with fail
  refine CC.out.mono ?_;rintro e w3 ⟨rfl,_,hb⟩;have B3:=aI hb;clear hb CC
  go_wp2_with fail
  refine(CI.out _ (S0.out.on B3.out)).mono ?_;rintro e w4 ⟨rfl,hb4⟩;have B4:=Hi (aC B3.out hb4);clear hb4 CI;go_wp2;go_ret;exact⟨by have hh:=HT.out;subst hh;rfl,ba,bc,q,D,H.out.on B4.out,fun b h=>.inl h,bG B4.out⟩
end
end
theorem cc_any (b:Nat) (p v:Value) (hp:p=pd Q∨p=pd (M ⟨b,0,Q⟩)) (w:World) (hb:w.heap[b]?=M (U #[p,v] 54 (0,0))) :
  Calls prog 42 #[pd (M ⟨b,0,Q⟩)] w fun e w'=>e=rt (tu #[])/\w'.heap[b]?=M (U #[pd (M ⟨b,0,Q⟩),v] 54 (0,0))/\w.grownBy w' (M b)/\w'.heap.size=w.heap.size:=by
 have h0:w.cell? ⟨b,0,Q⟩=M p:=by rw[Lib.cell_of_heap hb];rfl
 rcases hp with rfl | rfl
 ·refine(Any.Builder_copyCheck_fresh (P:=prog) (ρ:=Tryz.lays156_ren) {Tryz.lays166 with} Tryz.Builder_Extra_156.toX72 b w h0 (by simp[World.shape?,hb];rfl) (Lib.frozen_of_heap hb 0)).mono ?_;rintro e w' ⟨he,rfl⟩;exact⟨he,by simp[World.setCell,Array.getElem?_modify,hb],aP w b 0 _,n9 _ _ _⟩
 ·refine(Any.Builder_copyCheck_used (P:=prog) (ρ:=Tryz.lays156_ren) {Tryz.lays166 with} Tryz.Builder_Extra_156.toX72 b w h0).mono ?_;rintro e w' ⟨he,rfl⟩;exact⟨he,hb,⟨rfl,rfl,rfl,nr,fun _ _ _=>rfl⟩,rfl⟩
structure Fr2 (b:Nat) (r:Option Nat) (w w':World):Prop where
 os:w'.os=w.os
 tape:w'.tape=w.tape
 output:w'.output=w.output
 size:w.heap.size<=w'.heap.size
 block:∀k,k<w.heap.size->k≠b->M k≠r->w'.heap[k]?=w.heap[k]?
theorem bytes_str (x:List UInt8):Lib.strCells ⟨x.toArray⟩=Lib.byteCells x:=by simp[Lib.strCells,Lib.byteCells]
theorem bytes_app (l x:List UInt8):Lib.byteCells (l++x)=Lib.byteCells l++Lib.byteCells x:=by simp[Lib.byteCells]
theorem bldWrite (B b:Nat) (v:Value) (l x:List UInt8) (w:World) (h:Bld B b v l w) (hlen:l.length+x.length<=1000000) (hB:B<=w.heap.size) :
  Calls prog 20 #[pd (M ⟨b,0,Q⟩),aM x] w fun e w'=>(∃n:Int,e=rt (tu #[Y I n,.nilIface]))/\∃v',Bld B b v' (l++x) w'/\(v'.ownBlock=v.ownBlock∨v'.ownBlock=M w.heap.size)/\Fr2 b v.ownBlock w w':=by
 obtain⟨p,hp,hb⟩:=h.hp;have CC:=aI (cc_any b p v hp w hb);have HO:=aI h.own;have HN:=aI h.ne;have HL:=aI h.lo;have hbl:=(Array.getElem?_eq_some_iff.1 hb).1;have hxs:(ByteArray.mk x.toArray).size=x.length:=by show x.toArray.size=_;simp
 clear h hp hb;go_enter func20,ntmps20
 go_wp2_with fail
 refine CC.out.mono ?_;rintro e w1 ⟨rfl,hbk,hg1,hs1⟩;have hown1:=HO.out.kept hg1 (Or.inr (fun e=>HN.out e));have c1:w1.cell? ⟨b,1,Q⟩=M v:=by rw[Lib.cell_of_heap hbk];rfl
 have G1:=aI hg1;have S1:=aI hs1;clear hg1 hs1 CC HO
 go_wp2_with (first
  | (at_builtin;refine vZ rfl _ _ rfl B _ _ _ rfl hown1 ⟨x.toArray⟩ rfl ?c3 ?c4 ?_)
  | go_in)
 case c3=>rw[hxs];omega
 case c4=>rw[S1.out];exact hB
 intro v' w2 hown' hgrow hv';have hlt:b<w1.heap.size:=by rw[S1.out];exact hbl
 have hb2:w2.heap[b]?=M (U #[pd (M ⟨b,0,Q⟩),v] 54 (0,0)):=by
  rw[hgrow.block b hlt (fun e=>HN.out e.symm)];exact hbk
 have d1:w2.cell? ⟨b,1,Q⟩=M v:=by rw[Lib.cell_of_heap hb2];rfl
 have f1:=Lib.frozen_of_heap hb2 1
 obtain⟨ao,n',cap,rfl⟩:∃ao n' cap,v'=J ao n' cap:=by
  rcases hown'.2 with ⟨hv,_⟩ | ⟨g,cap,cur,hv,_⟩
  ·exact⟨_,_,_,hv⟩
  ·exact⟨_,_,_,hv⟩
 have H2:=aI hb2;have HO2:=aI hown';have HG2:=aI hgrow;have HV:=aI hv';clear hb2 hown' hgrow hv' hbk hown1 c1;go_wp2;go_ret2
 have hnb:(J ao n' cap).ownBlock≠M b:=by
  intro e;rcases HV.out with hh | hh
  ·exact HN.out (hh.symm.trans e)
  ·rw[hh]at e;injection e with e;have:=S1.out;omega
 refine⟨⟨_,rfl⟩,_,⟨⟨_,.inr rfl,by simp[World.setCell,Array.getElem?_modify,H2.out]⟩,?_,hnb,HL.out⟩,?_,?_⟩
 ·have:=HO2.out;rw[bytes_str]at this;rw[nj,bytes_app];exact this.kept (aP w2 b 1 _) (Or.inr (fun e=>hnb e))
 ·rw[<-S1.out];exact HV.out
 ·exact⟨HG2.out.os.trans G1.out.os,HG2.out.tape.trans G1.out.tape,HG2.out.output.trans G1.out.output,by rw[n9];have:=HG2.out.size;have:=S1.out;omega,fun k hk h1 h2=>by
   rw[eB _ _ _ _ _ h1,HG2.out.block k (by rw[S1.out];exact hk) h2,G1.out.block k hk (fun e=>by injection e with e;exact h1 e)]⟩
theorem clk_new (w:World) (m:Int) (la:Option Addr) (lc:Nat) (l:List TxA) (hl:IsTxs w la l):Clk w.heap.size (fun _=>False) m la lc l Q 0 [] qNil mD (w.alloc (U #[Y I m,J la l.length lc,J Q 0 0,J Q 0 0,J Q 0 0,J Q 0 0,J Q 0 0] 47)):=by
 have hb:Below w.heap.size w (w.alloc (U #[Y I m,J la l.length lc,J Q 0 0,J Q 0 0,J Q 0 0,J Q 0 0,J Q 0 0] 47)):=aA br _;refine⟨⟨?_,?_,?_,?_,?_,?_,?_⟩,fun j=>aU _ _ 47 _ j rfl,fun w' h'=>hl.below (hb.trans h'),fun b h=>h.elim,fun w' _ _=>⟨⟨rfl,rfl,rfl,rfl,⟨?_,?_,?_,?_⟩⟩,?_⟩⟩
 ·exact aF _ _ 47 _ 0 _ rfl rfl
 ·exact aF _ _ 47 _ 1 _ rfl rfl
 ·exact aF _ _ 47 _ 2 _ rfl rfl
 ·exact aF _ _ 47 _ 3 _ rfl rfl
 ·exact aF _ _ 47 _ 4 _ rfl rfl
 ·exact aF _ _ 47 _ 5 _ rfl rfl
 ·exact aF _ _ 47 _ 6 _ rfl rfl
 ·exact fun i hi=>absurd hi (nl _)
 ·exact fun i hi=>absurd hi (nl _)
 ·exact fun i hi=>absurd hi (nl _)
 ·exact fun i hi=>absurd hi (nl _)
 ·exact fun i hi=>absurd hi (nl _)
theorem bld_new (w:World):Bld w.heap.size w.heap.size (J Q 0 0) [] (w.alloc (U #[pd Q,J Q 0 0] 54)):=
 ⟨⟨_,.inl rfl,heap_alloc_new w _⟩,n8 _ _ _ _,by simp[Value.ownBlock],nr⟩
theorem Clk.write {P:Nat} {D:Nat->Prop} {m:Int} {la:Option Addr} {lc:Nat} {l:List TxA} {ba:Option Addr} {bc:Nat} {bg:List Int} {q:Q4} {S:SA} {w:World} (h:Clk P D m la lc l ba bc bg q S w) (hf:Fr2 b r w w') (h1:P<b) (h2:∀g,r=M g->P<g) (h3:¬D b) (h4:∀g,r=M g->¬D g):Clk P D m la lc l ba bc bg q S w':=by
 have hP:=h.pl;refine h.frame (hf.block P hP om (fun e=>Nat.lt_irrefl _ (h2 P e.symm))) ⟨hf.os,hf.tape,hf.output,hf.size,fun k hk=>hf.block k om om (fun e=>by have:=h2 k e.symm;omega)⟩ (fun k hd=>hf.block k (h.dl k hd).2 (fun e=>h3 (e ▸ hd)) (fun e=>h4 k e.symm hd))
theorem Bld.on {P:Nat} {v:Value} {l:List UInt8} {w:World} (h:Bld B b v l w) (hg:w.grownBy w' (M P)) (h1:b≠P) (h2:v.ownBlock≠M P):Bld B b v l w':=by
 obtain⟨p,hp,hb⟩:=h.hp;have hbl:=(Array.getElem?_eq_some_iff.1 hb).1;exact⟨⟨p,hp,by rw[hg.block b hbl (fun e=>by injection e with e;exact h1 e)];exact hb⟩,h.own.kept hg (Or.inr (fun e=>h2 e)),h.ne,h.lo⟩
theorem stepE_few (sh:Nat) (l:List TxA) (S:SA) (kd n k:Int):0<=dC sh l S kd n k/\dC sh l S kd n k<=7:=by
 unfold dC;split
 ·split
  ·decide
  ·split
   ·split
    ·decide
    ·split <;> decide
   ·decide
 ·decide
theorem doE_few {m:Int} {l:List TxA} {S:SA} (h:cZ m l S=0) (kd n k:Int):0<=gM m l S kd n k/\gM m l S kd n k<=7:=by
 unfold gM;rw[if_pos h];exact stepE_few _ _ _ _ _ _
theorem telL_err {m:Int} {l:List TxA} {bg:List Int} {S:SA} (h:cZ m l S=0) (hz:eU m l bg S x=.error z):0<z/\z<=100:=by
 unfold eU at hz;split at hz
 ·cases hz
 split at hz
 ·cases hz
 split at hz
 ·cases hz
 split at hz
 ·split at hz
  ·cases hz
  ·next hr=>
   injection hz with hz
   subst hz;unfold lD at hr ⊢;rw[if_pos h]at hr ⊢;split
   ·next ho=>rw[if_pos ho]at hr;exact absurd rfl hr
   ·decide
 ·injection hz with hz
  subst hz;decide
theorem do_err {m:Int} {l:List TxA} {S:SA} (h:cZ m l S=0) {r:List UInt8×List Int×SA} (hz:(if gM m l S kd n k=0 then Except.ok r else Except.error (gM m l S kd n k))=(Except.error z:Except Int (List UInt8×List Int×SA))):0<z/\z<=100:=by
 have:=doE_few h kd n k;split at hz
 ·cases hz
 ·injection hz with hz
  omega
theorem chgL_err {m:Int} {l:List TxA} {bg:List Int} {S:SA} (h:cZ m l S=0) {b:List UInt8} (hz:bJ m l bg S x a b=.error z):0<z/\z<=100:=by
 unfold bJ at hz;have one:∀{z:Int},(Except.error 1:Except Int (List UInt8×List Int×SA))=.error z->0<z/\z<=100:=fun e=>by injection e with e;subst e;decide
 split at hz
 ·split at hz
  ·split at hz
   ·injection hz with hz;subst hz;decide
   ·cases hz
  ·exact one hz
 split at hz
 ·split at hz
  ·exact do_err h hz
  ·exact one hz
 split at hz
 ·split at hz
  ·exact do_err h hz
  ·exact one hz
 ·exact one hz
theorem obL_err {m:Int} {l:List TxA} {bg:List Int} {S:SA} (h:cZ m l S=0) (x:List UInt8) (xs:List (List UInt8)) (z:Int) (hz:vE m l bg S x xs=.error z):0<z/\z<=100:=by
 match xs,hz with
 | [],hz=>
  cases hr:eU m l bg S x with
  | ok p=>rw[vE,hr]at hz;cases hz
  | error y=>
   rw[vE,hr]at hz;have e:y=z:=by injection hz
   subst e;exact telL_err h hr
 | [a],hz=>injection hz with hz;subst hz;decide
 | [a,b],hz=>exact chgL_err h hz
 | a::b::c::r,hz=>injection hz with hz;subst hz;decide
theorem desk_cl {m:Int} {l:List TxA} {S:SA} (h:cZ m l S=0):∀p∈cK m l S,(p.1=1∨p.1=2)/\p.2.1<=100/\p.2.2<=100:=by
 obtain⟨sh,rfl,_,h4,hc,_,_,_⟩:=aZ h;have h8:=cJ hc;intro p hp;unfold cK at hp;rw[if_pos h]at hp;obtain⟨h1,h2,h3,_⟩:=gS.1 hp;have e:=lq sh;rw[e]at h3;exact⟨h1,by omega,by omega⟩
theorem desk_cn {m:Int} {l:List TxA} {S:SA} (h:cZ m l S=0):(cK m l S).length<=64:=by
 obtain⟨sh,rfl,_,h4,hc,_,_,_⟩:=aZ h;unfold cK;rw[if_pos h];exact canL_len _ l S (cJ hc) (by rw[lq];exact h4)
theorem kE {m:Int} {l:List TxA} {S:SA} (h:cZ m l S=0):S.st.length=8:=by
 obtain⟨sh,rfl,_,_,_,_,hf,_⟩:=aZ h;exact(cH.1 hf).st
theorem desk_pl {m:Int} {l:List TxA} {S:SA} (h:cZ m l S=0) (k:Nat) (v:Int):jD m l (S.st.set k v)=0:=by
 have h8:=kE h;obtain⟨sh,rfl,_,_,_,hp,_,_⟩:=aZ h
 have hl:cP (S.st.set k v)=0:=by
  unfold cP;rw[we,h8];rfl
 unfold jD;rw[hp,hl];rfl
theorem fD_le:∀(a b:List (Bool×List Int)),fD a b<=a.length
 | x::t,y::u=>by
  unfold fD;split
  ·have:=fD_le t u;rw[lh];omega
  ·exact nz
 | [],_=>by simp[fD]
 | _::_,[]=>by simp[fD]
theorem desk_ser {m:Int} {l:List TxA} {bg:List Int} {S:SA} (h:cZ m l S=0) (hb:bg.length=8):fN bg l=0/\cP S.st=0:=by
 have h8:=kE h;obtain⟨sh,rfl,_,_,hc,_,_,_⟩:=aZ h;have h1:cP bg=0:=if_pos hb;have h2:cP S.st=0:=if_pos h8;refine⟨?_,h2⟩;unfold fN;rw[h1,hc];rfl
theorem wQ:∀(s:List Int) (l:List TxA),(bE s l).length=l.length
 | _,[]=>rfl
 | s,x::t=>by
  have:=wQ (pM s x) t;simp[bE,this]
theorem desk_au {m:Int} {l:List TxA} {bg:List Int} {S:SA} (h:cZ m l S=0) (hb:bg.length=8) (hr:lD m l S=0):kI bg l S.st (iV m l S)=0:=by
 obtain⟨h1,h2⟩:=desk_ser h hb
 have e1:(cF bg l).length=l.length:=by
  have e:cF bg l=bE bg l:=if_pos h1;rw[e,wQ]
 have e2:(iV m l S).length=l.length:=by
  have e:iV m l S=jZ l S l.length:=if_pos hr;rw[e];simp[jZ]
 have e3:oA (cF bg l).length (iV m l S).length=0:=by rw[e1,e2];simp[oA]
 unfold kI;rw[h1,h2,e3];rfl
theorem desk_av {m:Int} {l:List TxA} {bg:List Int} {S:SA} (h:cZ m l S=0) : -1<=jE bg l S.st (iV m l S)/\jE bg l S.st (iV m l S)<=100:=by
 have h8:l.length<=8:=by
  obtain⟨sh,rfl,_,_,hc,_,_,_⟩:=aZ h;exact cJ hc
 unfold jE;split
 ·next ha=>
  have e:cF bg l=bE bg l:=if_pos (tX ha).1;have hl:(cF bg l).length=l.length:=by rw[e,wQ]
  have hf:=fD_le (cF bg l) (iV m l S);unfold mV;split
  ·split
   ·decide
   ·omega
  ·omega
 ·decide
theorem UX (h:p:=by
 split at hr
 ·split at hr
  ·next hd=>injection hr with hr;subst hr;exact h.does hd
  ·cases hr
 ·cases hr):p:=h
section
theorem wrap_I (z:Int):jP (wrap64 z):=by
 unfold wrap64 jP;omega
theorem reckV_I {op a b:Int} (ha:jP a) (hb:jP b):jP (fK op a b):=by
 unfold fK;split
 ·exact ha
 split
 ·exact wrap_I _
 split
 ·exact wrap_I _
 split
 ·exact wrap_I _
 split
 ·unfold qR;split
  ·exact hb
  ·exact ha
 split
 ·unfold nG;split
  ·exact hb
  ·exact ha
 ·exact⟨by decide,by decide⟩
theorem xU (h:∀z∈s,jP z) (k:Nat):jP (s.getD k 0):=by
 by_cases hk:k<s.length
 ·rw[li,wj hk];exact h _ (ww hk)
 ·rw[li,List.getElem?_eq_none om];exact⟨by decide,by decide⟩
theorem valV_I (hn:jP n) (h:∀z∈zs,jP z):jP (dN k n zs):=by
 unfold dN;split
 ·split
  ·exact hn
  ·exact xU h _
 ·exact⟨by decide,by decide⟩
theorem madeOf_I {gs:List Gd} {ss:List St} (h:∀z∈zs,jP z) (hs:∀z∈ss,jP z.an/\jP z.bn):∀z∈aS zs gs ss,jP z:=by
 intro z hz;unfold aS at hz;split at hz
 ·unfold eY at hz;obtain⟨s,hs1,rfl⟩:=List.mem_map.1 hz;exact reckV_I (valV_I (hs s hs1).1 h) (valV_I (hs s hs1).2 h)
 ·cases hz
theorem mixV_I {sh k:Nat} (hs:∀z∈s,jP z):∀(rs vs:List Int),(∀z∈vs,jP z)->∀z∈fG sh k s rs vs,jP z
 | [],vs,h=>by cases vs <;> exact h
 | r::rs,[],h=>h
 | r::rs,v::vs,h=>by
  intro z hz;rw[fG]at hz;rcases List.mem_cons.1 hz with rfl | hz
  ·split
   ·exact xU hs _
   ·exact h v wl
  ·exact mixV_I hs rs vs (fun y hy=>h y (ly _ hy)) z hz
theorem set_I (h:∀z∈s,jP z) (k:Nat) (hv:jP v):∀z∈s.set k v,jP z:=fun z hz=>by
 rcases List.mem_or_eq_of_mem_set hz with h1 | h1
 ·exact h z h1
 ·rw[h1];exact hv
theorem putSh_I {sh k:Nat}:∀(ks s vs:List Int),(∀z∈s,jP z)->(∀z∈vs,jP z)->∀z∈cE sh k s ks vs,jP z
 | [],s,vs,h,_=>by cases vs <;> exact h
 | key::ks,s,[],h,_=>h
 | key::ks,s,v::vs,h,hv=>by
  rw[cE];refine putSh_I ks _ vs ?_ (fun y hy=>hv y (ly _ hy));split
  ·exact set_I h _ (hv v wl)
  ·exact h
structure Dsk (m:Int) (l:List TxA) (bg:List Int) (S:SA):Prop where
 pe:aN m l=0
 v6:∀x∈l,V64 x
 b8:bg.length=8
 iv:Inv m.toNat l bg S
 si:∀z∈S.st,jP z
 vi:∀n,∀z∈S.vs.getD n [],jP z
section
variable {m:Int} {l:List TxA} {bg:List Int} {S:SA}
theorem Dsk.st (h:Dsk m l bg S):cZ m l S=0:=inv_st h.pe h.iv
theorem gX_mem {n:Nat} (h:n<l.length):gX l n∈l:=by
 unfold gX;rw[li,wj h];exact ww h
theorem Dsk.step (h:Dsk m l bg S) {K N k:Nat} (hK:K=1∨K=2) (hN:N<l.length) (hk:k<m.toNat) (hm:eD m.toNat l S K N k=true):Dsk m l bg (yQ m.toNat l S K N k):=by
 have hz:=aX h.pe;refine⟨h.pe,h.v6,h.b8,inv_do om h.b8 (fun n hn=>lR (eG hz.2.2 n hn)) h.iv hK hN hk hm,?_,?_⟩
 ·unfold yQ;split
  ·exact putSh_I _ _ _ h.si (madeOf_I (h.vi N) (h.v6 _ (gX_mem hN)).2)
  ·exact h.si
 ·unfold yQ;split
  ·exact h.vi
  ·intro n z hz2;have hz3:z∈(S.vs.set N _).getD n []:=hz2;by_cases hv:N<S.vs.length
   ·rw[eE _ _ _ _ _ hv]at hz3;split at hz3
    ·exact mixV_I h.si _ _ (h.vi N) z hz3
    ·exact h.vi n z hz3
   ·rw[List.set_eq_of_length_le om]at hz3;exact h.vi n z hz3
theorem Dsk.does (h:Dsk m l bg S) (hd:gM m l S kd n k=0):Dsk m l bg (lU m l S kd n k):=by
 have hst:=h.st;have e2:lU m l S kd n k=yQ m.toNat l S kd.toNat n.toNat k.toNat:=if_pos hd;have e1:gM m l S kd n k=dC m.toNat l S kd n k:=if_pos hst;rw[e1]at hd;rw[e2];obtain⟨K,N,k',rfl,rfl,rfl,hK,hN,hk,a1,a2,a3⟩:=qC hd;simp only[Int.toNat_natCast];exact h.step hK hN hk (by unfold eD;rw[a1,a2,a3];rfl)
theorem dsk_beg (hp:aN m l=0) (hv:∀x∈l,V64 x) (h8:s.length=8) (hs:∀z∈s,jP z):Dsk m l s (cA m l s):=by
 have hl:cP s=0:=if_pos h8
 have hb:jD m l s=0:=by
  unfold jD;rw[hp,hl];rfl
 have e:cA m l s=jW m.toNat l s:=if_pos hb;refine⟨hp,hv,h8,beg_inv hb,?_,?_⟩
 ·rw[e];exact hs
 ·rw[e];intro n z hz;have hz3:z∈(l.map fun x=>List.replicate x.rs.length (0:Int)).getD n []:=hz;rw[li,List.getElem?_map]at hz3
  cases hx:l[n]? with
  | none=>rw[hx]at hz3;cases hz3
  | some x=>
   rw[hx]at hz3;have:z=0:=(List.mem_replicate.1 hz3).2;rw[this];exact⟨by decide,by decide⟩
theorem mO (m:Int) (l:List TxA) (S:SA):∀i,itr m l S (i+1)=itr m l (nxt m l S) i
 | 0=>rfl
 | i+1=>by
  show nxt m l (itr m l S (i+1))=nxt m l (itr m l (nxt m l S) i);rw[mO m l S i]
theorem Dsk.first (h:Dsk m l bg S) (ho:lY m l S=false):0<(cK m l S).length/\(cK m l S).getD 0 (0,0,0)∈cK m l S:=by
 have h1:=can_over h.st;rw[ho]at h1;have h2:¬(cK m l S).length=0:=by simpa using h1.symm
 have h3:0<(cK m l S).length:=om;refine⟨h3,?_⟩;rw[li,wj h3];exact ww h3
theorem Dsk.next (h:Dsk m l bg S) (ho:lY m l S=false):Dsk m l bg (nxt m l S)/\cnt m.toNat l (nxt m l S)=cnt m.toNat l S+1:=by
 have hst:=h.st;obtain⟨h3,hx⟩:=h.first ho;have hd:=can_do0 hst hx;have e:nxt m l S=yQ m.toNat l S ((cK m l S).getD 0 (0,0,0)).1 ((cK m l S).getD 0 (0,0,0)).2.1 ((cK m l S).getD 0 (0,0,0)).2.2:=do_is hd;have e2:cK m l S=dF m.toNat l S:=if_pos hst;have hx2:(cK m l S).getD 0 (0,0,0)∈dF m.toNat l S:=by rw[<-e2];exact hx
 obtain⟨a1,a2,a3,a4⟩:=gS.1 hx2;rw[e];exact⟨h.step a1 a2 a3 a4,cnt_do a1 h.iv.f a2 a3 a4⟩
theorem Dsk.few (h:Dsk m l bg S):cnt m.toNat l S<=64:=by
 have hz:=aX h.pe;have h8:=cJ hz.2.2;have h1:=cnt_le m.toNat l S;have h2:l.length*m.toNat<=8*4:=l5 h8 om;omega
theorem rest_ok (m:Int) (l:List TxA) (bg:List Int):∀(f:Nat) (S:SA),Dsk m l bg S->64<f+cnt m.toNat l S->RX m l (itr m l S) (rNf m l f S)/\Dsk m l bg (itr m l S (rNf m l f S))/\rNf m l f S+cnt m.toNat l S<=64
 | 0,S,h,hf=>by have:=h.few;omega
 | f+1,S,h,hf=>by
  have hst:=h.st;by_cases ho:lY m l S=true
  ·have e:rNf m l (f+1) S=0:=if_pos ho;rw[e];refine⟨⟨fun i hi=>?_,fun i hi=>?_,fun i hi=>by omega,fun i hi=>by omega,fun i hi=>by omega,by omega⟩,h,by have:=h.few;omega⟩
   ·have:i=0:=by omega
    subst this;exact hst
   ·have:i=0:=by omega
    subst this;exact ho
  ·have hof:lY m l S=false:=by simpa using ho
   have e:rNf m l (f+1) S=rNf m l f _+1:=if_neg ho;obtain⟨hn,hc⟩:=h.next hof;obtain⟨h3,hx⟩:=h.first hof;have hd:=can_do0 hst hx;obtain⟨r,d,k⟩:=rest_ok m l bg f (nxt m l S) hn om;rw[e];refine⟨⟨fun i hi=>?_,fun i hi=>?_,fun i hi=>?_,fun i hi=>?_,fun i hi=>?_,by omega⟩,?_,by omega⟩
   ·cases i with
    | zero=>exact hst
    | succ i=>rw[mO];exact r.st i om
   ·cases i with
    | zero=>show lY m l S=_;rw[hof];simp
    | succ i=>rw[mO,r.ov i om];simp
   ·cases i with
    | zero=>exact h3
    | succ i=>rw[mO];exact r.can i om
   ·cases i with
    | zero=>exact hd
    | succ i=>rw[mO];exact r.dz i om
   ·rfl
   ·rw[mO];exact d
theorem Dsk.rest (h:Dsk m l bg S):RX m l (itr m l S) (rN m l S)/\Dsk m l bg (itr m l S (rN m l S))/\rN m l S<=64:=by
 obtain⟨a,b,c⟩:=rest_ok m l bg 65 S h om;exact⟨a,b,by show rNf m l 65 S<=64;omega⟩
theorem Dsk.ok (h:Dsk m l bg S):OkDesk m l bg S:=
 ⟨h.st,kE h.st,fun z hz=>by have:=h.si z hz;unfold jP at this;omega,h.rest.1,desk_cl h.st,desk_cn h.st,desk_au h.st h.b8,desk_av h.st,desk_pl h.st⟩
theorem numW_I (h:cG x=M n):jP n:=by
 have:=(oG x n).1 h;unfold jP;omega
theorem Dsk.put (h:Dsk m l bg S) (k:Nat) (hv:jP v):Dsk m l (S.st.set k v) (cA m l (S.st.set k v)):=
 dsk_beg h.pe h.v6 (by rw[we];exact kE h.st) (set_I h.si _ hv)
theorem Dsk.tell (h:Dsk m l bg S) {p:List UInt8×SA} (hr:eU m l bg S x=.ok p):Dsk m l bg p.2:=by
 unfold eU at hr;split at hr
 ·injection hr with hr;subst hr;exact h
 split at hr
 ·injection hr with hr;subst hr;exact h
 split at hr
 ·injection hr with hr;subst hr;exact h.rest.2.1
 split at hr
 ·split at hr
  ·injection hr with hr;subst hr;exact h
  ·cases hr
 ·cases hr
theorem Dsk.change (h:Dsk m l bg S) {b:List UInt8} {p:List UInt8×List Int×SA} (hr:bJ m l bg S x a b=.ok p):Dsk m l p.2.1 p.2.2:=by
 unfold bJ at hr;split at hr
 ·split at hr
  ·next k v h1 h2=>
   split at hr
   ·cases hr
   ·injection hr with hr;subst hr;exact h.put _ (numW_I h2)
  ·cases hr
 split at hr
 ·exact UX
 split at hr
 ·exact UX
 ·cases hr
theorem Dsk.obey (h:Dsk m l bg S) {p:List UInt8×List Int×SA} (hr:vE m l bg S x xs=.ok p):Dsk m l p.2.1 p.2.2:=by
 match xs,hr with
 | [],hr=>
  have e:vE m l bg S x []=(eU m l bg S x).map fun p=>(p.1,bg,p.2):=rfl
  rw[e]at hr
  cases ht:eU m l bg S x with
  | error z=>rw[ht]at hr;cases hr
  | ok q=>
   rw[ht]at hr;have e2:((Except.ok q:Except Int _).map fun p=>(p.1,bg,p.2))=.ok (q.1,bg,q.2):=rfl;rw[e2]at hr;injection hr with hr
   subst hr;exact h.tell ht
 | [a],hr=>cases hr
 | [a,b],hr=>exact h.change hr
 | a::b::c::r,hr=>cases hr
theorem Dsk.answer (h:Dsk m l bg S) (x:List UInt8):Dsk m l (jF m l bg S x).2.1 (jF m l bg S x).2.2:=by
 unfold jF;split
 ·next p hr=>exact h.obey hr
 ·exact h
end
def oY (m:Int) (l:List TxA):List (List UInt8)->List Int->SA->List UInt8
 | [],_,_=>[]
 | x::r,bg,S=>(jF m l bg S x).1++10::oY m l r (jF m l bg S x).2.1 (jF m l bg S x).2.2
def gP (m:Int) (l:List TxA):List (List UInt8)->List Int×SA->List Int×SA
 | [],p=>p
 | x::r,p=>gP m l r (jF m l p.1 p.2 x).2
theorem scr_app (m:Int) (l:List TxA):∀(a b:List (List UInt8)) (p:List Int×SA),oY m l (a++b) p.1 p.2=oY m l a p.1 p.2++oY m l b (gP m l a p).1 (gP m l a p).2
 | [],_,_=>rfl
 | x::a,b,p=>by
  have:=scr_app m l a b (jF m l p.1 p.2 x).2;simp only[List.cons_append,oY,gP,this,List.append_assoc]
theorem wW (m:Int) (l:List TxA):∀(a b:List (List UInt8)) (p:List Int×SA),gP m l (a++b) p=gP m l b (gP m l a p)
 | [],_,_=>rfl
 | x::a,b,p=>by simp only[List.cons_append,gP];exact wW m l a b _
theorem scrS_ok {m:Int} {l:List TxA}:∀(a:List (List UInt8)) (p:List Int×SA),Dsk m l p.1 p.2->Dsk m l (gP m l a p).1 (gP m l a p).2
 | [],_,h=>h
 | x::a,_,h=>scrS_ok a _ (h.answer x)
end
section
def jM (l:List TxA):List TxA:=(l.map TxA.core).map cX
theorem lT (l:List TxA):(jM l).length=l.length:=by simp[jM]
theorem nH (l:List TxA) (n:Nat):gX (jM l) n=cX (gX l n).core:=by
 unfold gX jM;rw[List.map_map,li,li,List.getElem?_map]
 cases l[n]? <;> rfl
section
variable (sh:Nat) (m:Int) (l:List TxA) (S:SA)
theorem er_pt (x:TxA) (k:Nat):iF sh (cX x.core) k=iF sh x k:=rfl
theorem er_ac (x:TxA) (k:Nat):mW sh (cX x.core) k=mW sh x k:=rfl
theorem er_cl (x y:TxA) (k:Nat):yR sh (cX x.core) (cX y.core) k=yR sh x y k:=rfl
theorem er_allRd (n:Nat):dT sh (jM l) S n=dT sh l S n:=by
 simp only[dT,nH,er_pt]
theorem er_gone (n k:Nat):bM sh (jM l) S n k=bM sh l S n k:=by
 simp only[bM,nH,er_pt,er_ac]
theorem er_blk (n k:Nat):mB sh (jM l) S n k=mB sh l S n k:=by
 simp only[mB,lW,nH,er_gone,er_cl]
theorem er_has (kd n k:Nat):qS sh (jM l) kd n k=qS sh l kd n k:=by
 simp only[qS,nH,er_pt,er_ac]
theorem er_free (kd n k:Nat):dD sh (jM l) S kd n k=dD sh l S kd n k:=by
 simp only[dD,er_allRd,er_blk]
theorem er_may (kd n k:Nat):eD sh (jM l) S kd n k=eD sh l S kd n k:=by
 simp only[eD,er_has,er_free]
theorem er_form:gL sh (jM l) S=gL sh l S:=by
 simp only[gL,lT,nH];rfl
theorem er_truth:cV sh (jM l) S=cV sh l S:=by
 simp only[cV,lT,nH,er_pt,er_ac,er_allRd]
theorem er_plan:aN m (jM l)=aN m l:=kW m l
theorem er_st:cZ m (jM l) S=cZ m l S:=by
 simp only[cZ,er_plan,er_form,er_truth]
theorem er_read (n k:Nat):gK sh (jM l) S n k=gK sh l S n k:=by
 unfold gK;rw[nH];rfl
theorem er_write (n k:Nat):dM sh (jM l) S n k=dM sh l S n k:=by
 unfold dM;rw[nH];rfl
theorem er_doX (kd n k:Nat):yQ sh (jM l) S kd n k=yQ sh l S kd n k:=by
 unfold yQ;rw[er_read,er_write]
theorem er_canL:dF sh (jM l) S=dF sh l S:=by
 have h:eD sh (jM l) S=eD sh l S:=by funext kd n k;exact er_may sh l S kd n k
 simp only[dF,mT,eX,fE,lT,h]
theorem er_over:dB sh (jM l) S=dB sh l S:=by
 simp only[dB,kX,lT,er_gone]
theorem er_stepE (kd n k:Int):dC sh (jM l) S kd n k=dC sh l S kd n k:=by
 simp only[dC,lT,er_has,er_free]
theorem er_ov:lY m (jM l) S=lY m l S:=by
 simp only[lY,er_st,er_over]
theorem er_can:cK m (jM l) S=cK m l S:=by
 simp only[cK,er_st,er_canL]
theorem er_doE (kd n k:Int):gM m (jM l) S kd n k=gM m l S kd n k:=by
 simp only[gM,er_st,er_stepE]
theorem er_doS (kd n k:Int):lU m (jM l) S kd n k=lU m l S kd n k:=by
 simp only[lU,er_doE,er_doX]
theorem er_beg (s:List Int):cA m (jM l) s=cA m l s:=by
 have h:jW m.toNat (jM l) s=jW m.toNat l s:=by
  simp only[jW,jM,List.map_map];rfl
 unfold cA jD;rw[er_plan,h]
theorem er_rsE:lD m (jM l) S=lD m l S:=by
 simp only[lD,er_st,er_ov]
theorem er_rsL:iV m (jM l) S=iV m l S:=by
 have h:jZ (jM l) S (jM l).length=jZ l S l.length:=by
  simp only[jZ,lT,nH];rfl
 simp only[iV,er_rsE,h]
theorem aBm:∀(l:List TxA) (s:List Int),bK s (jM l)=bK s l
 | [],_=>rfl
 | x::t,s=>aBm t (pM s x)
theorem aBl:∀(l:List TxA) (s:List Int),bE s (jM l)=bE s l
 | [],_=>rfl
 | x::t,s=>by
  have:=aBl t (pM s x);show (uZ s x,pY s x)::bE (pM s x) (jM t)=(uZ s x,pY s x)::bE (pM s x) t;rw[this]
theorem er_chkL:eN (jM l)=eN l:=by
 have e:(jM l).map kF=l.map kF:=by
  unfold jM;rw[List.map_map,List.map_map];rfl
 unfold eN;rw[e,lT]
theorem er_aud (bg en:List Int) (r:List (Bool×List Int)):jE bg (jM l) en r=jE bg l en r:=by
 unfold jE kI mV cF kR fN;rw[er_chkL,lT,aBm,aBl]
theorem er_nxt:nxt m (jM l) S=nxt m l S:=by
 simp only[nxt,er_doS,er_can]
theorem er_itr:∀i,itr m (jM l) S i=itr m l S i
 | 0=>rfl
 | i+1=>by
  show nxt m (jM l) (itr m (jM l) S i)=nxt m l (itr m l S i);rw[er_itr i,er_nxt]
theorem er_rNf (m:Int) (l:List TxA):∀(f:Nat) (S:SA),rNf m (jM l) f S=rNf m l f S
 | 0,_=>rfl
 | f+1,S=>by
  show (if lY m (jM l) S=true then 0 else rNf m (jM l) f (nxt m (jM l) S)+1)=(if lY m l S=true then 0 else rNf m l f (nxt m l S)+1);rw[er_ov,er_nxt,er_rNf m l f]
theorem er_tel (bg:List Int) (x:List UInt8):eU m (jM l) bg S x=eU m l bg S x:=by
 simp only[eU,er_ov,er_can,rN,er_rNf,er_itr,er_rsE,er_rsL,er_aud]
theorem er_chg (bg:List Int) (x a b:List UInt8):bJ m (jM l) bg S x a b=bJ m l bg S x a b:=by
 simp only[bJ,er_beg,er_doE,er_doS]
theorem er_ob (bg:List Int) (x:List UInt8) (xs:List (List UInt8)):vE m (jM l) bg S x xs=vE m l bg S x xs:=by
 match xs with
 | []=>simp only[vE,er_tel]
 | [a]=>rfl
 | [a,b]=>exact er_chg m l S bg x a b
 | a::b::c::r=>rfl
theorem er_ans (bg:List Int) (x:List UInt8):jF m (jM l) bg S x=jF m l bg S x:=by
 simp only[jF,er_ob]
theorem er_scr (m:Int) (l:List TxA):∀(ls:List (List UInt8)) (bg:List Int) (S:SA),oY m (jM l) ls bg S=oY m l ls bg S
 | [],_,_=>rfl
 | x::r,bg,S=>by
  simp only[oY,er_ans,er_scr m l r]
end
theorem v64_of {p:Int×List iG} (h:OkP p) {l:List TxA} (hl:l.map TxA.core=p.2):∀x∈l,V64 x:=fun x hx=>by
 have hc:=h.2.2 _ (by rw[<-hl];exact List.mem_map.2 ⟨x,hx,rfl⟩);exact⟨fun z hz=>⟨(hc.2.1.2 z hz).2.2.1,(hc.2.1.2 z hz).2.2.2.2⟩,fun z hz=>⟨(hc.2.2.2 z hz).2.2.2.1,(hc.2.2.2 z hz).2.2.2.2.2⟩⟩
end
theorem Vl (h:p:=by
 split at hp
 ·split at hp
  ·injection hp with hp;subst hp;exact ok _
  ·cases hp
 ·cases hp):p:=h
theorem xS (m:Int) (a:Option Addr) (n c:Nat) (w:World):Calls prog 13 #[ag #[Y I m,J a n c],Y I 0] w fun e' w'=>e'=rt (ag #[Y I m,J a n c])/\Below w.heap.size w w':=by
 obtain⟨W,hWe⟩:=nm (((w.alloc (U #[Y I m,J a n c] 29)).alloc (U #[Y I 0,J Q 0 0] 29)));have hW:Hid (Below w.heap.size w W):=by subst hWe;exact aA (aA br _) _
 have p0:W.cell? ⟨w.heap.size,0,Q⟩=Y I m:=by subst hWe;exact aB (aA br _) (aF _ _ 29 _ 0 _ rfl rfl)
 have p1:W.cell? ⟨w.heap.size,1,Q⟩=J a n c:=by subst hWe;exact aB (aA br _) (aF _ _ 29 _ 1 _ rfl rfl)
 have r0:W.cell? ⟨w.heap.size+1,0,Q⟩=Y I 0:=by subst hWe;exact aF _ _ 29 _ 0 _ sm rfl
 have r1:W.cell? ⟨w.heap.size+1,1,Q⟩=J Q 0 0:=by subst hWe;exact aF _ _ 29 _ 1 _ sm rfl
 have rf:∀j,W.frozen? ⟨w.heap.size+1,j,Q⟩=false:=by subst hWe;exact fun j=>aU _ _ 29 _ j sm
 have sz:Hid (W.heap.size=w.heap.size+2):=by subst hWe;show _=_;simp
 have HWe:Hid (W=_):=hWe;clear hWe;go_enter func13,ntmps13
 go_upto_region 1 with fail
 rw[<-HWe.out];clear HWe
 go_wp2_with fail
 refine(aQ [0] _ 1 _ sm rfl (dS _ _ _ rfl)).mono ?_;rintro e w' ⟨rfl,rfl⟩;have gA:Below W.heap.size W (W.alloc (U #[Y I 0] 22)):=aA br _;have p0:=aB gA p0;have p1:=aB gA p1;have r0:=aB gA r0;have r1:=aB gA r1;have rf:=fun j=>(gA.frozen (p:=⟨w.heap.size+1,j,Q⟩) (by have:=sz.out;show w.heap.size+1<_;omega)).trans (rf j)
 have BF:=Hi (aC hW.out gA);clear gA;generalize W.alloc (U #[Y I 0] 22)=V at *;obtain⟨x0,x1⟩:=yY (Y I m) (J a n c) r0 r1;have FB:Hid (Below w.heap.size w ((V.setCell ⟨w.heap.size+1,0,Q⟩ (Y I m)).setCell ⟨w.heap.size+1,1,Q⟩ (J a n c))):=aG (aG BF.out sm _) sm _
 go_wp2_with fail
 refine bodyPost_ret (v:=ag #[Y I m,J a n c]) (by simp[results,results13,go_sem,x0,x1]) rfl ⟨rfl,FB.out⟩
theorem gotPlan_pan (m:Int) (a:Option Addr) (n c:Nat) (x:Int) (hx:¬x=0) (w:World):Calls prog 13 #[ag #[Y I m,J a n c],Y I x] w fun e' w'=>e'=pg [{v:=fc 22 (Y I x),recovered:=false}]/\Below w.heap.size w w':=by
 have hW:Hid (Below w.heap.size w ((w.alloc (U #[Y I m,J a n c] 29)).alloc (U #[Y I 0,J Q 0 0] 29))):=aA (aA br _) _;go_enter func13,ntmps13
 go_upto_region 1 with fail
 generalize ((w.alloc (U #[Y I m,J a n c] 29)).alloc (U #[Y I 0,J Q 0 0] 29))=W at *;exact zq
theorem linesOf_q (x:List UInt8) (hx:x.length<=4096) (w:World) (hs:Std w) :
  Calls prog 19 #[aM x] w fun e w'=>e=rt (J (M ⟨w.heap.size,0,Q⟩) (eT 10 x).dropLast.length ((eT 10 x).dropLast.length+1))/\Hid (IsStrs w' (M ⟨w.heap.size,0,Q⟩) (eT 10 x).dropLast)/\Below w.heap.size w w'/\w'.heap.size=w.heap.size+1:=by
 have C1:=aI (split_q x hx 10 w hs)
 have HL:Hid ((eT 10 x).dropLast.length=x.count 10):=by
  show _=_;rw[List.length_dropLast,oX];omega
 have hc:x.count 10<=4096:=nh List.count_le_length hx;have HS:=aI (uA w (eT 10 x)).init;clear hs hx;generalize x.count 10=n at *;generalize (eT 10 x)=L at *;go_enter func19,ntmps19
 go_wp2_with fail
 refine C1.out.mono ?_;rintro e w1 ⟨rfl,he⟩;have HE:=aI he;clear he C1;go_wp2;go_ret;refine⟨by rw[HL.out];rfl,?_,?_,?_⟩
 ·rw[HE.out];exact HS.out
 ·rw[HE.out];exact aA br _
 ·rw[HE.out];simp
theorem IsStrs.kept {w:World} {g off:Nat} (h:IsStrs w (M ⟨g,off,Q⟩) xs) (hs:w.heap.size<=w'.heap.size) (hb:w'.heap[g]?=w.heap[g]?):IsStrs w' (M ⟨g,off,Q⟩) xs:=fun i hi=>by
 obtain⟨b,o,e,hl,hc⟩:=h i hi;injection e with e
 injection e with e1 e2
 subst e1 e2;exact⟨g,off,rfl,nd hl hs,by rw[nu hb];exact hc⟩
theorem Fr2.below {w:World} (hf:Fr2 b r w w') (h1:B<=b) (h2:∀g,r=M g->B<=g) (hB:B<=w.heap.size):Below B w w':=
 ⟨hf.os,hf.tape,hf.output,hf.size,fun k hk=>hf.block k om om (fun e=>by have:=h2 k e.symm;omega)⟩
theorem tN {P:Nat} {w:World} (h:w.grownBy w' (M P)) (h1:B<=P) (hB:B<=w.heap.size):Below B w w':=
 ⟨h.os,h.tape,h.output,h.size,fun k hk=>h.block k om (fun e=>by injection e with e;omega)⟩
theorem oL (h:jP n):(cL n).length<=20:=by
 obtain⟨h1,h2⟩:=h;unfold cL;split
 ·have:(nZ n.natAbs).length<=19:=fL dc om;rw[lh];omega
 ·have:(nZ n.toNat).length<=19:=fL dc om;omega
theorem nC (sep:List UInt8) (k:Nat):∀xs:List (List UInt8),(∀x∈xs,x.length<=k)->(Lib.joinTail sep xs).length<=(sep.length+k)*xs.length
 | [],_=>by simp[Lib.joinTail]
 | x::xs,h=>by
  have ih:=nC sep k xs (fun y hy=>h y (ly _ hy));have hx:=h x wl;have e:Lib.joinTail sep (x::xs)=sep++x++Lib.joinTail sep xs:=by simp[Lib.joinTail]
  rw[e,nj,nj,lh,Nat.mul_succ];omega
theorem txt_len (h:∀z∈s,jP z) (h8:s.length=8):(oW s).length<=200:=by
 match s,h8 with
 | z::t,h8=>
  have hz:=oL (h z wl)
  have ht:=nC [32] 20 (t.map cL) (fun x hx=>by
   obtain⟨y,hy,rfl⟩:=List.mem_map.1 hx;exact oL (h y (ly _ hy)))
  have hl:t.length=7:=by simpa using h8
  unfold oW;rw[List.map_cons,Lib.join_cons,nj];rw[lm,hl]at ht;simp only[List.length_singleton]at ht;omega
theorem stepsW_len (L:List (Nat×Nat×Nat)) (hb:∀p∈L,p.2.1<=100/\p.2.2<=100) (hn:L.length<=64):(fO L).length<=1920:=by
 have:=tS_len L hb L.length nr;rw[tS_end]at this;omega
theorem Dsk.ans_len {m:Int} {l:List TxA} {bg:List Int} {S:SA} (h:Dsk m l bg S) (x:List UInt8):(jF m l bg S x).1.length<=2000:=by
 have hr3:=h.rest.2.2
 have tel:∀y p,eU m l bg S y=.ok p->p.1.length<=2000:=by
  intro y p hp;unfold eU at hp;split at hp
  ·injection hp with hp;subst hp
   show (if lY m l S=true then [111,118,101,114] else fO (cK m l S)).length<=2000;split
   ·decide
   ·have:=stepsW_len (cK m l S) (fun p hp=>(desk_cl h.st p hp).2) (desk_cn h.st);omega
  split at hp
  ·injection hp with hp;subst hp
   have:=txt_len h.si (kE h.st);show (oW S.st).length<=2000;omega
  split at hp
  ·injection hp with hp;subst hp
   have:=(nE (n:=(rN m l S:Nat)) om om).2;show (cL (rN m l S:Nat)).length<=2000;omega
  split at hp
  ·split at hp
   ·injection hp with hp;subst hp
    have ha:=desk_av (bg:=bg) h.st;have:=(nE (n:=jE bg l S.st (iV m l S)) om om).2;show (cL (jE bg l S.st (iV m l S))).length<=2000;omega
   ·cases hp
  ·cases hp
 have chg:∀y a b p,bJ m l bg S y a b=.ok p->p.1.length<=2000:=by
  intro y a b p hp;have ok:∀(q:List Int×SA),(([111,107]:List UInt8),q).1.length<=2000:=fun _=>(by decide:2<=2000)
  unfold bJ at hp;split at hp
  ·split at hp
   ·split at hp
    ·cases hp
    ·injection hp with hp;subst hp;exact ok _
   ·cases hp
  split at hp
  ·exact Vl
  split at hp
  ·exact Vl
  ·cases hp
 unfold jF;split
 ·next p hp=>
  match ht:(eT 32 x).tail,hp with
  | [],hp=>
   have e:vE m l bg S _ []=(eU m l bg S ((eT 32 x).headD [])).map fun p=>(p.1,bg,p.2):=rfl
   rw[e]at hp
   cases hc:eU m l bg S ((eT 32 x).headD []) with
   | error z=>rw[hc]at hp;cases hp
   | ok q=>
    rw[hc]at hp;have e2:((Except.ok q:Except Int _).map fun p=>(p.1,bg,p.2))=.ok (q.1,bg,q.2):=rfl;rw[e2]at hp;injection hp with hp
    subst hp;exact tel _ _ hc
  | [a],hp=>cases hp
  | [a,b],hp=>exact chg _ _ _ _ hp
  | a::b::c::r,hp=>cases hp
 ·next z hz=>
  have hb:=obL_err h.st _ _ _ hz;have:=(nE (n:=z) om om).2;show ([101,114,114,111,114,32]++cL z).length<=2000;rw[nj];simp;omega
theorem scr_len {m:Int} {l:List TxA}:∀(ls:List (List UInt8)) (p:List Int×SA),Dsk m l p.1 p.2->(oY m l ls p.1 p.2).length<=2001*ls.length
 | [],_,_=>by simp[oY]
 | x::r,p,h=>by
  have ih:=scr_len r (jF m l p.1 p.2 x).2 (h.answer x);have h1:=h.ans_len x;rw[oY,nj,lh,lh,Nat.mul_succ];omega
theorem scr_take {m:Int} {l:List TxA} (ls:List (List UInt8)) (p:List Int×SA) (k:Nat) (h:k<ls.length) :
  letI Z:=jF m l (gP m l (ls.take k) p).1 (gP m l (ls.take k) p).2 (ls.getD k []);oY m l (ls.take (k+1)) p.1 p.2=oY m l (ls.take k) p.1 p.2++(Z.1++[10])/\gP m l (ls.take (k+1)) p=Z.2:=by
 have e:ls.take (k+1)=ls.take k++[ls.getD k []]:=by
  rw[lp h];exact Xa
 rw[e,scr_app,wW];exact⟨rfl,rfl⟩
end Go.Proofs.YtcgpkonfneofdaaGreatDoor
