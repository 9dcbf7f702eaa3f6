/- Conditions: those that each theorem states. -/
import Derived.Test.YtcgpkonfneofdaaGreatDoorQPlaceC
import Derived.Test.YtcgpkonfneofdaaGreatDoorQDkW
set_option maxRecDepth 100000
set_option maxHeartbeats 8000000
namespace Go.Proofs.YtcgpkonfneofdaaGreatDoor
open Go.RowKit Go.Proofs.Tryz
open Go.Value renaming slice->J,int->Y,bool->bo,pointer->pd,agg->ag,tuple->tu,string->sg,iface->fc
open Go.IntKind renaming i64->I
open Go.Obj renaming cells->U
open Go.Ending renaming returned->rt,panicked->pg
open Option renaming some->M,none->Q
variable {x:TxA} {k n lo j N c:Nat} {p:Prop} {w':World} {a:Option Addr}
theorem aAq (sh i:Nat) (hi:i<sh):∀ks:List Int,(aY sh ks).getD i false=ks.any (fun k=>k.toNat%sh==i):=by
 have key:∀(ks:List Int) (bs:List Bool),bs.length=sh->(ks.foldl (fun bs k=>bs.set (k.toNat%sh) true) bs).getD i false=(bs.getD i false || ks.any (fun k=>k.toNat%sh==i)):=by
  intro ks
  induction ks with
  | nil=>intro bs _;simp
  | cons k t ih=>
   intro bs hb;rw[List.foldl_cons,ih _ (by simpa using hb),List.any_cons];by_cases c:k.toNat%sh=i
   ·subst c;have e:(bs.set (k.toNat%sh) true).getD (k.toNat%sh) false=true:=by simp[List.getD,hb,hi]
    rw[e];simp
   ·have e:(bs.set (k.toNat%sh) true).getD i false=bs.getD i false:=by simp[List.getD,c]
    rw[e];have e2:(k.toNat%sh==i)=false:=by simpa using c
    rw[e2,Bool.false_or]
 intro ks;unfold aY;rw[key ks _ (List.length_replicate)];simp[List.getD,hi]
theorem keys_any (L:List (Int×Bool)) (f:Int->Bool):(aT L).any f=L.any (fun p=>f p.1):=by
 unfold aT;rw[List.any_map];rfl
theorem sets_any (L:List (Int×Bool)) (f:Int->Bool):(aR L).any f=L.any (fun p=>f p.1 && p.2):=by
 unfold aR;rw[List.any_map,List.any_filter];congr 1;funext p
 cases p.2 <;> simp
structure SA where
 st:List Int
 rd:List (List Bool)
 wr:List (List Bool)
 vs:List (List Int)
def ptL (sh:Nat) (x:TxA):List Bool:=aY sh (aT (bQ x.rs (aJ x.ss) 8))
def acL (sh:Nat) (x:TxA):List Bool:=aY sh (aR (bQ x.rs (aJ x.ss) 8))
def iF (sh:Nat) (x:TxA) (k:Nat):Bool:=(ptL sh x).getD k false
def mW (sh:Nat) (x:TxA) (k:Nat):Bool:=(acL sh x).getD k false
theorem ptB_iff {sh:Nat} (hk:k<sh):iF sh x k=true↔∃c,c<8/\nF x c=true/\c%sh=k:=by
 unfold iF ptL;rw[aAq sh k hk,keys_any,wm];constructor
 ·rintro ⟨p,hp,h⟩;obtain⟨c,h8,hc,rfl⟩:=(jK x p).1 hp;exact⟨c,h8,hc,by simpa using h⟩
 ·rintro ⟨c,h8,hc,h⟩;exact⟨_,(jK x _).2 ⟨c,h8,hc,rfl⟩,by simpa using h⟩
theorem acB_iff {sh:Nat} (hk:k<sh):mW sh x k=true↔∃c,c<8/\pZ x c=true/\c%sh=k:=by
 unfold mW acL;rw[aAq sh k hk,sets_any,wm];constructor
 ·rintro ⟨p,hp,h⟩;obtain⟨c,h8,hc,rfl⟩:=(jK x p).1 hp;simp only[Bool.and_eq_true]at h;exact⟨c,h8,h.2,by simpa using h.1⟩
 ·rintro ⟨c,h8,hc,h⟩;exact⟨_,(jK x _).2 ⟨c,h8,by simp[nF,hc],rfl⟩,by simp[hc,h]⟩
theorem vX {sh:Nat} (hk:k<sh) (h:mW sh x k=true):iF sh x k=true:=by
 obtain⟨c,h8,hc,e⟩:=(acB_iff hk).1 h;exact(ptB_iff hk).2 ⟨c,h8,by simp[nF,hc],e⟩
def cR (R:List (List Bool)) (n k:Nat):Bool:=(R.getD n []).getD k false
def eM (R:List (List Bool)) (n k:Nat):List (List Bool):=R.set n ((R.getD n []).set k true)
theorem eE {α:Type} (l:List α) (i j:Nat) (v d:α) (h:i<l.length):(l.set i v).getD j d=if i=j then v else l.getD j d:=by
 simp only[List.getD,List.getElem?_set];by_cases e:i=j
 ·subst e;simp[h]
 ·simp[e]
theorem tA {R:List (List Bool)} (hn:n<R.length) (hk:k<(R.getD n []).length) (m j:Nat):cR (eM R n k) m j=if n=m/\k=j then true else cR R m j:=by
 unfold cR eM;rw[eE R n m _ _ hn];by_cases e:n=m
 ·subst e;rw[if_pos rfl,eE _ k j _ _ hk];by_cases e2:k=j
  ·rw[if_pos e2,if_pos ⟨rfl,e2⟩]
  ·rw[if_neg e2,if_neg (fun h=>e2 h.2)]
 ·rw[if_neg e,if_neg (fun h=>e h.1)]
theorem rG (R:List (List Bool)) (n k:Nat):(eM R n k).length=R.length:=by simp[eM]
theorem rF (R:List (List Bool)) (n k m:Nat):((eM R n k).getD m []).length=(R.getD m []).length:=by
 unfold eM;by_cases hn:n<R.length
 ·rw[eE R n m _ _ hn];by_cases e:n=m
  ·subst e;simp
  ·rw[if_neg e]
 ·rw[List.set_eq_of_length_le om]
def dT (sh:Nat) (l:List TxA) (S:SA) (n:Nat):Bool:=(List.range sh).all fun k=>!iF sh (gX l n) k || cR S.rd n k
def bM (sh:Nat) (l:List TxA) (S:SA) (n k:Nat):Bool:=if iF sh (gX l n) k then (if mW sh (gX l n) k then cR S.wr n k else cR S.rd n k) else true
def yR (sh:Nat) (x y:TxA) (k:Nat):Bool:=(List.range 8).any fun c=>c%sh==k && gH x y c
def lW (sh:Nat) (l:List TxA) (S:SA) (n k m:Nat):Bool:=(List.range m).any fun a=>!bM sh l S a k && yR sh (gX l a) (gX l n) k
def mB (sh:Nat) (l:List TxA) (S:SA) (n k:Nat):Bool:=lW sh l S n k n
def qS (sh:Nat) (l:List TxA) (kind n k:Nat):Bool:=if kind=2 then mW sh (gX l n) k else iF sh (gX l n) k
def nT (S:SA) (kind n k:Nat):Bool:=if kind=2 then cR S.wr n k else cR S.rd n k
def dD (sh:Nat) (l:List TxA) (S:SA) (kind n k:Nat):Bool:=if kind=2 then dT sh l S n else !mB sh l S n k
def eD (sh:Nat) (l:List TxA) (S:SA) (kind n k:Nat):Bool:=qS sh l kind n k && !nT S kind n k && dD sh l S kind n k
theorem jG {sh:Nat} {l:List TxA} {S:SA}:dT sh l S n=true↔∀k,k<sh->iF sh (gX l n) k=true->cR S.rd n k=true:=by
 unfold dT;rw[List.all_eq_true];constructor
 ·intro h k hk hp;have:=h k (List.mem_range.2 hk);rw[hp]at this;exact Xd
 ·intro h k hk;have:=h k (List.mem_range.1 hk)
  cases hp:iF sh (gX l n) k
  ·simp
  ·simp[this hp]
theorem clK_iff {sh:Nat} {y:TxA}:yR sh x y k=true↔∃c,c<8/\c%sh=k/\gH x y c=true:=by
 unfold yR;rw[wm];constructor
 ·rintro ⟨c,hc,h⟩;simp only[Bool.and_eq_true,beq_iff_eq]at h;exact⟨c,List.mem_range.1 hc,h.1,h.2⟩
 ·rintro ⟨c,hc,h1,h2⟩;exact⟨c,List.mem_range.2 hc,by simp[h1,h2]⟩
theorem hJ {sh:Nat} {l:List TxA} {S:SA}:mB sh l S n k=false↔∀a,a<n->yR sh (gX l a) (gX l n) k=true->bM sh l S a k=true:=by
 unfold mB lW;rw[<-Bool.not_eq_true,wm];constructor
 ·intro h a ha hc
  cases hg:bM sh l S a k with
  | true=>rfl
  | false=>exact absurd ⟨a,List.mem_range.2 ha,by simp[hg,hc]⟩ h
 ·rintro h ⟨a,ha,hc⟩;simp only[Bool.and_eq_true,Bool.not_eq_true']at hc;rw[h a (List.mem_range.1 ha) hc.2]at hc;exact absurd hc.1 sm
def gL (sh:Nat) (l:List TxA) (S:SA):Bool:=decide (S.st.length=8) && decide (S.rd.length=l.length) && decide (S.wr.length=l.length) && decide (S.vs.length=l.length) && (List.range l.length).all fun n=>decide ((S.rd.getD n []).length=sh) && decide ((S.wr.getD n []).length=sh) && decide ((S.vs.getD n []).length=(gX l n).rs.length)
def cV (sh:Nat) (l:List TxA) (S:SA):Bool:=(List.range l.length).all fun n=>(List.range sh).all fun k=>(!cR S.rd n k || iF sh (gX l n) k) && (!cR S.wr n k || (mW sh (gX l n) k && dT sh l S n))
structure Form (sh:Nat) (l:List TxA) (S:SA):Prop where
 st:S.st.length=8
 rd:S.rd.length=l.length
 wr:S.wr.length=l.length
 vs:S.vs.length=l.length
 rn:∀n,n<l.length->(S.rd.getD n []).length=sh
 wn:∀n,n<l.length->(S.wr.getD n []).length=sh
 vn:∀n,n<l.length->(S.vs.getD n []).length=(gX l n).rs.length
structure Truth (sh:Nat) (l:List TxA) (S:SA):Prop where
 r:∀n k,n<l.length->k<sh->cR S.rd n k=true->iF sh (gX l n) k=true
 w:∀n k,n<l.length->k<sh->cR S.wr n k=true->mW sh (gX l n) k=true/\dT sh l S n=true
theorem cH {sh:Nat} {l:List TxA} {S:SA}:gL sh l S=true↔Form sh l S:=by
 unfold gL;simp only[Bool.and_eq_true,decide_eq_true_eq,List.all_eq_true,List.mem_range];constructor
 ·rintro ⟨⟨⟨⟨h1,h2⟩,h3⟩,h4⟩,h5⟩;exact⟨h1,h2,h3,h4,fun n hn=>(h5 n hn).1.1,fun n hn=>(h5 n hn).1.2,fun n hn=>(h5 n hn).2⟩
 ·intro h;exact⟨⟨⟨⟨h.st,h.rd⟩,h.wr⟩,h.vs⟩,fun n hn=>⟨⟨h.rn n hn,h.wn n hn⟩,h.vn n hn⟩⟩
theorem wE {sh:Nat} {l:List TxA} {S:SA}:cV sh l S=true↔Truth sh l S:=by
 unfold cV;simp only[Bool.and_eq_true,List.all_eq_true,List.mem_range,Bool.or_eq_true,Bool.not_eq_true'];constructor
 ·intro h;refine⟨fun n k hn hk hr=>?_,fun n k hn hk hw=>?_⟩
  ·rcases (h n hn k hk).1 with h1 | h1
   ·rw[hr]at h1;cases h1
   ·exact h1
  ·rcases (h n hn k hk).2 with h1 | h1
   ·rw[hw]at h1;cases h1
   ·exact h1
 ·intro h n hn k hk;refine⟨?_,?_⟩
  ·cases e:cR S.rd n k
   ·exact .inl rfl
   ·exact .inr (h.r n k hn hk e)
  ·cases e:cR S.wr n k
   ·exact .inl rfl
   ·exact .inr (h.w n k hn hk e)
def cZ (m:Int) (l:List TxA) (S:SA):Int:=if aN m l=0 then (if gL m.toNat l S && cV m.toNat l S then 0 else 1) else aN m l
def fG (sh k:Nat) (s:List Int):List Int->List Int->List Int
 | r::rs,v::vs=>(if r.toNat%sh=k then uP s r else v)::fG sh k s rs vs
 | _,vs=>vs
def cE (sh k:Nat):List Int->List Int->List Int->List Int
 | s,key::ks,v::vs=>cE sh k (if key.toNat%sh=k then s.set key.toNat v else s) ks vs
 | s,_,_=>s
def gK (sh:Nat) (l:List TxA) (S:SA) (n k:Nat):SA:={S with rd:=eM S.rd n k,vs:=S.vs.set n (fG sh k S.st (gX l n).rs (S.vs.getD n []))}
def dM (sh:Nat) (l:List TxA) (S:SA) (n k:Nat):SA:={S with wr:=eM S.wr n k,st:=cE sh k S.st (aJ (gX l n).ss) (aS (S.vs.getD n []) (gX l n).gs (gX l n).ss)}
def yQ (sh:Nat) (l:List TxA) (S:SA) (kind n k:Nat):SA:=if kind=2 then dM sh l S n k else gK sh l S n k
theorem rQ (sh k:Nat) (s:List Int):∀(rs vs:List Int),(fG sh k s rs vs).length=vs.length
 | [],vs=>by cases vs <;> rfl
 | r::rs,[]=>rfl
 | r::rs,v::vs=>by simp[fG,rQ sh k s rs vs]
theorem mixV_get (sh k:Nat) (s:List Int):∀(rs vs:List Int) (i:Nat),i<rs.length->i<vs.length->(fG sh k s rs vs).getD i 0=if (rs.getD i 0).toNat%sh=k then uP s (rs.getD i 0) else vs.getD i 0
 | [],_,i,h,_=>by simp at h
 | r::rs,[],i,_,h=>by simp at h
 | r::rs,v::vs,0,_,_=>by simp[fG]
 | r::rs,v::vs,i+1,h,h'=>by
  have:=mixV_get sh k s rs vs i (by simpa using h) (by simpa using h');simpa[fG]using this
theorem aAi (sh k:Nat):∀(ks s vs:List Int),(cE sh k s ks vs).length=s.length
 | [],s,vs=>by cases vs <;> rfl
 | key::ks,s,[]=>rfl
 | key::ks,s,v::vs=>by
  rw[cE,aAi sh k ks];by_cases h:key.toNat%sh=k
  ·rw[if_pos h];simp
  ·rw[if_neg h]
theorem aAj (sh k c:Nat):∀(ks s vs:List Int),(∀key∈ks,key.toNat%sh=k->key.toNat≠c)->(cE sh k s ks vs).getD c 0=s.getD c 0
 | [],s,vs,_=>by cases vs <;> rfl
 | key::ks,s,[],_=>rfl
 | key::ks,s,v::vs,h=>by
  rw[cE,aAj sh k c ks _ vs (fun k' hk=>h k' (ly _ hk))];by_cases e:key.toNat%sh=k
  ·rw[if_pos e,jT _ _ _ _ (h key wl e)]
  ·rw[if_neg e]
theorem xF (sh k c:Nat) (hc:c%sh=k):∀(ks s s' vs:List Int),s.length=s'.length->s.getD c 0=s'.getD c 0->(cE sh k s ks vs).getD c 0=(cD s' ks vs).getD c 0
 | [],s,s',vs,_,h=>by cases vs <;> exact h
 | key::ks,s,s',[],_,h=>h
 | key::ks,s,s',v::vs,hl,h=>by
  rw[cE,cD];by_cases e:key.toNat%sh=k
  ·rw[if_pos e];refine xF sh k c hc ks _ _ vs (by simpa using hl) ?_;by_cases ec:key.toNat=c
   ·subst ec;simp only[List.getD,List.getElem?_set,hl];by_cases hh:key.toNat<s'.length
    ·simp[hh]
    ·simp[hh]
   ·rw[jT _ _ _ _ ec,jT _ _ _ _ ec,h]
  ·rw[if_neg e];refine xF sh k c hc ks _ _ vs (by simpa using hl) ?_;have ec:key.toNat≠c:=fun ec=>e (by rw[ec];exact hc)
   rw[jT _ _ _ _ ec,h]
def fE (sh:Nat) (l:List TxA) (S:SA) (kind n:Nat) (j:Nat):List (Nat×Nat×Nat):=((List.range j).filter (eD sh l S kind n)).map fun k=>(kind,n,k)
def eX (sh:Nat) (l:List TxA) (S:SA) (kind:Nat) (m:Nat):List (Nat×Nat×Nat):=(List.range m).flatMap fun n=>fE sh l S kind n sh
def mT (sh:Nat) (l:List TxA) (S:SA) (kind:Nat):List (Nat×Nat×Nat):=eX sh l S kind l.length
def dF (sh:Nat) (l:List TxA) (S:SA):List (Nat×Nat×Nat):=mT sh l S 1++mT sh l S 2
theorem aBr (sh:Nat) (l:List TxA) (S:SA) (kind n j:Nat):fE sh l S kind n (j+1)=fE sh l S kind n j++(if eD sh l S kind n j then [(kind,n,j)] else []):=by
 unfold fE;rw[wu,List.filter_append,ny]
 cases h:eD sh l S kind n j <;> simp[h]
theorem tV (sh:Nat) (l:List TxA) (S:SA) (kind m:Nat):eX sh l S kind (m+1)=eX sh l S kind m++fE sh l S kind m sh:=by
 unfold eX;rw[wu,List.flatMap_append];simp
theorem yJ (sh:Nat) (l:List TxA) (S:SA) (kind n j:Nat):(fE sh l S kind n j).length<=j:=by
 unfold fE;rw[lm];exact nh (List.length_filter_le _ _) sm
theorem jV (sh:Nat) (l:List TxA) (S:SA) (kind:Nat):∀m,(eX sh l S kind m).length<=m*sh
 | 0=>by simp[eX]
 | m+1=>by
  have h1:=jV sh l S kind m;have h2:=yJ sh l S kind m sh;rw[tV,nj,Nat.succ_mul];omega
theorem gS {sh:Nat} {l:List TxA} {S:SA} {x:Nat×Nat×Nat}:x∈dF sh l S↔(x.1=1∨x.1=2)/\x.2.1<l.length/\x.2.2<sh/\eD sh l S x.1 x.2.1 x.2.2=true:=by
 obtain⟨kd,n,k⟩:=x
 have key:∀kind,((kd,n,k)∈mT sh l S kind↔kd=kind/\n<l.length/\k<sh/\eD sh l S kind n k=true):=by
  intro kind;unfold mT eX fE;simp only[List.mem_flatMap,List.mem_range,List.mem_map,List.mem_filter,Prod.mk.injEq];constructor
  ·rintro ⟨m,hm,j,⟨hj,h⟩,rfl,rfl,rfl⟩;exact⟨rfl,hm,hj,h⟩
  ·rintro ⟨rfl,hn,hk,h⟩;exact⟨n,hn,k,⟨hk,h⟩,rfl,rfl,rfl⟩
 unfold dF;rw[List.mem_append,key 1,key 2];constructor
 ·rintro (⟨rfl,h⟩ | ⟨rfl,h⟩)
  ·exact⟨.inl rfl,h⟩
  ·exact⟨.inr rfl,h⟩
 ·rintro ⟨rfl | rfl,h⟩
  ·exact .inl ⟨rfl,h⟩
  ·exact .inr ⟨rfl,h⟩
def kX (sh:Nat) (l:List TxA) (S:SA) (n:Nat):Bool:=(List.range n).all fun m=>(List.range sh).all fun k=>bM sh l S m k
def dB (sh:Nat) (l:List TxA) (S:SA):Bool:=kX sh l S l.length
theorem aAm {sh:Nat} {l:List TxA} {S:SA}:dB sh l S=true↔∀n k,n<l.length->k<sh->bM sh l S n k=true:=by
 unfold dB kX;simp only[List.all_eq_true,List.mem_range];exact⟨fun h n k hn hk=>h n hn k hk,fun h n hn k hk=>h n k hn hk⟩
def dC (sh:Nat) (l:List TxA) (S:SA) (kind n k:Int):Int:=
 if kind=1∨kind=2 then
  if n<0∨(l.length:Int)<=n∨k<0∨(sh:Int)<=k then 5
  else if qS sh l kind.toNat n.toNat k.toNat then (if nT S kind.toNat n.toNat k.toNat then 7 else if dD sh l S kind.toNat n.toNat k.toNat then 0 else 6)
  else 5
 else 4
theorem Vo (h:p:=by
 go_wp2;go_round
 case rel=>exact⟨k+1,by omega,by go_num,hstep.out⟩
 case measure=>simp[intOf];omega):p:=h
section
def IsBR (lo:Nat) (w:World) (a:Option Addr) (n sh:Nat) (F:Nat->Nat->Bool):Prop:=
 ∀i,i<n->∃b off b' off' c',a=M ⟨b,off,Q⟩/\(lo<=b/\b<w.heap.size)/\(lo<=b'/\b'<w.heap.size)/\w.cell? ⟨b,off+i,Q⟩=J (M ⟨b',off',Q⟩) sh c'/\∀k,k<sh->w.cell? ⟨b',off'+k,Q⟩=bo (F i k)
def IsIR (lo:Nat) (w:World) (a:Option Addr) (l:List TxA) (V:List (List Int)):Prop:=
 ∀i,i<l.length->∃b off a' c',a=M ⟨b,off,Q⟩/\(lo<=b/\b<w.heap.size)/\w.cell? ⟨b,off+i,Q⟩=J a' (gX l i).rs.length c'/\(V.getD i []).length=(gX l i).rs.length/\IsInts w a' (V.getD i [])/\(∀ad,a'=M ad->lo<=ad.block)/\(a'=Q->c'=0)
def pP (x:TxA):List (Int×Bool):=bQ x.rs (aJ x.ss) 8
def IsLR (lo:Nat) (w:World) (a:Option Addr) (l:List TxA):Prop:=
 ∀i,i<l.length->∃b off a' c',a=M ⟨b,off,Q⟩/\(lo<=b/\b<w.heap.size)/\w.cell? ⟨b,off+i,Q⟩=J a' (pP (gX l i)).length c'/\IsLks w a' (pP (gX l i))/\(∀ad,a'=M ad->lo<=ad.block)
theorem IsBR.below {w:World} {sh:Nat} {F:Nat->Nat->Bool} (h:IsBR lo w a n sh F) (hb:Below w.heap.size w w'):IsBR lo w' a n sh F:=fun i hi=>by
 obtain⟨b,off,b',off',c',e,h1,h2,h3,h4⟩:=h i hi;exact⟨b,off,b',off',c',e,⟨h1.1,nd h1.2 hb.size⟩,⟨h2.1,nd h2.2 hb.size⟩,aB hb h3,fun k hk=>aB hb (h4 k hk)⟩
theorem IsIR.below {w:World} {l:List TxA} {V:List (List Int)} (h:IsIR lo w a l V) (hb:Below w.heap.size w w'):IsIR lo w' a l V:=fun i hi=>by
 obtain⟨b,off,a',c',e,h1,h2,h3,h4,h5⟩:=h i hi;exact⟨b,off,a',c',e,⟨h1.1,nd h1.2 hb.size⟩,aB hb h2,h3,h4.below hb,h5⟩
theorem IsLR.below {w:World} {l:List TxA} (h:IsLR lo w a l) (hb:Below w.heap.size w w'):IsLR lo w' a l:=fun i hi=>by
 obtain⟨b,off,a',c',e,h1,h2,h3,h4⟩:=h i hi;exact⟨b,off,a',c',e,⟨h1.1,nd h1.2 hb.size⟩,aB hb h2,h3.below hb,h4⟩
theorem IsBR.low {lo':Nat} {w:World} {sh:Nat} {F:Nat->Nat->Bool} (h:IsBR lo w a n sh F) (hl:lo'<=lo):IsBR lo' w a n sh F:=fun i hi=>by
 obtain⟨b,off,b',off',c',e,h1,h2,h3,h4⟩:=h i hi;exact⟨b,off,b',off',c',e,⟨nh hl h1.1,h1.2⟩,⟨nh hl h2.1,h2.2⟩,h3,h4⟩
structure HA where
 p:Nat
 la:Option Addr
 sa:Option Addr
 ra:Option Addr
 wa:Option Addr
 va:Option Addr
 pa:Option Addr
 qa:Option Addr
 ka:Option Addr
 lc:Nat
 sc:Nat
 rc:Nat
 wc:Nat
 vc:Nat
 pc:Nat
 qc:Nat
 kc:Nat
structure Hall (w:World) (h sh:Nat) (l:List TxA) (S:SA) (A:HA):Prop where
 h0:w.cell? ⟨h,0,Q⟩=pd (M ⟨A.p,0,Q⟩)
 h1:w.cell? ⟨h,1,Q⟩=J A.sa 8 A.sc
 h2:w.cell? ⟨h,2,Q⟩=J A.ra l.length A.rc
 h3:w.cell? ⟨h,3,Q⟩=J A.wa l.length A.wc
 h4:w.cell? ⟨h,4,Q⟩=J A.va l.length A.vc
 h5:w.cell? ⟨h,5,Q⟩=J A.pa l.length A.pc
 h6:w.cell? ⟨h,6,Q⟩=J A.qa l.length A.qc
 h7:w.cell? ⟨h,7,Q⟩=J A.ka l.length A.kc
 p0:w.cell? ⟨A.p,0,Q⟩=Y I sh
 p1:w.cell? ⟨A.p,1,Q⟩=J A.la l.length A.lc
 tx:IsTxs w A.la l
 s8:S.st.length=8
 st:IsInts w A.sa S.st
 rd:IsBR 0 w A.ra l.length sh (cR S.rd)
 wr:IsBR 0 w A.wa l.length sh (cR S.wr)
 vs:IsIR 0 w A.va l S.vs
 pt:IsBR (h+1) w A.pa l.length sh (fun n k=>iF sh (gX l n) k)
 ac:IsBR (h+1) w A.qa l.length sh (fun n k=>mW sh (gX l n) k)
 lk:IsLR (h+1) w A.ka l
 s0:0<sh
 s4:sh<=4
 l8:l.length<=8
theorem Hall.below {w:World} {h sh:Nat} {l:List TxA} {S:SA} {A:HA} (H:Hall w h sh l S A) (hb:Below w.heap.size w w'):Hall w' h sh l S A:=
 ⟨aB hb H.h0,aB hb H.h1,aB hb H.h2,aB hb H.h3,aB hb H.h4,aB hb H.h5,aB hb H.h6,aB hb H.h7,aB hb H.p0,aB hb H.p1,H.tx.below hb,H.s8,H.st.below hb,H.rd.below hb,H.wr.below hb,H.vs.below hb,H.pt.below hb,H.ac.below hb,H.lk.below hb,H.s0,H.s4,H.l8⟩
theorem uX {w:World} {h:Nat} {sh:Nat} {F:Nat->Nat->Bool} (hc:w.cell? ⟨h,j,Q⟩=J a N c) (H:IsBR lo w a N sh F) (hn:n<N) (hk:k<sh) :
  ∃b off b' off' c',w.cell? ⟨h,j,Q⟩=J (M ⟨b,off,Q⟩) N c/\w.cell? ⟨b,off+n,Q⟩=J (M ⟨b',off',Q⟩) sh c'/\w.cell? ⟨b',off'+k,Q⟩=bo (F n k):=by
 obtain⟨b,off,b',off',c',e,_,_,h3,h4⟩:=H n hn;exact⟨b,off,b',off',c',by rw[hc,e],h3,h4 k hk⟩
theorem tW {w:World} {h:Nat} {sh:Nat} {F:Nat->Nat->Bool} (hc:w.cell? ⟨h,j,Q⟩=J a N c) (H:IsBR lo w a N sh F) (hn:n<N) :
  ∃b off b' off' c',w.cell? ⟨h,j,Q⟩=J (M ⟨b,off,Q⟩) N c/\w.cell? ⟨b,off+n,Q⟩=J (M ⟨b',off',Q⟩) sh c'/\∀k,k<sh->w.cell? ⟨b',off'+k,Q⟩=bo (F n k):=by
 obtain⟨b,off,b',off',c',e,_,_,h3,h4⟩:=H n hn;exact⟨b,off,b',off',c',by rw[hc,e],h3,h4⟩
variable {w:World} {h sh:Nat} {l:List TxA} {S:SA} {A:HA}
theorem gone_any (H:Hall w h sh l S A) (hn:n<l.length) (hk:k<sh) :
  Calls prog 211 #[pd (M ⟨h,0,Q⟩),Y I n,Y I k] w fun e w'=>e=rt (bo (bM sh l S n k))/\w'=w:=by
 obtain⟨b1,o1,b1',o1',c1,x1,y1,z1⟩:=uX H.h5 H.pt hn hk;obtain⟨b2,o2,b2',o2',c2,x2,y2,z2⟩:=uX H.h6 H.ac hn hk;obtain⟨b3,o3,b3',o3',c3,x3,y3,z3⟩:=uX H.h3 H.wr hn hk;obtain⟨b4,o4,b4',o4',c4,x4,y4,z4⟩:=uX H.h2 H.rd hn hk;unfold bM;clear H;generalize iF sh (gX l n) k=P at *;generalize mW sh (gX l n) k=Qq at *;generalize cR S.wr n k=X at *;generalize cR S.rd n k=Yy at *;go_enter func211,ntmps211
 cases P
 ·exact uj
 ·cases Qq
  ·exact uj
  ·exact uj
theorem mC (f:Nat->Bool) (j:Nat):(List.range (j+1)).all f=((List.range j).all f && f j):=by
 rw[wu,List.all_append];simp
theorem gD {f:Nat->Bool} (hj:j<n) (h:f j=false):(List.range n).all f=false:=by
 rw[List.all_eq_false];exact⟨j,List.mem_range.2 hj,by simp[h]⟩
theorem any_to (f:Nat->Bool) (j:Nat):(List.range (j+1)).any f=((List.range j).any f || f j):=by
 rw[wu,List.any_append];simp
theorem any_stop {f:Nat->Bool} (hj:j<n) (h:f j=true):(List.range n).any f=true:=by
 rw[wm];exact⟨j,List.mem_range.2 hj,h⟩
theorem uG (H:Hall w h sh l S A) (hn:n<l.length) :
  Calls prog 271 #[pd (M ⟨h,0,Q⟩),Y I n] w fun e w'=>e=rt (bo (dT sh l S n))/\w'=w:=by
 obtain⟨b1,o1,b1',o1',c1,x1,y1,z1⟩:=tW H.h5 H.pt hn;obtain⟨b4,o4,b4',o4',c4,x4,y4,z4⟩:=tW H.h2 H.rd hn;have hs4:=H.s4;have Z1:=Hi z1;have Z4:=Hi z4;clear H z1 z4;go_enter func271,ntmps271;go_wp2
 go_loop [5,6,15] (fun _ _ i=>∃k:Nat,k<=sh/\i=Y I k/\Hid ((List.range k).all (fun k=>!iF sh (gX l n) k || cR S.rd n k)=true)) (fun _ _ i=>sh - (intOf i).toNat)
 case atStart=>exact⟨0,nz,rfl,rfl⟩
 case round=>
  obtain⟨k,hk,rfl,hall⟩:=hrel;by_cases hlt:k<sh
  ·have d1:=Z1.out k hlt;have d4:=Z4.out k hlt
   have hstep:Hid ((List.range (k+1)).all (fun k=>!iF sh (gX l n) k || cR S.rd n k)=(!iF sh (gX l n) k || cR S.rd n k)):=by
    show _=_;rw[mC,hall.out,wk]
   have hstop:Hid (_=false->dT sh l S n=false):=fun e=>gD hlt e
   clear hall;generalize iF sh (gX l n) k=P at *;generalize cR S.rd n k=Yy at *
   cases P
   ·exact Vo
   ·cases Yy
    ·have hF:=Hi (hstop.out rfl);clear hstop hstep;go_wp2;go_ret;exact⟨by rw[hF.out];rfl,rfl⟩
    ·exact Vo
  ·have hT:Hid (dT sh l S n=true):=by
    have:k=sh:=by omega
    subst this;exact hall.out
   clear hall;go_wp2;go_ret;exact⟨by rw[hT.out];rfl,rfl⟩
end
theorem zk (h:p:=by
 go_wp2;go_ret;exact⟨by rw[HR.out];rfl,B1.out⟩):p:=h
section
def idxI (P:Int×Bool->Bool) (L:List (Int×Bool)):Int:=if L.any P=true then ((L.findIdx P:Nat):Int) else -1
theorem idx_step (P:Int×Bool->Bool) (L:List (Int×Bool)) (k:Nat) (h:k<L.length) (hn:∀p∈L.take k,P p=false):(P (L.getD k (0,false))=true->idxI P L=k)/\(P (L.getD k (0,false))=false->∀p∈L.take (k+1),P p=false):=by
 have e:L.getD k (0,false)=L[k]:=by simp[List.getD,h]
 rw[e];constructor
 ·intro hp;unfold idxI;rw[if_pos (List.any_eq_true.2 ⟨L[k],ww h,hp⟩)]
  have:L.findIdx P=k:=by
   rw[List.findIdx_eq h];refine⟨hp,fun j hj=>?_⟩;exact hn _ (List.mem_take_iff_getElem.2 ⟨j,by omega,rfl⟩)
  rw[this]
 ·intro hp p hm;rw[lp h,List.mem_append,kb]at hm;rcases hm with hm | rfl
  ·exact hn p hm
  ·exact hp
theorem idx_none (P:Int×Bool->Bool) (L:List (Int×Bool)) (hn:∀p∈L,P p=false):idxI P L = -1:=by
 unfold idxI;rw[if_neg];intro h;obtain⟨p,hp,h⟩:=List.any_eq_true.1 h;rw[hn p hp]at h
 cases h
theorem idxI_ge (P:Int×Bool->Bool) (L:List (Int×Bool)):decide (0<=idxI P L)=L.any P:=by
 unfold idxI
 cases h:L.any P with
 | true=>simp
 | false=>simp
theorem index_in (L:List (Int×Bool)) (a:Option Addr) (c:Nat) (F:FuncId) (cap:Array Value) (P:Int×Bool->Bool) (w:World) (hL:IsLks w a L) (hl:L.length<=100)
  (hF:∀v w,Sem.run prog (callFunc F (#[v]++cap)) w=.ok (.enter F (#[v]++cap)) w)
  (hC:∀z b,(z,b)∈L->∀w',Below w.heap.size w w'->Calls prog F (#[ag #[Y I z,bo b]]++cap) w' fun e w''=>e=rt (bo (P (z,b)))/\Below w'.heap.size w' w'') :
  Kr 288 #[J a L.length c,.func (.func F) #[] cap] w (Y I (idxI P L)):=by
 have HL:=Hi hL;have HF:=Hi hF;have HC:=Hi hC;clear hL hF hC;go_enter func288,ntmps288;go_wp2
 go_loopw [5,8] (fun _ i wr=>∃k:Nat,k<=L.length/\i=Y I k/\Hid (∀p∈L.take k,P p=false)/\Hid (Below w.heap.size w wr)) (fun _ i _=>L.length - (intOf i).toNat)
 case atStart=>exact⟨0,nz,rfl,(fun p hp=>by simp at hp),br⟩
 case round=>
  obtain⟨k,hk,rfl,hn,hB⟩:=hrel;by_cases hlt:k<L.length
  ·obtain⟨b,off,rfl,_,c0,c1⟩:=HL.out k hlt;have d0:=aB hB.out c0;have d1:=aB hB.out c1;have HS:=Hi (idx_step P L k hlt hn.out)
   have HM:Hid (L.getD k (0,false)∈L):=by
    show _∈_;simp[List.getD,hlt]
   clear c0 c1 hn;generalize L.getD k (0,false)=pr at *;obtain⟨z,t⟩:=pr;simp only at d0 d1;have j1:(0:Int)<=(k:Int):=om;have j2:(k:Int)<(L.length:Int):=om
   go_wp2_with fail
   rw[HF.out,Oper.upon_enter];refine(HC.out z t HM.out _ hB.out).mono ?_;rintro e w1 ⟨rfl,hb1⟩;have B1:=Hi (aC hB.out hb1);clear hb1 hB d0 d1
   cases hp:P (z,t) with
   | true=>
    have HR:=Hi (HS.out.1 hp);clear HS;exact zk
   | false=>
    have HR:=Hi (HS.out.2 hp);clear HS;go_wp2;go_roundw
    case rel=>exact⟨k+1,by omega,by go_num,HR,B1⟩
    case measure=>simp[intOf];omega
  ·have HR:Hid (idxI P L = -1):=idx_none P L (by
    have h:=hn.out;rw[le om]at h;exact h)
   clear hn;go_wp2;go_ret;exact⟨by rw[HR.out];rfl,hB.out⟩
theorem uU (L:List (Int×Bool)) (a:Option Addr) (c:Nat) (F:FuncId) (cap:Array Value) (P:Int×Bool->Bool) (w:World) (hL:IsLks w a L) (hl:L.length<=100)
  (hF:∀v w,Sem.run prog (callFunc F (#[v]++cap)) w=.ok (.enter F (#[v]++cap)) w)
  (hC:∀z b,(z,b)∈L->∀w',Below w.heap.size w w'->Calls prog F (#[ag #[Y I z,bo b]]++cap) w' fun e w''=>e=rt (bo (P (z,b)))/\Below w'.heap.size w' w'') :
  Kr 285 #[J a L.length c,.func (.func F) #[] cap] w (bo (L.any P)):=by
 have H:=Hi (index_in L a c F cap P w hL hl hF hC);have HG:=Hi (idxI_ge P L);clear hL hF hC;go_enter func285,ntmps285
 go_wp2_with fail
 refine H.out.mono ?_;clear H;rintro e w1 ⟨rfl,hb⟩;have B:=Hi hb;clear hb;go_wp2;go_ret;exact⟨by rw[<-HG.out];rfl,B.out⟩
theorem shE_in (sh k:Nat) (h0:0<sh) (h4:sh<=4) (hk:k<8):mY sh [] k=0/\qF sh [] k=((k%sh:Nat):Int):=by
 have h1:mY sh [] k=0:=by
  have hp:aN sh []=0:=by
   unfold aN eN;rw[if_neg om];rfl
  unfold mY;rw[hp,if_neg om];rfl
 refine⟨h1,?_⟩;unfold qF;rw[if_pos h1];omega
theorem lk_len (x:TxA):(pP x).length<=8:=oK _ _ 8
variable {w:World} {h sh:Nat} {l:List TxA} {S:SA} {A:HA}
theorem lies_at (w:World) (h p sh:Nat) (x0:w.cell? ⟨h,0,Q⟩=pd (M ⟨p,0,Q⟩)) (x1:w.cell? ⟨p,0,Q⟩=Y I sh) (hs0:0<sh) (hs4:sh<=4) (hc:c<8) :
  Kr 242 #[pd (M ⟨h,0,Q⟩),Y I c,Y I k] w (bo (c%sh==k)):=by
 obtain⟨e1,e2⟩:=shE_in sh c hs0 hs4 hc
 have CS:Hid (Kr 274 #[ag #[Y I sh,J Q 0 0],Y I c] w (tu #[Y I ((c%sh:Nat):Int),Y I 0])):=by
  have hh:=shard_any Q 0 [] sh c w (fun i hi=>by simp at hi);rw[e1,e2]at hh;exact hh
 have HE:Hid ((((c%sh:Nat):Int)==(k:Int))=(c%sh==k)):=by
  show _=_;rw[Bool.eq_iff_iff,beq_iff_eq,beq_iff_eq];omega
 clear e1 e2;generalize c%sh=r at *;go_enter func242,ntmps242
 go_wp2_with fail
 refine CS.out.mono ?_;clear CS;rintro e w1 ⟨rfl,hb⟩;have B1:=Hi hb;clear hb x0 x1
 go_wp2_with fail
 refine(pH _ 0 rfl _).mono ?_;rintro e w2 ⟨rfl,hw2⟩;have B2:Hid (Below w.heap.size w w2):=by rw[hw2];exact aA B1.out _
 clear hw2 B1;go_wp2;go_ret;exact⟨by rw[HE.out];rfl,B2.out⟩
theorem lies_any (H:Hall w h sh l S A) (hc:c<8) :
  Kr 242 #[pd (M ⟨h,0,Q⟩),Y I c,Y I k] w (bo (c%sh==k)):=lies_at w h A.p sh H.h0 H.p0 H.s0 H.s4 hc
theorem cl162 (z y:Int) (b t:Bool) (p:Nat) (w:World) (h0:w.cell? ⟨p,0,Q⟩=Y I y) (h1:w.cell? ⟨p,1,Q⟩=bo t) :
  Kr 287 #[ag #[Y I z,bo b],pd (M ⟨p,0,Q⟩)] w (bo (y==z && (t || b))):=by
 have hU:Hid (Below w.heap.size w (w.alloc (U #[Y I z,bo b] 286))):=aA br _;have d0:=aB hU.out h0;have d1:=aB hU.out h1;have e0:(w.alloc (U #[Y I z,bo b] 286)).cell? ⟨w.heap.size,0,Q⟩=Y I z:=sm;have e1:(w.alloc (U #[Y I z,bo b] 286)).cell? ⟨w.heap.size,1,Q⟩=bo b:=sm;clear h0 h1;go_enter func287,ntmps287
 cases hq:(y==z)
 ·go_wp2;go_ret;exact⟨rfl,hU.out⟩
 ·cases t
  ·go_wp2;go_ret;exact⟨rfl,hU.out⟩
  ·go_wp2;go_ret;exact⟨rfl,hU.out⟩
end
theorem vt (h:p:=by
 refine KS.out _ ?_;exact aD br):p:=h
section
theorem lk_mem {z:Int} {b:Bool} (h:(z,b)∈pP x):∃c:Nat,c<8/\z=(c:Int):=by
 obtain⟨k,hk,_,e⟩:=(jK x (z,b)).1 h;injection e with e1 _
 exact⟨k,hk,e1⟩
def lkClash (sh:Nat) (x y:TxA) (k:Nat):Bool:=(pP x).any fun p=>p.1.toNat%sh==k && (pP y).any fun q=>p.1==q.1 && (p.2 || q.2)
theorem lkClash_eq (sh:Nat) (x y:TxA) (k:Nat):lkClash sh x y k=yR sh x y k:=by
 rw[Bool.eq_iff_iff,clK_iff];unfold lkClash;simp only[List.any_eq_true,Bool.and_eq_true,beq_iff_eq];constructor
 ·rintro ⟨a,ha,hs,b,hb,he,hw⟩;obtain⟨c,hc,hh,rfl⟩:=(jK x a).1 ha;obtain⟨d,hd,hi,rfl⟩:=(jK y b).1 hb;simp only at he hs hw;have e:c=d:=om;subst e;refine⟨c,hc,by simpa using hs,?_⟩;rw[jU,hh,hi,hw];rfl
 ·rintro ⟨c,hc,hs,h⟩;rw[jU,Bool.and_eq_true,Bool.and_eq_true]at h;exact⟨_,(jK x _).2 ⟨c,hc,h.1.1,rfl⟩,by simpa using hs,_,(jK y _).2 ⟨c,hc,h.1.2,rfl⟩,rfl,h.2⟩
variable {w:World} {h sh:Nat} {l:List TxA} {S:SA} {A:HA}
theorem inner_any (n:Nat) (z:Int) (t:Bool) (p:Nat) (a':Option Addr) (c':Nat) (hl:IsLks w a' (pP (gX l n))) (q0:w.cell? ⟨p,0,Q⟩=Y I z) (q1:w.cell? ⟨p,1,Q⟩=bo t) :
  Kr 285 #[J a' (pP (gX l n)).length c',.func (.func 287) #[] #[pd (M ⟨p,0,Q⟩)]] w (bo ((pP (gX l n)).any fun q=>z==q.1 && (t || q.2))):=
 uU (pP (gX l n)) a' c' 287 #[pd (M ⟨p,0,Q⟩)] (fun q=>z==q.1 && (t || q.2)) w hl (by have:=lk_len (gX l n);omega) (fun _ _=>rfl) (fun y b _ w' hb=>cl162 y z b t p w' (aB hb q0) (aB hb q1))
theorem cl161 (H:Hall w h sh l S A) (hn:n<l.length) (_hk:k<sh) (c:Nat) (hc:c<8) (t:Bool) (p q r:Nat) (p0:w.cell? ⟨p,0,Q⟩=pd (M ⟨h,0,Q⟩)) (q0:w.cell? ⟨q,0,Q⟩=Y I k) (r0:w.cell? ⟨r,0,Q⟩=Y I n) :
  Kr 286 #[ag #[Y I c,bo t],pd (M ⟨p,0,Q⟩),pd (M ⟨q,0,Q⟩),pd (M ⟨r,0,Q⟩)] w (bo (c%sh==k && (pP (gX l n)).any fun q=>(c:Int)==q.1 && (t || q.2))):=by
 have hU:Hid (Below w.heap.size w (w.alloc (U #[Y I c,bo t] 286))):=aA br _;have e0:(w.alloc (U #[Y I c,bo t] 286)).cell? ⟨w.heap.size,0,Q⟩=Y I c:=sm;have e1:(w.alloc (U #[Y I c,bo t] 286)).cell? ⟨w.heap.size,1,Q⟩=bo t:=sm;have p0:=aB hU.out p0;have q0:=aB hU.out q0;have r0:=aB hU.out r0;have HH:=Hi (H.below hU.out);clear H;go_enter func286,ntmps286
 go_upto_region 1 with fail
 have HU:Hid (∀w',Below (w.alloc _).heap.size _ w'->Below w.heap.size w w'):=fun w' hb=>aC hU.out hb
 clear hU;generalize w.alloc (U #[Y I c,bo t] 286)=W at *;obtain⟨b,off,a',c',ea,_,y1,hlk,_⟩:=HH.out.lk n hn;have x7:W.cell? ⟨h,7,Q⟩=J (M ⟨b,off,Q⟩) l.length A.kc:=by rw[<-ea];exact HH.out.h7
 have HK:=Hi hlk;have e1':=Hi e1;clear hlk ea e1;have i1:(0:Int)<=(n:Int):=om;have i2:(n:Int)<(l.length:Int):=om;have CL:Hid (∀w',Below W.heap.size W w'->Calls prog 242 _ w' fun e w''=>e=rt (bo (c%sh==k))/\Below w'.heap.size w' w''):=fun w' hb=>lies_any (HH.out.below hb) hc
 have CI:Hid (∀w',Below W.heap.size W w'->Calls prog 285 _ w' fun e w''=>e=rt _/\Below w'.heap.size w' w''):=fun w' hb=>inner_any n c t w.heap.size a' c' (HK.out.below hb) (aB hb e0) (aB hb e1'.out)
 have KS:Hid (∀w',Below W.heap.size W w'->w'.cell? _=M _/\w'.cell? ⟨q,0,Q⟩=Y I k/\w'.cell? ⟨r,0,Q⟩=Y I n/\w'.cell? _=M _/\w'.cell? _=M _/\w'.cell? _=M _/\Hid _):=fun w' hb=>⟨aB hb p0,aB hb q0,aB hb r0,aB hb e0,aB hb x7,aB hb y1,hb⟩
 clear HH HK e1';generalize hR:((pP (gX l n)).any fun q=>(c:Int)==q.1 && (t || q.2))=R at CI;generalize (pP (gX l n)).length=len at *;generalize hV:(c%sh==k)=V at CL;have HR:=Hi hR;have HV:=Hi hV;clear hR hV
 cases V
 ·refine wp_region_held_drew (S:=(fun w'=>w'.cell? ⟨p,0,Q⟩=pd (M ⟨h,0,Q⟩)/\w'.cell? ⟨q,0,Q⟩=Y I k/\w'.cell? ⟨r,0,Q⟩=Y I n/\w'.cell? ⟨w.heap.size,0,Q⟩=Y I c/\w'.cell? ⟨h,7,Q⟩=J (M ⟨b,off,Q⟩) l.length A.kc/\w'.cell? ⟨b,off+n,Q⟩=J a' len c'/\Hid (Below W.heap.size W w'))) kr ?_ (fun hHeld=>?_)
  ·exact vt
  refine tk 0 ?_
  try simp only[Act.put,List.setIfInBounds_toArray]
  refine tk 1 ?_
  try simp only[Act.put,List.setIfInBounds_toArray]
  refine tk 2 ?_
  try simp only[Act.put,List.setIfInBounds_toArray]
  refine tk 3 ?_
  try simp only[Act.put,List.setIfInBounds_toArray]
  refine r1 4 (fun K hK=>?_);go_simp
  go_wp2_with (go_at_call 242;refine(CL.out _ (aD br)).mono ?_;rintro e w1 ⟨rfl,hb1⟩)
  have BW:=Hi (aC (aD br) hb1);clear hHeld;refine hK.out _ _ (KS.out _ BW.out) (fun hHeld=>?_);clear hK K;refine tk 5 ?_
  try simp only[Act.put,List.setIfInBounds_toArray]
  refine tf 6 ?_
  try simp only[Act.put,List.setIfInBounds_toArray]
  refine tf 7 ?_
  try simp only[Act.put,List.setIfInBounds_toArray]
  refine tf 8 ?_
  try simp only[Act.put,List.setIfInBounds_toArray]
  refine tf 9 ?_
  try simp only[Act.put,List.setIfInBounds_toArray]
  refine tf 10 ?_
  try simp only[Act.put,List.setIfInBounds_toArray]
  refine tf 11 ?_
  try simp only[Act.put,List.setIfInBounds_toArray]
  refine tf 12 ?_
  try simp only[Act.put,List.setIfInBounds_toArray]
  refine tf 13 ?_
  try simp only[Act.put,List.setIfInBounds_toArray]
  refine tf 14 ?_
  try simp only[Act.put,List.setIfInBounds_toArray]
  refine tk 15 ?_
  try simp only[Act.put,List.setIfInBounds_toArray]
  refine tk 16 ?_
  try simp only[Act.put,List.setIfInBounds_toArray]
  refine wpAnyH_done kr ?_ _;go_wp2;go_ret;exact⟨by rw[HV.out,HR.out];rfl,HU.out _ BW.out⟩
 ·go_region_held3 (fun w'=>w'.cell? ⟨p,0,Q⟩=pd (M ⟨h,0,Q⟩)/\w'.cell? ⟨q,0,Q⟩=Y I k/\w'.cell? ⟨r,0,Q⟩=Y I n/\w'.cell? ⟨w.heap.size,0,Q⟩=Y I c/\w'.cell? ⟨h,7,Q⟩=J (M ⟨b,off,Q⟩) l.length A.kc/\w'.cell? ⟨b,off+n,Q⟩=J a' len c'/\Hid (Below W.heap.size W w')) ((refine KS.out _ ?_;go_split_ands;repeat (first | assumption | exact br | exact Hid.out (by assumption) | refine aD ?_ | refine aA ?_ _ | refine aC ?_ (by assumption))))
   (first
    | (go_at_call 242;refine(CL.out _ ?_).mono ?_;(go_split_ands;repeat (first | assumption | exact br | exact Hid.out (by assumption) | refine aD ?_ | refine aA ?_ _ | refine aC ?_ (by assumption)));rintro e w' ⟨rfl,hbx⟩)
    | (go_at_call 285;refine(CI.out _ ?_).mono ?_;(go_split_ands;repeat (first | assumption | exact br | exact Hid.out (by assumption) | refine aD ?_ | refine aA ?_ _ | refine aC ?_ (by assumption)));rintro e w' ⟨rfl,hby⟩))
  all_goals (
   go_split_ands;go_wp2;go_ret;refine⟨by rw[HV.out,HR.out];rfl,HU.out _ ?_⟩
   repeat (first | assumption | exact br | exact Hid.out (by assumption) | refine aD ?_ | refine aA ?_ _ | refine aC ?_ (by assumption)))
end
section
variable {w:World} {h sh:Nat} {l:List TxA} {S:SA} {A:HA}
theorem clash_any (H:Hall w h sh l S A) {m:Nat} (hm:m<l.length) (hn:n<l.length) (hk:k<sh) :
  Kr 283 #[pd (M ⟨h,0,Q⟩),Y I m,Y I n,Y I k] w (bo (yR sh (gX l m) (gX l n) k)):=by
 have e1:=aA (aA (aA (n7 w.heap.size w) (U #[pd (M ⟨h,0,Q⟩)] 218)) (U #[Y I n] 3)) (U #[Y I k] 3);have c0:(((w.alloc (U #[pd _] 218)).alloc (U #[Y I n] 3)).alloc (U #[Y I k] 3)).cell? _=pd (M ⟨h,0,Q⟩):=aB (aA br _) (aB (aA br _) (aF w _ 218 _ 0 _ rfl rfl));have c1:(((w.alloc (U #[pd (M ⟨h,0,Q⟩)] 218)).alloc (U #[Y I n] 3)).alloc (U #[Y I k] 3)).cell? ⟨w.heap.size+1,0,Q⟩=Y I n:=aB (aA br _) (aF _ _ 3 _ 0 _ sm rfl);have c2:(((w.alloc (U #[pd (M ⟨h,0,Q⟩)] 218)).alloc (U #[Y I n] 3)).alloc (U #[Y I k] 3)).cell? ⟨w.heap.size+2,0,Q⟩=Y I k:=aF _ _ 3 _ 0 _ sm rfl;have HH:=H.below e1;obtain⟨b,off,a',c',ea,_,y1,hlk,_⟩:=HH.lk m hm;have x7:(((w.alloc (U #[pd (M ⟨h,0,Q⟩)] 218)).alloc (U #[Y I n] 3)).alloc (U #[Y I k] 3)).cell? ⟨h,7,Q⟩=J (M ⟨b,off,Q⟩) l.length A.kc:=by rw[<-ea];exact HH.h7
 have CC:Hid (letI Z:=((w.alloc (U #[pd (M ⟨h,0,Q⟩)] 218)).alloc (U #[Y I n] 3)).alloc (U #[Y I k] 3);Calls prog 285 #[J a' (pP (gX l m)).length c',.func (.func 286) #[] #[pd (M ⟨w.heap.size,0,Q⟩),pd (M ⟨w.heap.size+2,0,Q⟩),pd (M ⟨w.heap.size+1,0,Q⟩)]] Z fun e w'=>e=rt (bo (yR sh (gX l m) (gX l n) k))/\Below Z.heap.size Z w'):=by
  have hh:=uU (pP (gX l m)) a' c' 286 #[pd (M ⟨w.heap.size,0,Q⟩),pd (M ⟨w.heap.size+2,0,Q⟩),pd (M ⟨w.heap.size+1,0,Q⟩)] (fun p=>p.1.toNat%sh==k && (pP (gX l n)).any fun q=>p.1==q.1 && (p.2 || q.2)) _ hlk (by have:=lk_len (gX l m);omega) (fun _ _=>rfl) (fun z t hz w' hb=>by
   obtain⟨c,hc,rfl⟩:=lk_mem hz;have:=cl161 (HH.below hb) hn hk c hc t w.heap.size (w.heap.size+2) (w.heap.size+1) (aB hb c0) (aB hb c2) (aB hb c1);exact this)
  rw[<-lkClash_eq];exact hh
 have E1:=Hi e1;have i1:(0:Int)<=(m:Int):=om;have i2:(m:Int)<(l.length:Int):=om;generalize yR sh (gX l m) (gX l n) k=R at *;generalize (pP (gX l m)).length=len at *;clear HH H hlk e1 c1 c2 ea;go_enter func283,ntmps283
 go_wp2_with fail
 refine CC.out.mono ?_;clear CC;rintro e w1 ⟨rfl,hb⟩;have B1:=Hi (aC E1.out hb);clear hb E1 c0 x7 y1;go_wp2;go_ret;exact⟨rfl,B1.out⟩
theorem blocked_any (H:Hall w h sh l S A) (hn:n<l.length) (hk:k<sh) :
  Kr 272 #[pd (M ⟨h,0,Q⟩),Y I n,Y I k] w (bo (mB sh l S n k)):=by
 have HH:=Hi H;have HS:Hid (∀m,lW sh l S n k _=(lW sh l S n k m || _)):=fun m=>any_to _ m
 have HD:Hid (∀m,m<n->_=true->mB sh l S n k=true):=fun m hm e=>any_stop hm e
 have HF:Hid (mB sh l S n k=lW sh l S n k n):=rfl;have H0:Hid (lW sh l S n k 0=false):=rfl;have hl8:=H.l8;clear H;generalize mB sh l S n k=R at *;generalize hbt:lW sh l S n k=bt at *;clear hbt;go_enter func272,ntmps272;go_wp2
 go_loopw [7,9] (fun _ i wr=>∃m:Nat,m<=n/\i=Y I m/\Hid (bt m=false)/\Hid (Below w.heap.size w wr)) (fun _ i _=>n - (intOf i).toNat)
 case atStart=>exact⟨0,nz,rfl,H0,br⟩
 case round=>
  obtain⟨m,hm,rfl,hC,hB⟩:=hrel;by_cases hlt:m<n
  ·have hml:m<l.length:=om;have HT:Hid (bt (m+1)=(!bM sh l S m k && yR sh (gX l m) (gX l n) k)):=by show _=_;rw[HS.out,hC.out];rfl
   have HDm:=Hi (HD.out m hlt);have CG:=Hi (gone_any (HH.out.below hB.out) hml hk);have CC:=Hi (clash_any (HH.out.below hB.out) hml hn hk);generalize bM sh l S m k=g at *;generalize yR sh (gX l m) (gX l n) k=c at *;clear HS HD HF hC HH;have i1:(m:Int)<(n:Int):=om
   cases g
   all_goals
    go_wp2_with fail
    refine CG.out.mono ?_;rintro e w1 ⟨rfl,hw1⟩;subst hw1
   ·clear CG
    go_wp2_with fail
    refine CC.out.mono ?_;rintro e w1 ⟨rfl,hb1⟩;have B1:=Hi (aC hB.out hb1);clear CC hb1 hB
    cases c
    ·go_wp2;go_roundw
     case rel=>exact⟨m+1,by omega,by go_num,HT.out,B1⟩
     case measure=>simp[intOf];omega
    ·have HR:=Hi (HDm.out rfl);clear HDm HT;exact zk
   ·clear CG CC;go_wp2;go_roundw
    case rel=>exact⟨m+1,by omega,by go_num,HT.out,hB⟩
    case measure=>simp[intOf];omega
  ·have hmm:m=n:=om
   have HR:Hid (R=false):=by
    have:=hC.out;rw[hmm]at this;exact HF.out.trans this
   have i1:¬(m:Int)<(n:Int):=om;clear HS HD HF hC HH;go_wp2;go_ret;exact⟨by rw[HR.out];rfl,hB.out⟩
end
theorem Uh (h:p:=by
 go_quiet (fail)
 go_wp2;go_ret;exact⟨rfl,(FIN _).out⟩):p:=h
section
variable {w:World} {h sh:Nat} {l:List TxA} {S:SA} {A:HA}
theorem aV {a w:World} (hb:Below a.heap.size a w) (n:Nat):Below a.heap.size a (w.drewN n):=⟨hb.os,hb.tape,hb.output,hb.size,hb.block⟩
theorem belongs_out (H:Hall w h sh l S A) (kd n k:Int) (ho:n<0∨(l.length:Int)<=n∨k<0∨(sh:Int)<=k) :
  Kr 237 #[pd (M ⟨h,0,Q⟩),ag #[Y I kd,Y I n,Y I k]] w (bo false):=by
 have e1:Hid (Below w.heap.size w (w.alloc (U #[Y I kd,Y I n,Y I k] 33))):=aA br _;have c1:(w.alloc (U #[Y I kd,Y I n,Y I k] 33)).cell? ⟨w.heap.size,1,Q⟩=Y I n:=sm;have c2:(w.alloc (U #[Y I kd,Y I n,Y I k] 33)).cell? ⟨w.heap.size,2,Q⟩=Y I k:=sm;have x0:=aB e1.out H.h0;have p0:=aB e1.out H.p0;have p1:=aB e1.out H.p1;have HO:=Hi ho;clear H ho;go_enter func237,ntmps237
 go_upto_region 1 with fail
 generalize (w.alloc (U #[Y I kd,Y I n,Y I k] 33))=W at *;have FIN:∀q,Hid _:=fun q=>aV e1.out q
 by_cases h1:n<0
 ·exact Uh
 ·have d1:=decide_eq_false h1;by_cases h2:(l.length:Int)<=n
  ·exact Uh
  ·have d2:=decide_eq_false h2;by_cases h3:k<0
   ·exact Uh
   ·have d3:=decide_eq_false h3;have h4:(sh:Int)<=k:=by have:=HO.out;omega
    exact Uh
theorem belongs_in (H:Hall w h sh l S A) (kd:Nat) (hkd:kd=1∨kd=2) (hn:n<l.length) (hk:k<sh) :
  Kr 237 #[pd (M ⟨h,0,Q⟩),ag #[Y I kd,Y I n,Y I k]] w (bo (qS sh l kd n k)):=by
 have e1:Hid (Below w.heap.size w (w.alloc (U #[Y I kd,Y I n,Y I k] 33))):=aA br _;have c0:(w.alloc (U #[Y I kd,Y I n,Y I k] 33)).cell? ⟨w.heap.size,0,Q⟩=Y I kd:=sm;have c1:(w.alloc (U #[Y I kd,Y I n,Y I k] 33)).cell? ⟨w.heap.size,1,Q⟩=Y I n:=sm;have c2:(w.alloc (U #[Y I kd,Y I n,Y I k] 33)).cell? ⟨w.heap.size,2,Q⟩=Y I k:=sm;have HH:=H.below e1.out;obtain⟨b1,o1,b1',o1',k1,x1,y1,z1⟩:=uX HH.h5 HH.pt hn hk;obtain⟨b2,o2,b2',o2',k2,x2,y2,z2⟩:=uX HH.h6 HH.ac hn hk;have x0:=HH.h0;have p0:=HH.p0;have p1:=HH.p1;have HV1:Hid (qS sh l 1 n k=iF sh _ k):=rfl;have HV2:Hid (qS sh l 2 n k=mW sh _ k):=rfl;clear H HH;generalize iF sh (gX l n) k=P at *;generalize mW sh (gX l n) k=Qq at *;have d1:decide ((n:Int)<0)=false:=decide_eq_false om;have d3:decide ((k:Int)<0)=false:=decide_eq_false om;have i1:(0:Int)<=(n:Int):=om;have i2:(n:Int)<(l.length:Int):=om;have i3:(0:Int)<=(k:Int):=om;have i4:(k:Int)<(sh:Int):=om;rcases hkd with rfl | rfl
 ·go_enter func237,ntmps237
  go_upto_region 1 with fail
  generalize (w.alloc (U #[Y I ((1:Nat):Int),Y I n,Y I k] 33))=W at *;have FIN:∀q r,Hid _:=fun q r=>aV (aV e1.out q) r
  go_quiet (fail)
  go_upto_region 4 with fail
  go_quiet (fail)
  go_wp2;go_ret;exact⟨by rw[HV1.out];rfl,(FIN _ _).out⟩
 ·go_enter func237,ntmps237
  go_upto_region 1 with fail
  generalize (w.alloc (U #[Y I ((2:Nat):Int),Y I n,Y I k] 33))=W at *;have FIN:∀q r,Hid _:=fun q r=>aV (aV e1.out q) r
  go_quiet (fail)
  go_upto_region 5 with fail
  go_quiet (fail)
  go_wp2;go_ret;exact⟨by rw[HV2.out];rfl,(FIN _ _).out⟩
theorem done_any (H:Hall w h sh l S A) (kd:Nat) (hkd:kd=1∨kd=2) (hn:n<l.length) (hk:k<sh) :
  Kr 238 #[pd (M ⟨h,0,Q⟩),ag #[Y I kd,Y I n,Y I k]] w (bo (nT S kd n k)):=by
 have e1:Hid (Below w.heap.size w (w.alloc (U #[Y I kd,Y I n,Y I k] 33))):=aA br _;have c0:(w.alloc (U #[Y I kd,Y I n,Y I k] 33)).cell? ⟨w.heap.size,0,Q⟩=Y I kd:=sm;have c1:(w.alloc (U #[Y I kd,Y I n,Y I k] 33)).cell? ⟨w.heap.size,1,Q⟩=Y I n:=sm;have c2:(w.alloc (U #[Y I kd,Y I n,Y I k] 33)).cell? ⟨w.heap.size,2,Q⟩=Y I k:=sm;have HH:=H.below e1.out;obtain⟨b1,o1,b1',o1',k1,x1,y1,z1⟩:=uX HH.h2 HH.rd hn hk;obtain⟨b2,o2,b2',o2',k2,x2,y2,z2⟩:=uX HH.h3 HH.wr hn hk;have HV1:Hid (nT S 1 n k=cR S.rd n k):=rfl;have HV2:Hid (nT S 2 n k=cR S.wr n k):=rfl;clear H HH;generalize cR S.rd n k=P at *;generalize cR S.wr n k=Qq at *;have i1:(0:Int)<=(n:Int):=om;have i2:(n:Int)<(l.length:Int):=om;have i3:(0:Int)<=(k:Int):=om;have i4:(k:Int)<(sh:Int):=om;rcases hkd with rfl | rfl
 ·go_enter func238,ntmps238
  go_upto_region 2 with fail
  generalize (w.alloc (U #[Y I ((1:Nat):Int),Y I n,Y I k] 33))=W at *;have FIN:∀q,Hid _:=fun q=>aV e1.out q
  go_quiet (fail)
  go_wp2;go_ret;exact⟨by rw[HV1.out];rfl,(FIN _).out⟩
 ·go_enter func238,ntmps238
  go_upto_region 3 with fail
  generalize (w.alloc (U #[Y I ((2:Nat):Int),Y I n,Y I k] 33))=W at *;have FIN:∀q,Hid _:=fun q=>aV e1.out q
  go_quiet (fail)
  go_wp2;go_ret;exact⟨by rw[HV2.out];rfl,(FIN _).out⟩
theorem may_any (H:Hall w h sh l S A) (kd:Nat) (hkd:kd=1∨kd=2) (hn:n<l.length) (hk:k<sh) :
  Kr 239 #[pd (M ⟨h,0,Q⟩),ag #[Y I kd,Y I n,Y I k]] w (bo (dD sh l S kd n k)):=by
 have e1:Hid (Below w.heap.size w (w.alloc (U #[Y I kd,Y I n,Y I k] 33))):=aA br _;have c0:(w.alloc (U #[Y I kd,Y I n,Y I k] 33)).cell? ⟨w.heap.size,0,Q⟩=Y I kd:=sm;have c1:(w.alloc (U #[Y I kd,Y I n,Y I k] 33)).cell? ⟨w.heap.size,1,Q⟩=Y I n:=sm;have c2:(w.alloc (U #[Y I kd,Y I n,Y I k] 33)).cell? ⟨w.heap.size,2,Q⟩=Y I k:=sm;have CB:=Hi (blocked_any (H.below e1.out) hn hk);have CR:=Hi (uG (H.below e1.out) hn);have HV1:Hid (dD sh l S 1 n k = !mB sh l S n k):=rfl;have HV2:Hid (dD sh l S 2 n k=dT sh l S n):=rfl;clear H;generalize mB sh l S n k=P at *;generalize dT sh l S n=Qq at *;rcases hkd with rfl | rfl
 ·go_enter func239,ntmps239
  go_wp2_with fail
  refine CB.out.mono ?_;rintro e w1 ⟨rfl,hb⟩;have B1:=Hi (aC e1.out hb);clear hb CB CR c0 c1 c2;go_wp2;go_ret;exact⟨by rw[HV1.out];rfl,B1.out⟩
 ·go_enter func239,ntmps239
  go_wp2_with fail
  refine CR.out.mono ?_;rintro e w1 ⟨rfl,hw1⟩;have B1:Hid (Below w.heap.size w w1):=by rw[hw1];exact e1.out
  clear hw1 CB CR c0 c1 c2;go_wp2;go_ret;exact⟨by rw[HV2.out];rfl,B1.out⟩
end
end Go.Proofs.YtcgpkonfneofdaaGreatDoor
