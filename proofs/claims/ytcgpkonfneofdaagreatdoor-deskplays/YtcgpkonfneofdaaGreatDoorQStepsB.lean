/- Conditions: those that each theorem states. -/
import Derived.Test.YtcgpkonfneofdaaGreatDoorQHallE
set_option maxRecDepth 100000
set_option maxHeartbeats 8000000
namespace Go.Proofs.YtcgpkonfneofdaaGreatDoor
open Go.RowKit Go.Proofs.Tryz
open Go.Value renaming slice->J,int->Y,bool->bo,pointer->pd,agg->ag,tuple->tu,string->sg,iface->fc
open Go.IntKind renaming i64->I
open Go.Obj renaming cells->U
open Go.Ending renaming returned->rt,panicked->pg
open Option renaming some->M,none->Q
variable {sh kind n k m j c:Nat} {l:List TxA} {S:SA} {x y:TxA} {s0:List Int}
theorem xK (h:eD sh l S kind n k=true):qS sh l kind n k=true/\nT S kind n k=false/\dD sh l S kind n k=true:=by
 unfold eD at h;simp only[Bool.and_eq_true,Bool.not_eq_true']at h;exact⟨h.1.1,h.1.2,h.2⟩
theorem pE (h1:qS sh l kind n k=true) (h2:nT S kind n k=false) (h3:dD sh l S kind n k=true):eD sh l S kind n k=true:=by
 unfold eD;simp[h1,h2,h3]
theorem form_read (h:Form sh l S) (hn:n<l.length):Form sh l (gK sh l S n k):=by
 refine⟨h.st,?_,h.wr,?_,fun m hm=>?_,h.wn,fun m hm=>?_⟩
 ·show (eM S.rd n k).length=_;rw[rG];exact h.rd
 ·show (S.vs.set n _).length=_;rw[we];exact h.vs
 ·show ((eM S.rd n k).getD m []).length=_;rw[rF];exact h.rn m hm
 ·show ((S.vs.set n _).getD m []).length=_;rw[eE _ _ _ _ _ (by rw[h.vs];exact hn)];by_cases e:n=m
  ·subst e;rw[if_pos rfl,rQ];exact h.vn n hn
  ·rw[if_neg e];exact h.vn m hm
theorem form_write (h:Form sh l S):Form sh l (dM sh l S n k):=by
 refine⟨?_,h.rd,?_,h.vs,h.rn,fun m hm=>?_,h.vn⟩
 ·show (cE _ _ _ _ _).length=_;rw[aAi];exact h.st
 ·show (eM S.wr n k).length=_;rw[rG];exact h.wr
 ·show ((eM S.wr n k).getD m []).length=_;rw[rF];exact h.wn m hm
theorem lJ (h:Form sh l S) (hn:n<l.length) (hk:k<sh) (m j:Nat):cR (gK sh l S n k).rd m j=if n=m/\k=j then true else cR S.rd m j:=
 tA (by rw[h.rd];exact hn) (by rw[h.rn n hn];exact hk) m j
theorem iI (h:Form sh l S) (hn:n<l.length) (hk:k<sh) (m j:Nat):cR (dM sh l S n k).wr m j=if n=m/\k=j then true else cR S.wr m j:=
 tA (by rw[h.wr];exact hn) (by rw[h.wn n hn];exact hk) m j
theorem rd_up (h:Form sh l S) (hn:n<l.length) (hk:k<sh) (hr:cR S.rd m j=true):cR (gK sh l S n k).rd m j=true:=by
 rw[lJ h hn hk];split <;> first | rfl | exact hr
theorem wr_up (h:Form sh l S) (hn:n<l.length) (hk:k<sh) (hr:cR S.wr m j=true):cR (dM sh l S n k).wr m j=true:=by
 rw[iI h hn hk];split <;> first | rfl | exact hr
theorem yK (h:Form sh l S) (hn:n<l.length) (hk:k<sh) (hr:dT sh l S m=true):dT sh l (gK sh l S n k) m=true:=
 jG.2 fun j hj hp=>rd_up h hn hk (jG.1 hr j hj hp)
theorem truth_read (h:Form sh l S) (t:Truth sh l S) (hn:n<l.length) (hk:k<sh) (hp:iF sh (gX l n) k=true):Truth sh l (gK sh l S n k):=by
 refine⟨fun m j hm hj hr=>?_,fun m j hm hj hw=>?_⟩
 ·rw[lJ h hn hk]at hr;by_cases e:n=m/\k=j
  ·obtain⟨rfl,rfl⟩:=e;exact hp
  ·rw[if_neg e]at hr;exact t.r m j hm hj hr
 ·obtain⟨h1,h2⟩:=t.w m j hm hj hw;exact⟨h1,yK h hn hk h2⟩
theorem truth_write (h:Form sh l S) (t:Truth sh l S) (hn:n<l.length) (hk:k<sh) (ha:mW sh (gX l n) k=true) (hr:dT sh l S n=true):Truth sh l (dM sh l S n k):=by
 refine⟨t.r,fun m j hm hj hw=>?_⟩;rw[iI h hn hk]at hw;by_cases e:n=m/\k=j
 ·obtain⟨rfl,rfl⟩:=e;exact⟨ha,hr⟩
 ·rw[if_neg e]at hw;exact t.w m j hm hj hw
theorem oJ (h:eD sh l S 1 n k=true):iF sh (gX l n) k=true/\cR S.rd n k=false/\mB sh l S n k=false:=by
 obtain⟨h1,h2,h3⟩:=xK h;exact⟨h1,h2,by simpa[dD]using h3⟩
theorem mM (h:eD sh l S 2 n k=true):mW sh (gX l n) k=true/\cR S.wr n k=false/\dT sh l S n=true:=xK h
theorem aBa (t:Truth sh l S) (hn:n<l.length) (hk:k<sh) (hp:iF sh (gX l n) k=true) (hg:bM sh l S n k=true):cR S.rd n k=true:=by
 unfold bM at hg;rw[if_pos hp]at hg
 cases ha:mW sh (gX l n) k
 ·rw[ha]at hg;simpa using hg
 ·rw[ha,if_pos rfl]at hg;exact jG.1 (t.w n k hn hk hg).2 k hk hp
theorem over_none (t:Truth sh l S) (h:dB sh l S=true):dF sh l S=[]:=by
 rw[List.eq_nil_iff_forall_not_mem];rintro ⟨kd,n,k⟩ hx;obtain⟨hkd,hn,hk,hm⟩:=gS.1 hx;have hn':n<_:=hn;have hk':k<sh:=hk;have hg:=aAm.1 h n k hn' hk';rcases hkd with rfl | rfl
 ·obtain⟨h1,h2,_⟩:=oJ hm;have:=aBa t hn' hk' h1 hg;simp only at h2;rw[this]at h2;cases h2
 ·obtain⟨h1,h2,_⟩:=mM hm;simp only at h1 h2;unfold bM at hg;rw[if_pos (vX hk' h1),h1,if_pos rfl,h2]at hg
  cases hg
theorem least {P:Nat->Prop}:∀n,P n->∃m,P m/\∀j,j<m->¬P j:=by
 intro n
 induction n using Nat.strongRecOn with
 | ind n ih=>
  intro h;by_cases e:∃j,j<n/\P j
  ·obtain⟨j,hj,hp⟩:=e;exact ih j hj hp
  ·exact⟨n,h,fun j hj hp=>e ⟨j,hj,hp⟩⟩
theorem some_can (h:dB sh l S=false):dF sh l S≠[]:=by
 have h1:∃n,n<l.length/\∃k,k<sh/\bM sh l S n k=false:=by
  apply Classical.byContradiction;intro hc
  have:dB sh l S=true:=aAm.2 fun n k hn hk=>by
   cases e:bM sh l S n k with
   | true=>rfl
   | false=>exact absurd ⟨n,hn,k,hk,e⟩ hc
  rw[this]at h;cases h
 obtain⟨n0,hP⟩:=h1;obtain⟨n,⟨hn,k,hk,hg⟩,hmin⟩:=least (P:=fun n=>n<l.length/\∃k,k<sh/\bM sh l S n k=false) n0 hP
 have hp:iF sh (gX l n) k=true:=by
  unfold bM at hg
  cases hp:iF sh (gX l n) k with
  | true=>rfl
  | false=>rw[hp]at hg;simp at hg
 have hfree:=fun j hj=>hJ.2 fun a ha _=>by
  cases e:bM sh l S a j with
  | true=>rfl
  | false=>exact absurd ⟨by omega,j,hj,e⟩ (hmin a ha)
 by_cases hr:dT sh l S n=true
 ·have hrk:=jG.1 hr k hk hp;unfold bM at hg;rw[if_pos hp]at hg
  cases ha:mW sh (gX l n) k with
  | false=>rw[ha]at hg;simp[hrk]at hg
  | true=>
   rw[ha,if_pos rfl]at hg;exact List.ne_nil_of_mem (gS.2 ⟨.inr rfl,hn,hk,pE (kind:=2) ha hg hr⟩:(2,n,k)∈dF sh l S)
 ·have:∃j,j<sh/\iF sh (gX l n) j=true/\cR S.rd n j=false:=by
   apply Classical.byContradiction;intro hc;refine hr (jG.2 fun j hj hpj=>?_)
   cases e:cR S.rd n j with
   | true=>rfl
   | false=>exact absurd ⟨j,hj,hpj,e⟩ hc
  obtain⟨j,hj,hpj,hrj⟩:=this;exact List.ne_nil_of_mem (gS.2 ⟨.inl rfl,hn,hj,pE (kind:=1) hpj hrj (by simp[dD,hfree j hj])⟩:(1,n,j)∈dF sh l S)
def c1 (f:Nat->Bool):Nat->Nat
 | 0=>0
 | j+1=>c1 f j+(if f j then 1 else 0)
def c2 (f:Nat->Nat->Bool) (sh:Nat):Nat->Nat
 | 0=>0
 | n+1=>c2 f sh n+c1 (f n) sh
theorem sV (f g:Nat->Bool):∀Jj,(∀j,j<Jj->f j=g j)->c1 f Jj=c1 g Jj
 | 0,_=>rfl
 | Jj+1,h=>by rw[c1,c1,sV f g Jj (fun j hj=>h j om),h Jj om]
theorem c2_congr (f g:Nat->Nat->Bool) (sh:Nat):∀N,(∀n j,n<N->j<sh->f n j=g n j)->c2 f sh N=c2 g sh N
 | 0,_=>rfl
 | N+1,h=>by rw[c2,c2,c2_congr f g sh N (fun n j hn hj=>h n j om hj),sV _ _ sh (fun j hj=>h N j om hj)]
theorem c1_one (f g:Nat->Bool) (k:Nat) (hf:f k=false) (hg:g k=true):∀Jj,k<Jj->(∀j,j<Jj->j≠k->f j=g j)->c1 g Jj=c1 f Jj+1
 | 0,h,_=>by omega
 | Jj+1,h,he=>by
  rw[c1,c1];by_cases e:k=Jj
  ·subst e;rw[hf,hg,sV g f k (fun j hj=>(he j om om).symm)];simp
  ·rw[c1_one f g k hf hg Jj om (fun j hj hn=>he j om hn),he Jj om (fun h=>e h.symm)];omega
theorem c2_one (f g:Nat->Nat->Bool) (sh m k:Nat) (hk:k<sh) (hf:f m k=false) (hg:g m k=true):∀N,m<N->(∀n j,n<N->j<sh->¬(n=m/\j=k)->f n j=g n j)->c2 g sh N=c2 f sh N+1
 | 0,h,_=>by omega
 | N+1,h,he=>by
  rw[c2,c2];by_cases e:m=N
  ·subst e;rw[c2_congr g f sh m (fun n j hn hj=>(he n j om hj (fun h=>by omega)).symm),c1_one (f m) (g m) k hf hg sh hk (fun j hj hn=>he m j om hj (fun h=>hn h.2))];omega
  ·rw[c2_one f g sh m k hk hf hg N om (fun n j hn hj hh=>he n j om hj hh),sV (g N) (f N) sh (fun j hj=>(he N j om hj (fun h=>e h.1.symm)).symm)];omega
theorem c1_le (f:Nat->Bool):∀Jj,c1 f Jj<=Jj
 | 0=>nr
 | Jj+1=>by
  have:=c1_le f Jj;rw[c1];split <;> omega
theorem c2_le (f:Nat->Nat->Bool) (sh:Nat):∀N,c2 f sh N<=N*sh
 | 0=>by simp[c2]
 | N+1=>by
  have h1:=c2_le f sh N;have h2:=c1_le (f N) sh;rw[c2,Nat.succ_mul];omega
def cnt (sh:Nat) (l:List TxA) (S:SA):Nat:=c2 (cR S.rd) sh l.length+c2 (cR S.wr) sh l.length
theorem cnt_do (hkd:kind=1∨kind=2) (h:Form sh l S) (hn:n<l.length) (hk:k<sh) (hm:eD sh l S kind n k=true):cnt sh l (yQ sh l S kind n k)=cnt sh l S+1:=by
 rcases hkd with rfl | rfl
 ·obtain⟨_,h2,_⟩:=oJ hm;show c2 (cR (gK sh l S n k).rd) sh l.length+c2 (cR S.wr) sh l.length=_;rw[c2_one (cR S.rd) (cR (gK sh l S n k).rd) sh n k hk h2 (by rw[lJ h hn hk,if_pos ⟨rfl,rfl⟩]) l.length hn (fun m j _ _ hh=>by rw[lJ h hn hk,if_neg (fun e=>hh ⟨e.1.symm,e.2.symm⟩)])];unfold cnt;omega
 ·obtain⟨_,h2,_⟩:=mM hm;show c2 (cR S.rd) sh l.length+c2 (cR (dM sh l S n k).wr) sh l.length=_;rw[c2_one (cR S.wr) (cR (dM sh l S n k).wr) sh n k hk h2 (by rw[iI h hn hk,if_pos ⟨rfl,rfl⟩]) l.length hn (fun m j _ _ hh=>by rw[iI h hn hk,if_neg (fun e=>hh ⟨e.1.symm,e.2.symm⟩)])];unfold cnt;omega
theorem cnt_le (sh:Nat) (l:List TxA) (S:SA):cnt sh l S<=2*(l.length*sh):=by
 have h1:=c2_le (cR S.rd) sh l.length;have h2:=c2_le (cR S.wr) sh l.length;unfold cnt;omega
def mH (s0:List Int) (l:List TxA) (n:Nat):List Int:=bK s0 (l.take n)
structure Inv (sh:Nat) (l:List TxA) (s0:List Int) (S:SA):Prop where
 f:Form sh l S
 t:Truth sh l S
 ahead:∀n k,n<l.length->k<sh->cR S.rd n k=true->∀m,m<n->yR sh (gX l m) (gX l n) k=true->bM sh l S m k=true
 vals:∀n k,n<l.length->k<sh->cR S.rd n k=true->∀i,i<(gX l n).rs.length->((gX l n).rs.getD i 0).toNat%sh=k->(S.vs.getD n []).getD i 0=uP (mH s0 l n) ((gX l n).rs.getD i 0)
 store:∀c j,c<8->j<=l.length->(∀n,n<l.length->pZ (gX l n) c=true->(cR S.wr n (c%sh)=true↔n<j))->S.st.getD c 0=(mH s0 l j).getD c 0
theorem wT (s0:List Int) (l:List TxA) (n:Nat) (h:n<l.length):mH s0 l (n+1)=pM (mH s0 l n) (gX l n):=lI s0 l n h
theorem wrX_key (g:Good x):pZ x c=true↔∃key∈aJ x.ss,key.toNat=c:=by
 unfold pZ;rw[decide_eq_true_eq];constructor
 ·intro h;exact⟨_,h,by omega⟩
 ·rintro ⟨key,hk,e⟩;have:=g.s key hk;have:(c:Int)=key:=by omega
  rw[this];exact hk
theorem wU (hg:∀n,n<l.length->Good (gX l n)) (s0:List Int) (c n:Nat):∀j,n<=j->j<=l.length->(∀m,n<=m->m<j->pZ (gX l m) c=false)->(mH s0 l j).getD c 0=(mH s0 l n).getD c 0
 | 0,h,_,_=>by
  have:n=0:=by omega
  subst this;rfl
 | j+1,h,hj,hw=>by
  by_cases e:n=j+1
  ·subst e;rfl
  ·rw[wT s0 l j om];unfold pM
   rw[qJ _ _ _ _ (fun key hk ek=>by
    have:=(wrX_key (hg j om)).2 ⟨key,hk,ek⟩;rw[hw j om om]at this;cases this)]
   exact wU hg s0 c n j om om (fun m h1 h2=>hw m h1 om)
theorem clK_of (h8:c<8) (h:gH x y c=true):yR sh x y (c%sh)=true:=clK_iff.2 ⟨c,h8,rfl,h⟩
theorem clash_wr (h:pZ x c=true) (h':nF y c=true):gH x y c=true:=by
 rw[jU];simp[nF,h] ;simpa[nF]using h'
theorem clash_rw (h:nF x c=true) (h':pZ y c=true):gH x y c=true:=by
 rw[clashAt_symm];exact clash_wr h' h
theorem gone_wr (hsh:0<sh) (h8:c<8) (hw:pZ (gX l m) c=true) (hg:bM sh l S m (c%sh)=true):cR S.wr m (c%sh)=true:=by
 have ha:=(acB_iff (l7 _ hsh)).2 ⟨c,h8,hw,rfl⟩;unfold bM at hg;rw[if_pos (vX (l7 _ hsh) ha),ha,if_pos rfl]at hg;exact hg
theorem wr_rd (t:Truth sh l S) (hm:m<l.length) (hk:k<sh) (hw:cR S.wr m k=true):cR S.rd m k=true:=by
 obtain⟨h1,h2⟩:=t.w m k hm hk hw;exact jG.1 h2 k hk (vX hk h1)
theorem uI (hsh:0<sh) (Ii:Inv sh l s0 S) (h8:c<8) (hnm:n<m) (hm:m<l.length) (hn:nF (gX l n) c=true) (hw:pZ (gX l m) c=true) (hg:bM sh l S n (c%sh)=false):cR S.wr m (c%sh)=false:=by
 cases e:cR S.wr m (c%sh) with
 | false=>rfl
 | true=>
  have hk:c%sh<sh:=l7 _ hsh;have:=Ii.ahead m (c%sh) hm hk (wr_rd Ii.t hm hk e) n hnm (clK_of h8 (clash_rw hn hw));rw[this]at hg;cases hg
theorem vF (t:Truth sh l S) (hn:n<l.length) (hk:k<sh) (hp:iF sh (gX l n) k=true) (hr:cR S.rd n k=false):bM sh l S n k=false:=by
 cases e:bM sh l S n k with
 | false=>rfl
 | true=>rw[aBa t hn hk hp e]at hr;cases hr
theorem rT (h:Form sh l S) (hn:n<l.length) (hk:k<sh) (hg:bM sh l S m j=true):bM sh l (gK sh l S n k) m j=true:=by
 unfold bM at hg ⊢
 cases hp:iF sh (gX l m) j
 ·rfl
 ·rw[hp,if_pos rfl]at hg;rw[if_pos rfl]
  cases ha:mW sh (gX l m) j
  ·rw[ha]at hg;exact rd_up h hn hk hg
  ·rw[ha]at hg;exact hg
theorem pR (h:Form sh l S) (hn:n<l.length) (hk:k<sh) (hg:bM sh l S m j=true):bM sh l (dM sh l S n k) m j=true:=by
 unfold bM at hg ⊢
 cases hp:iF sh (gX l m) j
 ·rfl
 ·rw[hp,if_pos rfl]at hg;rw[if_pos rfl]
  cases ha:mW sh (gX l m) j
  ·rw[ha]at hg;exact hg
  ·rw[ha]at hg;exact wr_up h hn hk hg
theorem rs_has {i:Nat} (g:Good x) (hi:i<x.rs.length):nF x (x.rs.getD i 0).toNat=true/\(x.rs.getD i 0).toNat<8:=by
 have hm:x.rs.getD i 0∈x.rs:=by simp[List.getD,hi]
 have:=g.r _ hm;refine⟨?_,by omega⟩;unfold nF rdX;rw[show (((x.rs.getD i 0).toNat:Nat):Int)=x.rs.getD i 0 by omega,decide_eq_true hm];rfl
theorem inv_read (hsh:0<sh) (hg:∀n,n<l.length->Good (gX l n)) (Ii:Inv sh l s0 S) (hn:n<l.length) (hk:k<sh) (hm:eD sh l S 1 n k=true):Inv sh l s0 (gK sh l S n k):=by
 obtain⟨hp,hr,hb⟩:=oJ hm;refine⟨form_read Ii.f hn,truth_read Ii.f Ii.t hn hk hp,fun a j ha hj hrd m hma hc=>?_,fun a j ha hj hrd i hi he=>?_,Ii.store⟩
 ·rw[lJ Ii.f hn hk]at hrd;refine rT Ii.f hn hk ?_;by_cases e:n=a/\k=j
  ·obtain⟨rfl,rfl⟩:=e;exact hJ.1 hb m hma hc
  ·rw[if_neg e]at hrd;exact Ii.ahead a j ha hj hrd m hma hc
 ·show ((S.vs.set n _).getD a []).getD i 0=_;rw[eE _ _ _ _ _ (by rw[Ii.f.vs];exact hn)];by_cases e:n=a
  ·subst e;rw[if_pos rfl,mixV_get sh k S.st _ _ i hi (by rw[Ii.f.vn n hn];exact hi)];by_cases ek:((gX l n).rs.getD i 0).toNat%sh=k
   ·rw[if_pos ek];obtain⟨hh,h8⟩:=rs_has (hg n hn) hi;show S.st.getD ((gX l n).rs.getD i 0).toNat 0=(mH s0 l n).getD ((gX l n).rs.getD i 0).toNat 0;refine Ii.store _ n h8 om fun m hm' hw=>?_
    have hng:bM sh l S n (((gX l n).rs.getD i 0).toNat%sh)=false:=by rw[ek];exact vF Ii.t hn hk hp hr
    constructor
    ·intro hwr;apply Classical.byContradiction;intro hle;by_cases em:m=n
     ·subst em;have:=wr_rd Ii.t hm' (by rw[ek];exact hk) hwr;rw[ek,hr]at this;cases this
     ·rw[uI hsh Ii h8 om hm' hh hw hng]at hwr;cases hwr
    ·intro hlt;refine gone_wr hsh h8 hw ?_;rw[ek];refine hJ.1 hb m hlt ?_;rw[<-ek];exact clK_of h8 (clash_wr hw hh)
   ·rw[if_neg ek];rw[lJ Ii.f hn hk,if_neg (fun h=>ek (by rw[he];exact h.2.symm))]at hrd;exact Ii.vals n j ha hj hrd i hi he
  ·rw[if_neg e];rw[lJ Ii.f hn hk,if_neg (fun h=>e h.1)]at hrd;exact Ii.vals a j ha hj hrd i hi he
theorem get_some (l:List Int) (i:Nat) (h:i<l.length):l[i]?=M (l.getD i 0):=by simp[List.getD,h]
theorem vals_all (hsh:0<sh) (hg:∀n,n<l.length->Good (gX l n)) (Ii:Inv sh l s0 S) (hn:n<l.length) (hr:dT sh l S n=true):S.vs.getD n []=dA (mH s0 l n) (gX l n).rs:=by
 have hlen:=Ii.f.vn n hn;apply List.ext_getElem?;intro i;by_cases hi:i<(gX l n).rs.length
 ·obtain⟨hh,h8⟩:=rs_has (hg n hn) hi;have hk:((gX l n).rs.getD i 0).toNat%sh<sh:=l7 _ hsh;have h1:=Ii.vals n _ hn hk (jG.1 hr _ hk ((ptB_iff hk).2 ⟨_,h8,hh,rfl⟩)) i hi rfl;have hi2:i<(S.vs.getD n []).length:=om;have e1:=get_some _ _ hi2;rw[e1,h1];simp[dA,hi]
 ·rw[List.getElem?_eq_none om,List.getElem?_eq_none (by simp[dA];omega)]
theorem inv_write (hsh:0<sh) (h0:s0.length=8) (hg:∀n,n<l.length->Good (gX l n)) (Ii:Inv sh l s0 S) (hn:n<l.length) (hk:k<sh) (hm:eD sh l S 2 n k=true):Inv sh l s0 (dM sh l S n k):=by
 obtain⟨ha,hw,hr⟩:=mM hm;refine⟨form_write Ii.f,truth_write Ii.f Ii.t hn hk ha hr,fun a j ha' hj hrd m hma hc=>pR Ii.f hn hk (Ii.ahead a j ha' hj hrd m hma hc),Ii.vals,fun c j h8 hj hcond=>?_⟩
 have hng:bM sh l S n k=false:=by
  unfold bM;rw[if_pos (vX hk ha),ha,if_pos rfl,hw]
 show (cE sh k S.st (aJ (gX l n).ss) (aS (S.vs.getD n []) (gX l n).gs (gX l n).ss)).getD c 0=_;by_cases hit:pZ (gX l n) c=true/\c%sh=k
 ·obtain⟨hwc,hck⟩:=hit;have hlt:=(hcond n hn hwc).1 (by rw[hck,iI Ii.f hn hk,if_pos ⟨rfl,rfl⟩])
  have hbehind:∀m,n<m->m<_->pZ _ c=true->cR S.wr m _=false:=fun m hnm hml hwm=>
   uI hsh Ii h8 hnm hml (by simp[nF,hwc]) hwm (by rw[hck];exact hng)
  have hold:S.st.getD c 0=(mH s0 l n).getD c 0:=by
   refine Ii.store c n h8 om fun m hml hwm=>?_
   constructor
   ·intro hwr;apply Classical.byContradiction;intro hle;by_cases em:m=n
    ·subst em;rw[hck,hw]at hwr;cases hwr
    ·rw[hbehind m om hml hwm]at hwr;cases hwr
   ·intro hlt';have:=(hcond m hml hwm).2 om;rw[iI Ii.f hn hk,if_neg (fun h=>by omega)]at this;exact this
  have hskip:(mH s0 l j).getD c 0=(mH s0 l (n+1)).getD c 0:=by
   refine wU hg s0 c (n+1) j om hj fun m h1 h2=>?_
   cases e:pZ (gX l m) c with
   | false=>rfl
   | true=>
    have:=(hcond m om e).2 h2;rw[iI Ii.f hn hk,if_neg (fun h=>by omega),hbehind m om om e]at this
    cases this
  rw[hskip,wT s0 l n hn,vals_all hsh hg Ii hn hr];exact xF sh k c hck _ _ _ _ (by rw[Ii.f.st];unfold mH;rw[fQ,h0]) hold
 ·have hfar:(cE sh k S.st _ (aS (S.vs.getD n []) (gX l n).gs (gX l n).ss)).getD c 0=S.st.getD c 0:=
   aAj sh k c _ _ _ fun key hkey e1 e2=>hit ⟨(wrX_key (hg n hn)).2 ⟨key,hkey,e2⟩,by rw[<-e2];exact e1⟩
  rw[hfar];refine Ii.store c j h8 hj fun m hml hwm=>?_
  rw[<-hcond m hml hwm,iI Ii.f hn hk];by_cases e:n=m/\k=c%sh
  ·exact absurd ⟨by rw[e.1];exact hwm,e.2.symm⟩ hit
  ·rw[if_neg e]
theorem inv_do (hsh:0<sh) (h0:s0.length=8) (hg:∀n,n<l.length->Good (gX l n)) (Ii:Inv sh l s0 S) (hkd:kind=1∨kind=2) (hn:n<l.length) (hk:k<sh) (hm:eD sh l S kind n k=true):Inv sh l s0 (yQ sh l S kind n k):=by
 rcases hkd with rfl | rfl
 ·exact inv_read hsh hg Ii hn hk hm
 ·exact inv_write hsh h0 hg Ii hn hk hm
def jW (sh:Nat) (l:List TxA) (s:List Int):SA:=⟨s,l.map fun _=>List.replicate sh false,l.map fun _=>List.replicate sh false,l.map fun x=>List.replicate x.rs.length 0⟩
theorem pL (sh:Nat) (l:List TxA) (n k:Nat):cR (l.map fun _=>List.replicate sh false) n k=false:=by
 unfold cR;simp only[List.getD,List.getElem?_map]
 cases l[n]? with
 | none=>rfl
 | some x=>simp[List.getElem?_replicate];split <;> rfl
theorem inv_beg (sh:Nat) (l:List TxA) (s:List Int) (h8:s.length=8) (hg:∀n,n<l.length->Good (gX l n)):Inv sh l s (jW sh l s):=by
 have hr:∀n k,cR (jW sh l s).rd n k=false:=pL sh l;have hw:∀n k,cR (jW sh l s).wr n k=false:=pL sh l;refine⟨⟨h8,by simp[jW],by simp[jW],by simp[jW],fun n hn=>?_,fun n hn=>?_,fun n hn=>?_⟩,⟨fun n k _ _ h=>?_,fun n k _ _ h=>?_⟩,fun n k _ _ h=>?_,fun n k _ _ h=>?_,fun c j _ hj h=>?_⟩
 ·simp[jW,List.getD,hn]
 ·simp[jW,List.getD,hn]
 ·simp[jW,gX,List.getD,hn]
 ·rw[hr]at h;cases h
 ·rw[hw]at h;cases h
 ·rw[hr]at h;cases h
 ·rw[hr]at h;cases h
 ·show s.getD c 0=_;unfold mH
  have:∀j,j<=l.length->(∀n,n<l.length->pZ (gX l n) c=true->¬n<j)->(bK s (l.take j)).getD c 0=s.getD c 0:=by
   intro j
   induction j with
   | zero=>intro _ _;rfl
   | succ j ih=>
    intro hj hh;rw[lI s l j om]
    have hno:pZ (gX l j) c=false:=by
     cases e:pZ (gX l j) c with
     | false=>rfl
     | true=>exact absurd (nk j) (hh j om e)
    unfold pM;rw[qJ _ _ _ _ (fun key hk ek=>?_)]
    ·exact ih om fun n hn hwn hlt=>hh n hn hwn om
    ·rw[(wrX_key (hg j om)).2 ⟨key,hk,ek⟩]at hno;cases hno
  rw[this j hj fun n hn hwn hlt=>by
   have:=(h n hn hwn).2 hlt;rw[hw]at this;cases this]
theorem still (f:Form sh l S) {kx ky:Nat} (hkx:kx=1∨kx=2) (hky:ky=1∨ky=2) (hn:n<l.length) (hk:k<sh) (hy:eD sh l S ky m j=true) (hne:¬(kx=ky/\n=m/\k=j)):eD sh l (yQ sh l S kx n k) ky m j=true:=by
 rcases hkx with rfl | rfl <;> rcases hky with rfl | rfl
 ·obtain⟨h1,h2,h3⟩:=oJ hy;refine pE h1 ?_ ?_
  ·show cR (gK sh l S n k).rd m j=false;rw[lJ f hn hk,if_neg (fun e=>hne ⟨rfl,e.1,e.2⟩)];exact h2
  ·have:mB sh l (gK sh l S n k) m j=false:=hJ.2 fun a ha hc=>rT f hn hk (hJ.1 h3 a ha hc)
   show dD sh l (gK sh l S n k) 1 m j=true;simp[dD,this]
 ·obtain⟨h1,h2,h3⟩:=mM hy;exact pE (kind:=2) h1 h2 (yK f hn hk h3)
 ·obtain⟨h1,h2,h3⟩:=oJ hy;refine pE h1 h2 ?_;have:mB sh l (dM sh l S n k) m j=false:=hJ.2 fun a ha hc=>pR f hn hk (hJ.1 h3 a ha hc)
  show dD sh l (dM sh l S n k) 1 m j=true;simp[dD,this]
 ·obtain⟨h1,h2,h3⟩:=mM hy;refine pE (kind:=2) h1 ?_ h3;show cR (dM sh l S n k).wr m j=false;rw[iI f hn hk,if_neg (fun e=>hne ⟨rfl,e.1,e.2⟩)];exact h2
end Go.Proofs.YtcgpkonfneofdaaGreatDoor
