/- Conditions: those that each theorem states. -/
import Derived.Test.YtcgpkonfneofdaaGreatDoorSPlaceK
set_option maxRecDepth 100000
set_option maxHeartbeats 8000000
namespace Go.Proofs.YtcgpkonfneofdaaGreatDoor
open Go.RowKit
structure Good (x:TxA):Prop where
 r:∀k∈x.rs,0≤k∧k<8
 s:∀k∈aH x.ss,0≤k∧k<8
 n:aH x.ss≠[]
theorem lL {x:TxA} (h:eT x=0):Good x:=by
 obtain⟨ra,ga,sa,rc,gc,sc,rs,gs,ss⟩:=x
 have h':bA rs gs ss=0:=h
 obtain⟨h1,h2⟩:=mO h'
 obtain⟨_,_,_,h3⟩:=bL _ _ _ (dH h').1
 refine⟨fun k hk=>gY _ h1 k hk,fun k hk=>gY _ h2 k hk,fun h0=>?_⟩
 have:(aH ss).length=0:=by
  have h0':aH ss=[]:=h0
  rw[h0'];rfl
 rw[dO]at this
 omega
def rdX (x:TxA) (k:Nat):Bool:=decide ((k:Int)∈x.rs)
def oM (x:TxA) (k:Nat):Bool:=decide ((k:Int)∈aH x.ss)
def kA (x:TxA) (k:Nat):Bool:=rdX x k || oM x k
def gQ (x y:TxA) (k:Nat):Bool:=(oM x k && (rdX y k || oM y k)) || (oM y k && rdX x k)
theorem gH (x y:TxA) (k:Nat):gQ x y k=(kA x k && kA y k && (oM x k || oM y k)):=by
 unfold gQ kA
 cases oM x k <;> cases rdX x k <;> cases oM y k <;> cases rdX y k <;> rfl
theorem xP (x y:TxA) (k:Nat):gQ x y k=gQ y x k:=by
 rw[gH,gH]
 cases kA x k <;> cases kA y k <;> cases oM x k <;> cases oM y k <;> rfl
theorem aAz (rs ks:List Int) (p:Int×Bool):∀n,p∈bR rs ks n↔∃k:Nat,k<n∧((k:Int)∈ks∨(k:Int)∈rs)∧p=((k:Int),decide ((k:Int)∈ks))
 | 0=>by simp[bR]
 | n+1=>by
  rw[bR,List.mem_append,aAz rs ks p n]
  constructor
  ·rintro (⟨k,hk,h⟩ | h)
   ·exact⟨k,by omega,h⟩
   ·by_cases c:(n:Int)∈ks∨(n:Int)∈rs
    ·rw[if_pos c,List.mem_singleton]at h
     exact⟨n,by omega,c,h⟩
    ·rw[if_neg c]at h
     cases h
  ·rintro ⟨k,hk,hc,h⟩
   by_cases e:k=n
   ·subst e
    right
    rw[if_pos hc,List.mem_singleton]
    exact h
   ·exact .inl ⟨k,by omega,hc,h⟩
theorem sU (x:TxA) (k:Nat):kA x k=true↔((k:Int)∈aH x.ss∨(k:Int)∈x.rs):=by
 unfold kA rdX oM
 simp[Or.comm]
theorem fS (x:TxA) (p:Int×Bool):p∈bR x.rs (aH x.ss) 8↔∃k:Nat,k<8∧kA x k=true∧p=((k:Int),oM x k):=by
 rw[aAz]
 constructor
 ·rintro ⟨k,hk,hc,h⟩;exact⟨k,hk,(sU x k).2 hc,h⟩
 ·rintro ⟨k,hk,hc,h⟩;exact⟨k,hk,(sU x k).1 hc,h⟩
def gX (l:List TxA) (i:Nat):TxA:=l.getD i x0
structure SA where
 st:List Int
 rd:List (List Bool)
 wr:List (List Bool)
 vs:List (List Int)
def ptL (sh:Nat) (x:TxA):List Bool:=bN sh (bJ (bR x.rs (aH x.ss) 8))
def acL (sh:Nat) (x:TxA):List Bool:=bN sh (aV (bR x.rs (aH x.ss) 8))
def jS (sh:Nat) (x:TxA) (k:Nat):Bool:=(ptL sh x).getD k false
def oL (sh:Nat) (x:TxA) (k:Nat):Bool:=(acL sh x).getD k false
theorem ptB_iff {sh:Nat} {x:TxA} {k:Nat} (hk:k<sh):jS sh x k=true↔∃c,c<8∧kA x c=true∧c%sh=k:=by
 unfold jS ptL
 rw[uO sh k hk,keys_any,List.any_eq_true]
 constructor
 ·rintro ⟨p,hp,h⟩
  obtain⟨c,h8,hc,rfl⟩:=(fS x p).1 hp
  exact⟨c,h8,hc,by simpa using h⟩
 ·rintro ⟨c,h8,hc,h⟩
  exact⟨_,(fS x _).2 ⟨c,h8,hc,rfl⟩,by simpa using h⟩
theorem acB_iff {sh:Nat} {x:TxA} {k:Nat} (hk:k<sh):oL sh x k=true↔∃c,c<8∧oM x c=true∧c%sh=k:=by
 unfold oL acL
 rw[uO sh k hk,sets_any,List.any_eq_true]
 constructor
 ·rintro ⟨p,hp,h⟩
  obtain⟨c,h8,hc,rfl⟩:=(fS x p).1 hp
  simp only[Bool.and_eq_true]at h
  exact⟨c,h8,h.2,by simpa using h.1⟩
 ·rintro ⟨c,h8,hc,h⟩
  exact⟨_,(fS x _).2 ⟨c,h8,by simp[kA,hc],rfl⟩,by simp[hc,h]⟩
theorem rA {sh:Nat} {x:TxA} {k:Nat} (hk:k<sh) (h:oL sh x k=true):jS sh x k=true:=by
 obtain⟨c,h8,hc,e⟩:=(acB_iff hk).1 h
 exact(ptB_iff hk).2 ⟨c,h8,by simp[kA,hc],e⟩
def cM (R:List (List Bool)) (n k:Nat):Bool:=(R.getD n []).getD k false
def fJ (R:List (List Bool)) (n k:Nat):List (List Bool):=R.set n ((R.getD n []).set k true)
theorem dP {α:Type} (l:List α) (i j:Nat) (v d:α) (h:i<l.length):(l.set i v).getD j d=if i=j then v else l.getD j d:=by
 simp only[List.getD,List.getElem?_set]
 by_cases e:i=j
 ·subst e;simp[h]
 ·simp[e]
theorem oK {R:List (List Bool)} {n k:Nat} (hn:n<R.length) (hk:k<(R.getD n []).length) (m j:Nat):cM (fJ R n k) m j=if n=m∧k=j then true else cM R m j:=by
 unfold cM fJ
 rw[dP R n m _ _ hn]
 by_cases e:n=m
 ·subst e
  rw[if_pos rfl,dP _ k j _ _ hk]
  by_cases e2:k=j
  ·rw[if_pos e2,if_pos ⟨rfl,e2⟩]
  ·rw[if_neg e2,if_neg (fun h=>e2 h.2)]
 ·rw[if_neg e,if_neg (fun h=>e h.1)]
theorem nB (R:List (List Bool)) (n k:Nat):(fJ R n k).length=R.length:=by simp[fJ]
theorem nA (R:List (List Bool)) (n k m:Nat):((fJ R n k).getD m []).length=(R.getD m []).length:=by
 unfold fJ
 by_cases hn:n<R.length
 ·rw[dP R n m _ _ hn]
  by_cases e:n=m
  ·subst e;simp
  ·rw[if_neg e]
 ·rw[List.set_eq_of_length_le (by omega)]
def dE (sh:Nat) (l:List TxA) (S:SA) (n:Nat):Bool:=(List.range sh).all fun k=>!jS sh (gX l n) k || cM S.rd n k
def aW (sh:Nat) (l:List TxA) (S:SA) (n k:Nat):Bool:=if jS sh (gX l n) k then (if oL sh (gX l n) k then cM S.wr n k else cM S.rd n k) else true
def yT (sh:Nat) (x y:TxA) (k:Nat):Bool:=(List.range 8).any fun c=>c%sh==k && gQ x y c
def qB (sh:Nat) (l:List TxA) (S:SA) (n k m:Nat):Bool:=(List.range m).any fun a=>!aW sh l S a k && yT sh (gX l a) (gX l n) k
def lB (sh:Nat) (l:List TxA) (S:SA) (n k:Nat):Bool:=qB sh l S n k n
def lN (sh:Nat) (l:List TxA) (kind n k:Nat):Bool:=if kind=2 then oL sh (gX l n) k else jS sh (gX l n) k
def jP (S:SA) (kind n k:Nat):Bool:=if kind=2 then cM S.wr n k else cM S.rd n k
def dU (sh:Nat) (l:List TxA) (S:SA) (kind n k:Nat):Bool:=if kind=2 then dE sh l S n else !lB sh l S n k
def dW (sh:Nat) (l:List TxA) (S:SA) (kind n k:Nat):Bool:=lN sh l kind n k && !jP S kind n k && dU sh l S kind n k
theorem eN {sh:Nat} {l:List TxA} {S:SA} {n:Nat}:dE sh l S n=true↔∀k,k<sh→jS sh (gX l n) k=true→cM S.rd n k=true:=by
 unfold dE
 rw[List.all_eq_true]
 constructor
 ·intro h k hk hp
  have:=h k (List.mem_range.2 hk)
  rw[hp]at this
  simpa using this
 ·intro h k hk
  have:=h k (List.mem_range.1 hk)
  cases hp:jS sh (gX l n) k
  ·simp
  ·simp[this hp]
theorem clK_iff {sh:Nat} {x y:TxA} {k:Nat}:yT sh x y k=true↔∃c,c<8∧c%sh=k∧gQ x y c=true:=by
 unfold yT
 rw[List.any_eq_true]
 constructor
 ·rintro ⟨c,hc,h⟩
  simp only[Bool.and_eq_true,beq_iff_eq]at h
  exact⟨c,List.mem_range.1 hc,h.1,h.2⟩
 ·rintro ⟨c,hc,h1,h2⟩
  exact⟨c,List.mem_range.2 hc,by simp[h1,h2]⟩
theorem eF {sh:Nat} {l:List TxA} {S:SA} {n k:Nat}:lB sh l S n k=false↔∀a,a<n→yT sh (gX l a) (gX l n) k=true→aW sh l S a k=true:=by
 unfold lB qB
 rw[←Bool.not_eq_true,List.any_eq_true]
 constructor
 ·intro h a ha hc
  cases hg:aW sh l S a k with
  | true=>rfl
  | false=>exact absurd ⟨a,List.mem_range.2 ha,by simp[hg,hc]⟩ h
 ·rintro h ⟨a,ha,hc⟩
  simp only[Bool.and_eq_true,Bool.not_eq_true']at hc
  rw[h a (List.mem_range.1 ha) hc.2]at hc
  exact absurd hc.1 (by simp)
def eB (sh:Nat) (l:List TxA) (S:SA):Bool:=decide (S.st.length=8) && decide (S.rd.length=l.length) && decide (S.wr.length=l.length) && decide (S.vs.length=l.length) && (List.range l.length).all fun n=>decide ((S.rd.getD n []).length=sh) && decide ((S.wr.getD n []).length=sh) && decide ((S.vs.getD n []).length=(gX l n).rs.length)
def bH (sh:Nat) (l:List TxA) (S:SA):Bool:=(List.range l.length).all fun n=>(List.range sh).all fun k=>(!cM S.rd n k || jS sh (gX l n) k) && (!cM S.wr n k || (oL sh (gX l n) k && dE sh l S n))
structure Form (sh:Nat) (l:List TxA) (S:SA):Prop where
 st:S.st.length=8
 rd:S.rd.length=l.length
 wr:S.wr.length=l.length
 vs:S.vs.length=l.length
 rn:∀n,n<l.length→(S.rd.getD n []).length=sh
 wn:∀n,n<l.length→(S.wr.getD n []).length=sh
 vn:∀n,n<l.length→(S.vs.getD n []).length=(gX l n).rs.length
structure Truth (sh:Nat) (l:List TxA) (S:SA):Prop where
 r:∀n k,n<l.length→k<sh→cM S.rd n k=true→jS sh (gX l n) k=true
 w:∀n k,n<l.length→k<sh→cM S.wr n k=true→oL sh (gX l n) k=true∧dE sh l S n=true
theorem eK {sh:Nat} {l:List TxA} {S:SA}:eB sh l S=true↔Form sh l S:=by
 unfold eB
 simp only[Bool.and_eq_true,decide_eq_true_eq,List.all_eq_true,List.mem_range]
 constructor
 ·rintro ⟨⟨⟨⟨h1,h2⟩,h3⟩,h4⟩,h5⟩
  exact⟨h1,h2,h3,h4,fun n hn=>(h5 n hn).1.1,fun n hn=>(h5 n hn).1.2,fun n hn=>(h5 n hn).2⟩
 ·intro h
  exact⟨⟨⟨⟨h.st,h.rd⟩,h.wr⟩,h.vs⟩,fun n hn=>⟨⟨h.rn n hn,h.wn n hn⟩,h.vn n hn⟩⟩
theorem rD {sh:Nat} {l:List TxA} {S:SA}:bH sh l S=true↔Truth sh l S:=by
 unfold bH
 simp only[Bool.and_eq_true,List.all_eq_true,List.mem_range,Bool.or_eq_true,Bool.not_eq_true']
 constructor
 ·intro h
  refine⟨fun n k hn hk hr=>?_,fun n k hn hk hw=>?_⟩
  ·rcases (h n hn k hk).1 with h1 | h1
   ·rw[hr]at h1;cases h1
   ·exact h1
  ·rcases (h n hn k hk).2 with h1 | h1
   ·rw[hw]at h1;cases h1
   ·exact h1
 ·intro h n hn k hk
  refine⟨?_,?_⟩
  ·cases e:cM S.rd n k
   ·exact .inl rfl
   ·exact .inr (h.r n k hn hk e)
  ·cases e:cM S.wr n k
   ·exact .inl rfl
   ·exact .inr (h.w n k hn hk e)
def dB (m:Int) (l:List TxA) (S:SA):Int:=if aM m l=0 then (if eB m.toNat l S && bH m.toNat l S then 0 else 1) else aM m l
def eR (sh k:Nat) (s:List Int):List Int→List Int→List Int
 | r::rs,v::vs=>(if r.toNat%sh=k then pU s r else v)::eR sh k s rs vs
 | _,vs=>vs
def bZ (sh k:Nat):List Int→List Int→List Int→List Int
 | s,key::ks,v::vs=>bZ sh k (if key.toNat%sh=k then s.set key.toNat v else s) ks vs
 | s,_,_=>s
def gC (sh:Nat) (l:List TxA) (S:SA) (n k:Nat):SA:={S with rd:=fJ S.rd n k,vs:=S.vs.set n (eR sh k S.st (gX l n).rs (S.vs.getD n []))}
def dI (sh:Nat) (l:List TxA) (S:SA) (n k:Nat):SA:={S with wr:=fJ S.wr n k,st:=bZ sh k S.st (aH (gX l n).ss) (aZ (S.vs.getD n []) (gX l n).gs (gX l n).ss)}
def vI (sh:Nat) (l:List TxA) (S:SA) (kind n k:Nat):SA:=if kind=2 then dI sh l S n k else gC sh l S n k
theorem sK (sh k:Nat) (s:List Int):∀(rs vs:List Int),(eR sh k s rs vs).length=vs.length
 | [],vs=>by cases vs <;> rfl
 | r::rs,[]=>rfl
 | r::rs,v::vs=>by simp[eR,sK sh k s rs vs]
theorem aAp (sh k:Nat) (s:List Int):∀(rs vs:List Int) (i:Nat),i<rs.length→i<vs.length→(eR sh k s rs vs).getD i 0=if (rs.getD i 0).toNat%sh=k then pU s (rs.getD i 0) else vs.getD i 0
 | [],_,i,h,_=>by simp at h
 | r::rs,[],i,_,h=>by simp at h
 | r::rs,v::vs,0,_,_=>by simp[eR]
 | r::rs,v::vs,i+1,h,h'=>by
  have:=aAp sh k s rs vs i (by simpa using h) (by simpa using h')
  simpa[eR]using this
theorem uJ (sh k:Nat):∀(ks s vs:List Int),(bZ sh k s ks vs).length=s.length
 | [],s,vs=>by cases vs <;> rfl
 | key::ks,s,[]=>rfl
 | key::ks,s,v::vs=>by
  rw[bZ,uJ sh k ks]
  by_cases h:key.toNat%sh=k
  ·rw[if_pos h];simp
  ·rw[if_neg h]
theorem uK (sh k c:Nat):∀(ks s vs:List Int),(∀key∈ks,key.toNat%sh=k→key.toNat≠c)→(bZ sh k s ks vs).getD c 0=s.getD c 0
 | [],s,vs,_=>by cases vs <;> rfl
 | key::ks,s,[],_=>rfl
 | key::ks,s,v::vs,h=>by
  rw[bZ,uK sh k c ks _ vs (fun k' hk=>h k' (List.mem_cons_of_mem _ hk))]
  by_cases e:key.toNat%sh=k
  ·rw[if_pos e,gF _ _ _ _ (h key List.mem_cons_self e)]
  ·rw[if_neg e]
theorem sA (sh k c:Nat) (hc:c%sh=k):∀(ks s s' vs:List Int),s.length=s'.length→s.getD c 0=s'.getD c 0→(bZ sh k s ks vs).getD c 0=(bQ s' ks vs).getD c 0
 | [],s,s',vs,_,h=>by cases vs <;> exact h
 | key::ks,s,s',[],_,h=>h
 | key::ks,s,s',v::vs,hl,h=>by
  rw[bZ,bQ]
  by_cases e:key.toNat%sh=k
  ·rw[if_pos e]
   refine sA sh k c hc ks _ _ vs (by simpa using hl) ?_
   by_cases ec:key.toNat=c
   ·subst ec
    simp only[List.getD,List.getElem?_set,hl]
    by_cases hh:key.toNat<s'.length
    ·simp[hh]
    ·simp[hh]
   ·rw[gF _ _ _ _ ec,gF _ _ _ _ ec,h]
  ·rw[if_neg e]
   refine sA sh k c hc ks _ _ vs (by simpa using hl) ?_
   have ec:key.toNat≠c:=fun ec=>e (by rw[ec];exact hc)
   rw[gF _ _ _ _ ec,h]
def fP (sh:Nat) (l:List TxA) (S:SA) (kind n:Nat) (j:Nat):List (Nat×Nat×Nat):=((List.range j).filter (dW sh l S kind n)).map fun k=>(kind,n,k)
def iG (sh:Nat) (l:List TxA) (S:SA) (kind:Nat) (m:Nat):List (Nat×Nat×Nat):=(List.range m).flatMap fun n=>fP sh l S kind n sh
def gJ (sh:Nat) (l:List TxA) (S:SA) (kind:Nat):List (Nat×Nat×Nat):=iG sh l S kind l.length
def eE (sh:Nat) (l:List TxA) (S:SA):List (Nat×Nat×Nat):=gJ sh l S 1++gJ sh l S 2
theorem canR_step (sh:Nat) (l:List TxA) (S:SA) (kind n j:Nat):fP sh l S kind n (j+1)=fP sh l S kind n j++(if dW sh l S kind n j then [(kind,n,j)] else []):=by
 unfold fP
 rw[List.range_succ,List.filter_append,List.map_append]
 cases h:dW sh l S kind n j <;> simp[h]
theorem vP (sh:Nat) (l:List TxA) (S:SA) (kind m:Nat):iG sh l S kind (m+1)=iG sh l S kind m++fP sh l S kind m sh:=by
 unfold iG
 rw[List.range_succ,List.flatMap_append]
 simp
theorem canR_len (sh:Nat) (l:List TxA) (S:SA) (kind n j:Nat):(fP sh l S kind n j).length≤j:=by
 unfold fP
 rw[List.length_map]
 exact Nat.le_trans (List.length_filter_le _ _) (by simp)
theorem jR (sh:Nat) (l:List TxA) (S:SA) (kind:Nat):∀m,(iG sh l S kind m).length≤m*sh
 | 0=>by simp[iG]
 | m+1=>by
  have h1:=jR sh l S kind m
  have h2:=canR_len sh l S kind m sh
  rw[vP,List.length_append,Nat.succ_mul]
  omega
theorem iH {sh:Nat} {l:List TxA} {S:SA} {x:Nat×Nat×Nat}:x∈eE sh l S↔(x.1=1∨x.1=2)∧x.2.1<l.length∧x.2.2<sh∧dW sh l S x.1 x.2.1 x.2.2=true:=by
 obtain⟨kd,n,k⟩:=x
 have key:∀kind,((kd,n,k)∈gJ sh l S kind↔kd=kind∧n<l.length∧k<sh∧dW sh l S kind n k=true):=by
  intro kind
  unfold gJ iG fP
  simp only[List.mem_flatMap,List.mem_range,List.mem_map,List.mem_filter,Prod.mk.injEq]
  constructor
  ·rintro ⟨m,hm,j,⟨hj,h⟩,rfl,rfl,rfl⟩;exact⟨rfl,hm,hj,h⟩
  ·rintro ⟨rfl,hn,hk,h⟩;exact⟨n,hn,k,⟨hk,h⟩,rfl,rfl,rfl⟩
 unfold eE
 rw[List.mem_append,key 1,key 2]
 constructor
 ·rintro (⟨rfl,h⟩ | ⟨rfl,h⟩)
  ·exact⟨.inl rfl,h⟩
  ·exact⟨.inr rfl,h⟩
 ·rintro ⟨rfl | rfl,h⟩
  ·exact .inl ⟨rfl,h⟩
  ·exact .inr ⟨rfl,h⟩
def jA (sh:Nat) (l:List TxA) (S:SA) (n:Nat):Bool:=(List.range n).all fun m=>(List.range sh).all fun k=>aW sh l S m k
def eI (sh:Nat) (l:List TxA) (S:SA):Bool:=jA sh l S l.length
theorem lG {sh:Nat} {l:List TxA} {S:SA}:eI sh l S=true↔∀n k,n<l.length→k<sh→aW sh l S n k=true:=by
 unfold eI jA
 simp only[List.all_eq_true,List.mem_range]
 exact⟨fun h n k hn hk=>h n hn k hk,fun h n hn k hk=>h n k hn hk⟩
def bW (sh:Nat) (l:List TxA) (S:SA) (kind n k:Int):Int:=
 if kind=1∨kind=2 then
  if n<0∨(l.length:Int)≤n∨k<0∨(sh:Int)≤k then 5
  else if lN sh l kind.toNat n.toNat k.toNat then (if jP S kind.toNat n.toNat k.toNat then 7 else if dU sh l S kind.toNat n.toNat k.toNat then 0 else 6)
  else 5
 else 4
theorem sM {sh:Nat} {l:List TxA} {S:SA} {kind n k:Nat} (h:dW sh l S kind n k=true):lN sh l kind n k=true∧jP S kind n k=false∧dU sh l S kind n k=true:=by
 unfold dW at h
 simp only[Bool.and_eq_true,Bool.not_eq_true']at h
 exact⟨h.1.1,h.1.2,h.2⟩
theorem lI {sh:Nat} {l:List TxA} {S:SA} {kind n k:Nat} (h1:lN sh l kind n k=true) (h2:jP S kind n k=false) (h3:dU sh l S kind n k=true):dW sh l S kind n k=true:=by
 unfold dW
 simp[h1,h2,h3]
theorem form_read {sh:Nat} {l:List TxA} {S:SA} {n k:Nat} (h:Form sh l S) (hn:n<l.length):Form sh l (gC sh l S n k):=by
 refine⟨h.st,?_,h.wr,?_,fun m hm=>?_,h.wn,fun m hm=>?_⟩
 ·show (fJ S.rd n k).length=_
  rw[nB];exact h.rd
 ·show (S.vs.set n _).length=_
  rw[List.length_set];exact h.vs
 ·show ((fJ S.rd n k).getD m []).length=_
  rw[nA];exact h.rn m hm
 ·show ((S.vs.set n _).getD m []).length=_
  rw[dP _ _ _ _ _ (by rw[h.vs];exact hn)]
  by_cases e:n=m
  ·subst e
   rw[if_pos rfl,sK];exact h.vn n hn
  ·rw[if_neg e];exact h.vn m hm
theorem form_write {sh:Nat} {l:List TxA} {S:SA} {n k:Nat} (h:Form sh l S):Form sh l (dI sh l S n k):=by
 refine⟨?_,h.rd,?_,h.vs,h.rn,fun m hm=>?_,h.vn⟩
 ·show (bZ _ _ _ _ _).length=_
  rw[uJ];exact h.st
 ·show (fJ S.wr n k).length=_
  rw[nB];exact h.wr
 ·show ((fJ S.wr n k).getD m []).length=_
  rw[nA];exact h.wn m hm
theorem iO {sh:Nat} {l:List TxA} {S:SA} {n k:Nat} (h:Form sh l S) (hn:n<l.length) (hk:k<sh) (m j:Nat):cM (gC sh l S n k).rd m j=if n=m∧k=j then true else cM S.rd m j:=
 oK (by rw[h.rd];exact hn) (by rw[h.rn n hn];exact hk) m j
theorem eU {sh:Nat} {l:List TxA} {S:SA} {n k:Nat} (h:Form sh l S) (hn:n<l.length) (hk:k<sh) (m j:Nat):cM (dI sh l S n k).wr m j=if n=m∧k=j then true else cM S.wr m j:=
 oK (by rw[h.wr];exact hn) (by rw[h.wn n hn];exact hk) m j
theorem rd_up {sh:Nat} {l:List TxA} {S:SA} {n k:Nat} (h:Form sh l S) (hn:n<l.length) (hk:k<sh) {m j:Nat} (hr:cM S.rd m j=true):cM (gC sh l S n k).rd m j=true:=by
 rw[iO h hn hk];split <;> first | rfl | exact hr
theorem wr_up {sh:Nat} {l:List TxA} {S:SA} {n k:Nat} (h:Form sh l S) (hn:n<l.length) (hk:k<sh) {m j:Nat} (hr:cM S.wr m j=true):cM (dI sh l S n k).wr m j=true:=by
 rw[eU h hn hk];split <;> first | rfl | exact hr
theorem tM {sh:Nat} {l:List TxA} {S:SA} {n k:Nat} (h:Form sh l S) (hn:n<l.length) (hk:k<sh) {m:Nat} (hr:dE sh l S m=true):dE sh l (gC sh l S n k) m=true:=
 eN.2 fun j hj hp=>rd_up h hn hk (eN.1 hr j hj hp)
theorem truth_read {sh:Nat} {l:List TxA} {S:SA} {n k:Nat} (h:Form sh l S) (t:Truth sh l S) (hn:n<l.length) (hk:k<sh) (hp:jS sh (gX l n) k=true):Truth sh l (gC sh l S n k):=by
 refine⟨fun m j hm hj hr=>?_,fun m j hm hj hw=>?_⟩
 ·rw[iO h hn hk]at hr
  by_cases e:n=m∧k=j
  ·obtain⟨rfl,rfl⟩:=e;exact hp
  ·rw[if_neg e]at hr;exact t.r m j hm hj hr
 ·obtain⟨h1,h2⟩:=t.w m j hm hj hw
  exact⟨h1,tM h hn hk h2⟩
theorem zC {sh:Nat} {l:List TxA} {S:SA} {n k:Nat} (h:Form sh l S) (t:Truth sh l S) (hn:n<l.length) (hk:k<sh) (ha:oL sh (gX l n) k=true) (hr:dE sh l S n=true):Truth sh l (dI sh l S n k):=by
 refine⟨t.r,fun m j hm hj hw=>?_⟩
 rw[eU h hn hk]at hw
 by_cases e:n=m∧k=j
 ·obtain⟨rfl,rfl⟩:=e;exact⟨ha,hr⟩
 ·rw[if_neg e]at hw;exact t.w m j hm hj hw
theorem kT {sh:Nat} {l:List TxA} {S:SA} {n k:Nat} (h:dW sh l S 1 n k=true):jS sh (gX l n) k=true∧cM S.rd n k=false∧lB sh l S n k=false:=by
 obtain⟨h1,h2,h3⟩:=sM h
 exact⟨h1,h2,by simpa[dU]using h3⟩
theorem jL {sh:Nat} {l:List TxA} {S:SA} {n k:Nat} (h:dW sh l S 2 n k=true):oL sh (gX l n) k=true∧cM S.wr n k=false∧dE sh l S n=true:=sM h
theorem oS {sh:Nat} {l:List TxA} {S:SA} (t:Truth sh l S) {n k:Nat} (hn:n<l.length) (hk:k<sh) (hp:jS sh (gX l n) k=true) (hg:aW sh l S n k=true):cM S.rd n k=true:=by
 unfold aW at hg
 rw[if_pos hp]at hg
 cases ha:oL sh (gX l n) k
 ·rw[ha]at hg;simpa using hg
 ·rw[ha,if_pos rfl]at hg
  exact eN.1 (t.w n k hn hk hg).2 k hk hp
theorem over_none {sh:Nat} {l:List TxA} {S:SA} (t:Truth sh l S) (h:eI sh l S=true):eE sh l S=[]:=by
 rw[List.eq_nil_iff_forall_not_mem]
 rintro ⟨kd,n,k⟩ hx
 obtain⟨hkd,hn,hk,hm⟩:=iH.1 hx
 have hn':n<l.length:=hn
 have hk':k<sh:=hk
 have hg:=lG.1 h n k hn' hk'
 rcases hkd with rfl | rfl
 ·obtain⟨h1,h2,_⟩:=kT hm
  have:=oS t hn' hk' h1 hg
  simp only at h2
  rw[this]at h2;cases h2
 ·obtain⟨h1,h2,_⟩:=jL hm
  simp only at h1 h2
  unfold aW at hg
  rw[if_pos (rA hk' h1),h1,if_pos rfl,h2]at hg
  cases hg
theorem least {P:Nat→Prop}:∀n,P n→∃m,P m∧∀j,j<m→¬P j:=by
 intro n
 induction n using Nat.strongRecOn with
 | ind n ih=>
  intro h
  by_cases e:∃j,j<n∧P j
  ·obtain⟨j,hj,hp⟩:=e;exact ih j hj hp
  ·exact⟨n,h,fun j hj hp=>e ⟨j,hj,hp⟩⟩
theorem some_can {sh:Nat} {l:List TxA} {S:SA} (h:eI sh l S=false):eE sh l S≠[]:=by
 have h1:∃n,n<l.length∧∃k,k<sh∧aW sh l S n k=false:=by
  apply Classical.byContradiction
  intro hc
  have:eI sh l S=true:=lG.2 fun n k hn hk=>by
   cases e:aW sh l S n k with
   | true=>rfl
   | false=>exact absurd ⟨n,hn,k,hk,e⟩ hc
  rw[this]at h;cases h
 obtain⟨n0,hP⟩:=h1
 obtain⟨n,⟨hn,k,hk,hg⟩,hmin⟩:=least (P:=fun n=>n<l.length∧∃k,k<sh∧aW sh l S n k=false) n0 hP
 have hp:jS sh (gX l n) k=true:=by
  unfold aW at hg
  cases hp:jS sh (gX l n) k with
  | true=>rfl
  | false=>rw[hp]at hg;simp at hg
 have hfree:∀j,j<sh→lB sh l S n j=false:=fun j hj=>eF.2 fun a ha _=>by
  cases e:aW sh l S a j with
  | true=>rfl
  | false=>exact absurd ⟨by omega,j,hj,e⟩ (hmin a ha)
 by_cases hr:dE sh l S n=true
 ·have hrk:=eN.1 hr k hk hp
  unfold aW at hg
  rw[if_pos hp]at hg
  cases ha:oL sh (gX l n) k with
  | false=>rw[ha]at hg;simp[hrk]at hg
  | true=>
   rw[ha,if_pos rfl]at hg
   exact List.ne_nil_of_mem (iH.2 ⟨.inr rfl,hn,hk,lI (kind:=2) ha hg hr⟩:(2,n,k)∈eE sh l S)
 ·have:∃j,j<sh∧jS sh (gX l n) j=true∧cM S.rd n j=false:=by
   apply Classical.byContradiction
   intro hc
   refine hr (eN.2 fun j hj hpj=>?_)
   cases e:cM S.rd n j with
   | true=>rfl
   | false=>exact absurd ⟨j,hj,hpj,e⟩ hc
  obtain⟨j,hj,hpj,hrj⟩:=this
  exact List.ne_nil_of_mem (iH.2 ⟨.inl rfl,hn,hj,lI (kind:=1) hpj hrj (by simp[dU,hfree j hj])⟩:(1,n,j)∈eE sh l S)
def c1 (f:Nat→Bool):Nat→Nat
 | 0=>0
 | j+1=>c1 f j+(if f j then 1 else 0)
def c2 (f:Nat→Nat→Bool) (sh:Nat):Nat→Nat
 | 0=>0
 | n+1=>c2 f sh n+c1 (f n) sh
theorem oH (f g:Nat→Bool):∀J,(∀j,j<J→f j=g j)→c1 f J=c1 g J
 | 0,_=>rfl
 | J+1,h=>by rw[c1,c1,oH f g J (fun j hj=>h j (by omega)),h J (by omega)]
theorem c2_congr (f g:Nat→Nat→Bool) (sh:Nat):∀N,(∀n j,n<N→j<sh→f n j=g n j)→c2 f sh N=c2 g sh N
 | 0,_=>rfl
 | N+1,h=>by rw[c2,c2,c2_congr f g sh N (fun n j hn hj=>h n j (by omega) hj),oH _ _ sh (fun j hj=>h N j (by omega) hj)]
theorem c1_one (f g:Nat→Bool) (k:Nat) (hf:f k=false) (hg:g k=true):∀J,k<J→(∀j,j<J→j≠k→f j=g j)→c1 g J=c1 f J+1
 | 0,h,_=>by omega
 | J+1,h,he=>by
  rw[c1,c1]
  by_cases e:k=J
  ·subst e
   rw[hf,hg,oH g f k (fun j hj=>(he j (by omega) (by omega)).symm)]
   simp
  ·rw[c1_one f g k hf hg J (by omega) (fun j hj hn=>he j (by omega) hn),he J (by omega) (fun h=>e h.symm)]
   omega
theorem c2_one (f g:Nat→Nat→Bool) (sh m k:Nat) (hk:k<sh) (hf:f m k=false) (hg:g m k=true):∀N,m<N→(∀n j,n<N→j<sh→¬(n=m∧j=k)→f n j=g n j)→c2 g sh N=c2 f sh N+1
 | 0,h,_=>by omega
 | N+1,h,he=>by
  rw[c2,c2]
  by_cases e:m=N
  ·subst e
   rw[c2_congr g f sh m (fun n j hn hj=>(he n j (by omega) hj (fun h=>by omega)).symm),c1_one (f m) (g m) k hf hg sh hk (fun j hj hn=>he m j (by omega) hj (fun h=>hn h.2))]
   omega
  ·rw[c2_one f g sh m k hk hf hg N (by omega) (fun n j hn hj hh=>he n j (by omega) hj hh),oH (g N) (f N) sh (fun j hj=>(he N j (by omega) hj (fun h=>e h.1.symm)).symm)]
   omega
theorem c1_le (f:Nat→Bool):∀J,c1 f J≤J
 | 0=>Nat.le_refl _
 | J+1=>by
  have:=c1_le f J
  rw[c1]
  split <;> omega
theorem c2_le (f:Nat→Nat→Bool) (sh:Nat):∀N,c2 f sh N≤N*sh
 | 0=>by simp[c2]
 | N+1=>by
  have h1:=c2_le f sh N
  have h2:=c1_le (f N) sh
  rw[c2,Nat.succ_mul]
  omega
def cnt (sh:Nat) (l:List TxA) (S:SA):Nat:=c2 (cM S.rd) sh l.length+c2 (cM S.wr) sh l.length
theorem cnt_do {sh:Nat} {l:List TxA} {S:SA} {kind n k:Nat} (hkd:kind=1∨kind=2) (h:Form sh l S) (hn:n<l.length) (hk:k<sh) (hm:dW sh l S kind n k=true):cnt sh l (vI sh l S kind n k)=cnt sh l S+1:=by
 rcases hkd with rfl | rfl
 ·obtain⟨_,h2,_⟩:=kT hm
  show c2 (cM (gC sh l S n k).rd) sh l.length+c2 (cM S.wr) sh l.length=_
  rw[c2_one (cM S.rd) (cM (gC sh l S n k).rd) sh n k hk h2 (by rw[iO h hn hk,if_pos ⟨rfl,rfl⟩]) l.length hn (fun m j _ _ hh=>by rw[iO h hn hk,if_neg (fun e=>hh ⟨e.1.symm,e.2.symm⟩)])]
  unfold cnt;omega
 ·obtain⟨_,h2,_⟩:=jL hm
  show c2 (cM S.rd) sh l.length+c2 (cM (dI sh l S n k).wr) sh l.length=_
  rw[c2_one (cM S.wr) (cM (dI sh l S n k).wr) sh n k hk h2 (by rw[eU h hn hk,if_pos ⟨rfl,rfl⟩]) l.length hn (fun m j _ _ hh=>by rw[eU h hn hk,if_neg (fun e=>hh ⟨e.1.symm,e.2.symm⟩)])]
  unfold cnt;omega
theorem cnt_le (sh:Nat) (l:List TxA) (S:SA):cnt sh l S≤2*(l.length*sh):=by
 have h1:=c2_le (cM S.rd) sh l.length
 have h2:=c2_le (cM S.wr) sh l.length
 unfold cnt;omega
def fK (s0:List Int) (l:List TxA) (n:Nat):List Int:=aU s0 (l.take n)
structure Inv (sh:Nat) (l:List TxA) (s0:List Int) (S:SA):Prop where
 f:Form sh l S
 t:Truth sh l S
 ahead:∀n k,n<l.length→k<sh→cM S.rd n k=true→∀m,m<n→yT sh (gX l m) (gX l n) k=true→aW sh l S m k=true
 vals:∀n k,n<l.length→k<sh→cM S.rd n k=true→∀i,i<(gX l n).rs.length→((gX l n).rs.getD i 0).toNat%sh=k→(S.vs.getD n []).getD i 0=pU (fK s0 l n) ((gX l n).rs.getD i 0)
 store:∀c j,c<8→j≤l.length→(∀n,n<l.length→oM (gX l n) c=true→(cM S.wr n (c%sh)=true↔n<j))→S.st.getD c 0=(fK s0 l j).getD c 0
theorem rS (s0:List Int) (l:List TxA) (n:Nat) (h:n<l.length):fK s0 l (n+1)=mT (fK s0 l n) (gX l n):=kR s0 l n h
theorem vU {x:TxA} {c:Nat} (g:Good x):oM x c=true↔∃key∈aH x.ss,key.toNat=c:=by
 unfold oM
 rw[decide_eq_true_eq]
 constructor
 ·intro h;exact⟨_,h,by omega⟩
 ·rintro ⟨key,hk,e⟩
  have:=g.s key hk
  have:(c:Int)=key:=by omega
  rw[this];exact hk
theorem rT {l:List TxA} (hg:∀n,n<l.length→Good (gX l n)) (s0:List Int) (c n:Nat):∀j,n≤j→j≤l.length→(∀m,n≤m→m<j→oM (gX l m) c=false)→(fK s0 l j).getD c 0=(fK s0 l n).getD c 0
 | 0,h,_,_=>by
  have:n=0:=by omega
  subst this;rfl
 | j+1,h,hj,hw=>by
  by_cases e:n=j+1
  ·subst e;rfl
  ·rw[rS s0 l j (by omega)]
   unfold mT
   rw[mK _ _ _ _ (fun key hk ek=>by
    have:=(vU (hg j (by omega))).2 ⟨key,hk,ek⟩
    rw[hw j (by omega) (by omega)]at this;cases this)]
   exact rT hg s0 c n j (by omega) (by omega) (fun m h1 h2=>hw m h1 (by omega))
theorem clK_of {sh:Nat} {x y:TxA} {c:Nat} (h8:c<8) (h:gQ x y c=true):yT sh x y (c%sh)=true:=clK_iff.2 ⟨c,h8,rfl,h⟩
theorem clash_wr {x y:TxA} {c:Nat} (h:oM x c=true) (h':kA y c=true):gQ x y c=true:=by
 rw[gH];simp[kA,h] ;simpa[kA]using h'
theorem clash_rw {x y:TxA} {c:Nat} (h:kA x c=true) (h':oM y c=true):gQ x y c=true:=by
 rw[xP];exact clash_wr h' h
theorem gone_wr {sh:Nat} {l:List TxA} {S:SA} {m c:Nat} (hsh:0<sh) (h8:c<8) (hw:oM (gX l m) c=true) (hg:aW sh l S m (c%sh)=true):cM S.wr m (c%sh)=true:=by
 have ha:oL sh (gX l m) (c%sh)=true:=(acB_iff (Nat.mod_lt _ hsh)).2 ⟨c,h8,hw,rfl⟩
 unfold aW at hg
 rw[if_pos (rA (Nat.mod_lt _ hsh) ha),ha,if_pos rfl]at hg
 exact hg
theorem wr_rd {sh:Nat} {l:List TxA} {S:SA} (t:Truth sh l S) {m k:Nat} (hm:m<l.length) (hk:k<sh) (hw:cM S.wr m k=true):cM S.rd m k=true:=by
 obtain⟨h1,h2⟩:=t.w m k hm hk hw
 exact eN.1 h2 k hk (rA hk h1)
theorem pN {sh:Nat} {l:List TxA} {s0:List Int} {S:SA} (hsh:0<sh) (I:Inv sh l s0 S) {n m c:Nat} (h8:c<8) (hnm:n<m) (hm:m<l.length) (hn:kA (gX l n) c=true) (hw:oM (gX l m) c=true) (hg:aW sh l S n (c%sh)=false):cM S.wr m (c%sh)=false:=by
 cases e:cM S.wr m (c%sh) with
 | false=>rfl
 | true=>
  have hk:c%sh<sh:=Nat.mod_lt _ hsh
  have:=I.ahead m (c%sh) hm hk (wr_rd I.t hm hk e) n hnm (clK_of h8 (clash_rw hn hw))
  rw[this]at hg;cases hg
theorem qI {sh:Nat} {l:List TxA} {S:SA} (t:Truth sh l S) {n k:Nat} (hn:n<l.length) (hk:k<sh) (hp:jS sh (gX l n) k=true) (hr:cM S.rd n k=false):aW sh l S n k=false:=by
 cases e:aW sh l S n k with
 | false=>rfl
 | true=>rw[oS t hn hk hp e]at hr;cases hr
theorem nN {sh:Nat} {l:List TxA} {S:SA} {n k m j:Nat} (h:Form sh l S) (hn:n<l.length) (hk:k<sh) (hg:aW sh l S m j=true):aW sh l (gC sh l S n k) m j=true:=by
 unfold aW at hg ⊢
 cases hp:jS sh (gX l m) j
 ·rfl
 ·rw[hp,if_pos rfl]at hg
  rw[if_pos rfl]
  cases ha:oL sh (gX l m) j
  ·rw[ha]at hg;exact rd_up h hn hk hg
  ·rw[ha]at hg;exact hg
theorem lV {sh:Nat} {l:List TxA} {S:SA} {n k m j:Nat} (h:Form sh l S) (hn:n<l.length) (hk:k<sh) (hg:aW sh l S m j=true):aW sh l (dI sh l S n k) m j=true:=by
 unfold aW at hg ⊢
 cases hp:jS sh (gX l m) j
 ·rfl
 ·rw[hp,if_pos rfl]at hg
  rw[if_pos rfl]
  cases ha:oL sh (gX l m) j
  ·rw[ha]at hg;exact hg
  ·rw[ha]at hg;exact wr_up h hn hk hg
theorem rs_has {x:TxA} {i:Nat} (g:Good x) (hi:i<x.rs.length):kA x (x.rs.getD i 0).toNat=true∧(x.rs.getD i 0).toNat<8:=by
 have hm:x.rs.getD i 0∈x.rs:=by simp[List.getD,hi]
 have:=g.r _ hm
 refine⟨?_,by omega⟩
 unfold kA rdX
 rw[show (((x.rs.getD i 0).toNat:Nat):Int)=x.rs.getD i 0 by omega,decide_eq_true hm]
 rfl
theorem inv_read {sh:Nat} {l:List TxA} {s0:List Int} {S:SA} (hsh:0<sh) (hg:∀n,n<l.length→Good (gX l n)) (I:Inv sh l s0 S) {n k:Nat} (hn:n<l.length) (hk:k<sh) (hm:dW sh l S 1 n k=true):Inv sh l s0 (gC sh l S n k):=by
 obtain⟨hp,hr,hb⟩:=kT hm
 refine⟨form_read I.f hn,truth_read I.f I.t hn hk hp,fun a j ha hj hrd m hma hc=>?_,fun a j ha hj hrd i hi he=>?_,I.store⟩
 ·rw[iO I.f hn hk]at hrd
  refine nN I.f hn hk ?_
  by_cases e:n=a∧k=j
  ·obtain⟨rfl,rfl⟩:=e
   exact eF.1 hb m hma hc
  ·rw[if_neg e]at hrd;exact I.ahead a j ha hj hrd m hma hc
 ·show ((S.vs.set n _).getD a []).getD i 0=_
  rw[dP _ _ _ _ _ (by rw[I.f.vs];exact hn)]
  by_cases e:n=a
  ·subst e
   rw[if_pos rfl,aAp sh k S.st _ _ i hi (by rw[I.f.vn n hn];exact hi)]
   by_cases ek:((gX l n).rs.getD i 0).toNat%sh=k
   ·rw[if_pos ek]
    obtain⟨hh,h8⟩:=rs_has (hg n hn) hi
    show S.st.getD ((gX l n).rs.getD i 0).toNat 0=(fK s0 l n).getD ((gX l n).rs.getD i 0).toNat 0
    refine I.store _ n h8 (by omega) fun m hm' hw=>?_
    have hng:aW sh l S n (((gX l n).rs.getD i 0).toNat%sh)=false:=by rw[ek];exact qI I.t hn hk hp hr
    constructor
    ·intro hwr
     apply Classical.byContradiction
     intro hle
     by_cases em:m=n
     ·subst em
      have:=wr_rd I.t hm' (by rw[ek];exact hk) hwr
      rw[ek,hr]at this;cases this
     ·rw[pN hsh I h8 (by omega) hm' hh hw hng]at hwr;cases hwr
    ·intro hlt
     refine gone_wr hsh h8 hw ?_
     rw[ek]
     refine eF.1 hb m hlt ?_
     rw[←ek]
     exact clK_of h8 (clash_wr hw hh)
   ·rw[if_neg ek]
    rw[iO I.f hn hk,if_neg (fun h=>ek (by rw[he];exact h.2.symm))]at hrd
    exact I.vals n j ha hj hrd i hi he
  ·rw[if_neg e]
   rw[iO I.f hn hk,if_neg (fun h=>e h.1)]at hrd
   exact I.vals a j ha hj hrd i hi he
theorem get_some (l:List Int) (i:Nat) (h:i<l.length):l[i]?=some (l.getD i 0):=by simp[List.getD,h]
theorem yZ {sh:Nat} {l:List TxA} {s0:List Int} {S:SA} (hsh:0<sh) (hg:∀n,n<l.length→Good (gX l n)) (I:Inv sh l s0 S) {n:Nat} (hn:n<l.length) (hr:dE sh l S n=true):S.vs.getD n []=bY (fK s0 l n) (gX l n).rs:=by
 have hlen:=I.f.vn n hn
 apply List.ext_getElem?
 intro i
 by_cases hi:i<(gX l n).rs.length
 ·obtain⟨hh,h8⟩:=rs_has (hg n hn) hi
  have hk:((gX l n).rs.getD i 0).toNat%sh<sh:=Nat.mod_lt _ hsh
  have h1:=I.vals n _ hn hk (eN.1 hr _ hk ((ptB_iff hk).2 ⟨_,h8,hh,rfl⟩)) i hi rfl
  have hi2:i<(S.vs.getD n []).length:=by omega
  have e1:(S.vs.getD n [])[i]?=some ((S.vs.getD n []).getD i 0):=get_some _ _ hi2
  rw[e1,h1]
  simp[bY,hi]
 ·rw[List.getElem?_eq_none (by omega),List.getElem?_eq_none (by simp[bY];omega)]
theorem inv_write {sh:Nat} {l:List TxA} {s0:List Int} {S:SA} (hsh:0<sh) (h0:s0.length=8) (hg:∀n,n<l.length→Good (gX l n)) (I:Inv sh l s0 S) {n k:Nat} (hn:n<l.length) (hk:k<sh) (hm:dW sh l S 2 n k=true):Inv sh l s0 (dI sh l S n k):=by
 obtain⟨ha,hw,hr⟩:=jL hm
 refine⟨form_write I.f,zC I.f I.t hn hk ha hr,fun a j ha' hj hrd m hma hc=>lV I.f hn hk (I.ahead a j ha' hj hrd m hma hc),I.vals,fun c j h8 hj hcond=>?_⟩
 have hng:aW sh l S n k=false:=by
  unfold aW
  rw[if_pos (rA hk ha),ha,if_pos rfl,hw]
 show (bZ sh k S.st (aH (gX l n).ss) (aZ (S.vs.getD n []) (gX l n).gs (gX l n).ss)).getD c 0=_
 by_cases hit:oM (gX l n) c=true∧c%sh=k
 ·obtain⟨hwc,hck⟩:=hit
  have hlt:n<j:=(hcond n hn hwc).1 (by rw[hck,eU I.f hn hk,if_pos ⟨rfl,rfl⟩])
  have hbehind:∀m,n<m→m<l.length→oM (gX l m) c=true→cM S.wr m (c%sh)=false:=fun m hnm hml hwm=>
   pN hsh I h8 hnm hml (by simp[kA,hwc]) hwm (by rw[hck];exact hng)
  have hold:S.st.getD c 0=(fK s0 l n).getD c 0:=by
   refine I.store c n h8 (by omega) fun m hml hwm=>?_
   constructor
   ·intro hwr
    apply Classical.byContradiction
    intro hle
    by_cases em:m=n
    ·subst em;rw[hck,hw]at hwr;cases hwr
    ·rw[hbehind m (by omega) hml hwm]at hwr;cases hwr
   ·intro hlt'
    have:=(hcond m hml hwm).2 (by omega)
    rw[eU I.f hn hk,if_neg (fun h=>by omega)]at this
    exact this
  have hskip:(fK s0 l j).getD c 0=(fK s0 l (n+1)).getD c 0:=by
   refine rT hg s0 c (n+1) j (by omega) hj fun m h1 h2=>?_
   cases e:oM (gX l m) c with
   | false=>rfl
   | true=>
    have:=(hcond m (by omega) e).2 h2
    rw[eU I.f hn hk,if_neg (fun h=>by omega),hbehind m (by omega) (by omega) e]at this
    cases this
  rw[hskip,rS s0 l n hn,yZ hsh hg I hn hr]
  exact sA sh k c hck _ _ _ _ (by rw[I.f.st];unfold fK;rw[fM,h0]) hold
 ·have hfar:(bZ sh k S.st (aH (gX l n).ss) (aZ (S.vs.getD n []) (gX l n).gs (gX l n).ss)).getD c 0=S.st.getD c 0:=
   uK sh k c _ _ _ fun key hkey e1 e2=>hit ⟨(vU (hg n hn)).2 ⟨key,hkey,e2⟩,by rw[←e2];exact e1⟩
  rw[hfar]
  refine I.store c j h8 hj fun m hml hwm=>?_
  rw[←hcond m hml hwm,eU I.f hn hk]
  by_cases e:n=m∧k=c%sh
  ·exact absurd ⟨by rw[e.1];exact hwm,e.2.symm⟩ hit
  ·rw[if_neg e]
theorem inv_do {sh:Nat} {l:List TxA} {s0:List Int} {S:SA} (hsh:0<sh) (h0:s0.length=8) (hg:∀n,n<l.length→Good (gX l n)) (I:Inv sh l s0 S) {kind n k:Nat} (hkd:kind=1∨kind=2) (hn:n<l.length) (hk:k<sh) (hm:dW sh l S kind n k=true):Inv sh l s0 (vI sh l S kind n k):=by
 rcases hkd with rfl | rfl
 ·exact inv_read hsh hg I hn hk hm
 ·exact inv_write hsh h0 hg I hn hk hm
theorem inv_over {sh:Nat} {l:List TxA} {s0:List Int} {S:SA} (hsh:0<sh) (h0:s0.length=8) (hg:∀n,n<l.length→Good (gX l n)) (I:Inv sh l s0 S) (h:eI sh l S=true):S.st=aU s0 l∧∀n,n<l.length→S.vs.getD n []=bY (fK s0 l n) (gX l n).rs:=by
 constructor
 ·have h8:=I.f.st
  have h8':(aU s0 l).length=8:=by rw[fM,h0]
  apply List.ext_getElem?
  intro c
  by_cases hc:c<8
  ·have:=I.store c l.length hc (Nat.le_refl _) fun n hn hw=>⟨fun _=>hn,fun _=>gone_wr hsh hc hw (lG.1 h n _ hn (Nat.mod_lt _ hsh))⟩
   have e:fK s0 l l.length=aU s0 l:=by unfold fK;rw[List.take_length]
   rw[e]at this
   simpa[List.getD,h8,h8',hc]using this
  ·rw[List.getElem?_eq_none (by omega),List.getElem?_eq_none (by omega)]
 ·intro n hn
  exact yZ hsh hg I hn (eN.2 fun k hk hp=>oS I.t hn hk hp (lG.1 h n k hn hk))
def jC (sh:Nat) (l:List TxA) (s:List Int):SA:=⟨s,l.map fun _=>List.replicate sh false,l.map fun _=>List.replicate sh false,l.map fun x=>List.replicate x.rs.length 0⟩
theorem qY (sh:Nat) (l:List TxA) (n k:Nat):cM (l.map fun _=>List.replicate sh false) n k=false:=by
 unfold cM
 simp only[List.getD,List.getElem?_map]
 cases l[n]? with
 | none=>rfl
 | some x=>simp[List.getElem?_replicate];split <;> rfl
theorem inv_beg (sh:Nat) (l:List TxA) (s:List Int) (h8:s.length=8) (hg:∀n,n<l.length→Good (gX l n)):Inv sh l s (jC sh l s):=by
 have hr:∀n k,cM (jC sh l s).rd n k=false:=qY sh l
 have hw:∀n k,cM (jC sh l s).wr n k=false:=qY sh l
 refine⟨⟨h8,by simp[jC],by simp[jC],by simp[jC],fun n hn=>?_,fun n hn=>?_,fun n hn=>?_⟩,⟨fun n k _ _ h=>?_,fun n k _ _ h=>?_⟩,fun n k _ _ h=>?_,fun n k _ _ h=>?_,fun c j _ hj h=>?_⟩
 ·simp[jC,List.getD,hn]
 ·simp[jC,List.getD,hn]
 ·simp[jC,gX,List.getD,hn]
 ·rw[hr]at h;cases h
 ·rw[hw]at h;cases h
 ·rw[hr]at h;cases h
 ·rw[hr]at h;cases h
 ·show s.getD c 0=_
  unfold fK
  have:∀j,j≤l.length→(∀n,n<l.length→oM (gX l n) c=true→¬n<j)→(aU s (l.take j)).getD c 0=s.getD c 0:=by
   intro j
   induction j with
   | zero=>intro _ _;rfl
   | succ j ih=>
    intro hj hh
    rw[kR s l j (by omega)]
    have hno:oM (gX l j) c=false:=by
     cases e:oM (gX l j) c with
     | false=>rfl
     | true=>exact absurd (Nat.lt_succ_self j) (hh j (by omega) e)
    unfold mT
    rw[mK _ _ _ _ (fun key hk ek=>?_)]
    ·exact ih (by omega) fun n hn hwn hlt=>hh n hn hwn (by omega)
    ·rw[(vU (hg j (by omega))).2 ⟨key,hk,ek⟩]at hno;cases hno
  rw[this j hj fun n hn hwn hlt=>by
   have:=(h n hn hwn).2 hlt
   rw[hw]at this;cases this]
theorem still {sh:Nat} {l:List TxA} {S:SA} (f:Form sh l S) {kx n k ky m j:Nat} (hkx:kx=1∨kx=2) (hky:ky=1∨ky=2) (hn:n<l.length) (hk:k<sh) (hy:dW sh l S ky m j=true) (hne:¬(kx=ky∧n=m∧k=j)):dW sh l (vI sh l S kx n k) ky m j=true:=by
 rcases hkx with rfl | rfl <;> rcases hky with rfl | rfl
 ·obtain⟨h1,h2,h3⟩:=kT hy
  refine lI h1 ?_ ?_
  ·show cM (gC sh l S n k).rd m j=false
   rw[iO f hn hk,if_neg (fun e=>hne ⟨rfl,e.1,e.2⟩)];exact h2
  ·have:lB sh l (gC sh l S n k) m j=false:=eF.2 fun a ha hc=>nN f hn hk (eF.1 h3 a ha hc)
   show dU sh l (gC sh l S n k) 1 m j=true
   simp[dU,this]
 ·obtain⟨h1,h2,h3⟩:=jL hy
  exact lI (kind:=2) h1 h2 (tM f hn hk h3)
 ·obtain⟨h1,h2,h3⟩:=kT hy
  refine lI h1 h2 ?_
  have:lB sh l (dI sh l S n k) m j=false:=eF.2 fun a ha hc=>lV f hn hk (eF.1 h3 a ha hc)
  show dU sh l (dI sh l S n k) 1 m j=true
  simp[dU,this]
 ·obtain⟨h1,h2,h3⟩:=jL hy
  refine lI (kind:=2) h1 ?_ h3
  show cM (dI sh l S n k).wr m j=false
  rw[eU f hn hk,if_neg (fun e=>hne ⟨rfl,e.1,e.2⟩)];exact h2
theorem res_ser (s:List Int) (l:List TxA):∀m,m≤l.length→(List.range m).map (fun n=>(cW (bY (fK s l n) (gX l n).rs) (gX l n).gs,bY (fK s l n) (gX l n).rs))=aT s (l.take m)
 | 0,_=>by simp[aT]
 | m+1,h=>by
  rw[List.range_succ,List.map_append,res_ser s l m (by omega),pH s l m (by omega)]
  rfl
end Go.Proofs.YtcgpkonfneofdaaGreatDoor
