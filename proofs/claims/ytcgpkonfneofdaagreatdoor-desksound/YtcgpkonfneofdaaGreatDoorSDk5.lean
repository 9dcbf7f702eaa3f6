/- Conditions: those that each theorem states. -/
import Derived.Test.YtcgpkonfneofdaaGreatDoorSDk3
import Derived.Test.YtcgpkonfneofdaaGreatDoorSWirO
set_option maxRecDepth 100000
set_option maxHeartbeats 8000000
namespace Go.Proofs.YtcgpkonfneofdaaGreatDoor
open Go.RowKit
section
theorem wrap_I (z:Int):dV (wrap64 z):=by
 unfold wrap64 dV
 omega
theorem reckV_I {op a b:Int} (ha:dV a) (hb:dV b):dV (rV op a b):=by
 unfold rV
 split
 ·exact ha
 split
 ·exact wrap_I _
 split
 ·exact wrap_I _
 split
 ·exact wrap_I _
 split
 ·unfold sQ;split
  ·exact hb
  ·exact ha
 split
 ·unfold nM;split
  ·exact hb
  ·exact ha
 ·exact⟨by decide,by decide⟩
theorem getD_I {s:List Int} (h:∀z∈s,dV z) (k:Nat):dV (s.getD k 0):=by
 by_cases hk:k<s.length
 ·rw[List.getD_eq_getElem?_getD,List.getElem?_eq_getElem hk]
  exact h _ (List.getElem_mem hk)
 ·rw[List.getD_eq_getElem?_getD,List.getElem?_eq_none (by omega)]
  exact⟨by decide,by decide⟩
theorem valV_I {k n:Int} {zs:List Int} (hn:dV n) (h:∀z∈zs,dV z):dV (fI k n zs):=by
 unfold fI
 split
 ·split
  ·exact hn
  ·exact getD_I h _
 ·exact⟨by decide,by decide⟩
theorem madeOf_I {zs:List Int} {gs:List Gd} {ss:List St} (h:∀z∈zs,dV z) (hs:∀z∈ss,dV z.an∧dV z.bn):∀z∈aZ zs gs ss,dV z:=by
 intro z hz
 unfold aZ at hz
 split at hz
 ·unfold fF at hz
  obtain⟨s,hs1,rfl⟩:=List.mem_map.1 hz
  exact reckV_I (valV_I (hs s hs1).1 h) (valV_I (hs s hs1).2 h)
 ·cases hz
theorem mixV_I {sh k:Nat} {s:List Int} (hs:∀z∈s,dV z):∀(rs vs:List Int),(∀z∈vs,dV z)→∀z∈eR sh k s rs vs,dV z
 | [],vs,h=>by cases vs <;> exact h
 | r::rs,[],h=>h
 | r::rs,v::vs,h=>by
  intro z hz
  rw[eR]at hz
  rcases List.mem_cons.1 hz with rfl | hz
  ·split
   ·exact getD_I hs _
   ·exact h v List.mem_cons_self
  ·exact mixV_I hs rs vs (fun y hy=>h y (List.mem_cons_of_mem _ hy)) z hz
theorem set_I {s:List Int} (h:∀z∈s,dV z) (k:Nat) {v:Int} (hv:dV v):∀z∈s.set k v,dV z:=fun z hz=>by
 rcases List.mem_or_eq_of_mem_set hz with h1 | h1
 ·exact h z h1
 ·rw[h1];exact hv
theorem putSh_I {sh k:Nat}:∀(ks s vs:List Int),(∀z∈s,dV z)→(∀z∈vs,dV z)→∀z∈bZ sh k s ks vs,dV z
 | [],s,vs,h,_=>by cases vs <;> exact h
 | key::ks,s,[],h,_=>h
 | key::ks,s,v::vs,h,hv=>by
  rw[bZ]
  refine putSh_I ks _ vs ?_ (fun y hy=>hv y (List.mem_cons_of_mem _ hy))
  split
  ·exact set_I h _ (hv v List.mem_cons_self)
  ·exact h
structure Dsk (m:Int) (l:List TxA) (bg:List Int) (S:SA):Prop where
 pe:aM m l=0
 v6:∀x∈l,V64 x
 b8:bg.length=8
 iv:Inv m.toNat l bg S
 si:∀z∈S.st,dV z
 vi:∀n,∀z∈S.vs.getD n [],dV z
section
variable {m:Int} {l:List TxA} {bg:List Int} {S:SA}
theorem Dsk.st (h:Dsk m l bg S):dB m l S=0:=inv_st h.pe h.iv
theorem gX_mem {n:Nat} (h:n<l.length):gX l n∈l:=by
 unfold gX
 rw[List.getD_eq_getElem?_getD,List.getElem?_eq_getElem h]
 exact List.getElem_mem h
theorem Dsk.step (h:Dsk m l bg S) {K N k:Nat} (hK:K=1∨K=2) (hN:N<l.length) (hk:k<m.toNat) (hm:dW m.toNat l S K N k=true):Dsk m l bg (vI m.toNat l S K N k):=by
 have hz:=aY h.pe
 refine⟨h.pe,h.v6,h.b8,inv_do (by omega) h.b8 (fun n hn=>lL (fV hz.2.2 n hn)) h.iv hK hN hk hm,?_,?_⟩
 ·unfold vI
  split
  ·exact putSh_I _ _ _ h.si (madeOf_I (h.vi N) (h.v6 _ (gX_mem hN)).2)
  ·exact h.si
 ·unfold vI
  split
  ·exact h.vi
  ·intro n z hz2
   have hz3:z∈(S.vs.set N (eR m.toNat k S.st (gX l N).rs (S.vs.getD N []))).getD n []:=hz2
   by_cases hv:N<S.vs.length
   ·rw[dP _ _ _ _ _ hv]at hz3
    split at hz3
    ·exact mixV_I h.si _ _ (h.vi N) z hz3
    ·exact h.vi n z hz3
   ·rw[List.set_eq_of_length_le (by omega)]at hz3
    exact h.vi n z hz3
theorem Dsk.does (h:Dsk m l bg S) {kd n k:Int} (hd:kX m l S kd n k=0):Dsk m l bg (pV m l S kd n k):=by
 have hst:=h.st
 have e2:pV m l S kd n k=vI m.toNat l S kd.toNat n.toNat k.toNat:=if_pos hd
 have e1:kX m l S kd n k=bW m.toNat l S kd n k:=if_pos hst
 rw[e1]at hd
 rw[e2]
 obtain⟨K,N,k',rfl,rfl,rfl,hK,hN,hk,a1,a2,a3⟩:=mC hd
 simp only[Int.toNat_natCast]
 exact h.step hK hN hk (by unfold dW;rw[a1,a2,a3];rfl)
theorem dsk_beg (hp:aM m l=0) (hv:∀x∈l,V64 x) {s:List Int} (h8:s.length=8) (hs:∀z∈s,dV z):Dsk m l s (cA m l s):=by
 have hl:bK s=0:=if_pos h8
 have hb:iI m l s=0:=by
  unfold iI
  rw[hp,hl]
  rfl
 have e:cA m l s=jC m.toNat l s:=if_pos hb
 refine⟨hp,hv,h8,beg_inv hb,?_,?_⟩
 ·rw[e];exact hs
 ·rw[e]
  intro n z hz
  have hz3:z∈(l.map fun x=>List.replicate x.rs.length (0:Int)).getD n []:=hz
  rw[List.getD_eq_getElem?_getD,List.getElem?_map]at hz3
  cases hx:l[n]? with
  | none=>rw[hx]at hz3;cases hz3
  | some x=>
   rw[hx]at hz3
   have:z=0:=(List.mem_replicate.1 hz3).2
   rw[this];exact⟨by decide,by decide⟩
theorem jN (m:Int) (l:List TxA) (S:SA):∀i,qJ m l S (i+1)=qJ m l (yS m l S) i
 | 0=>rfl
 | i+1=>by
  show yS m l (qJ m l S (i+1))=yS m l (qJ m l (yS m l S) i)
  rw[jN m l S i]
theorem Dsk.first (h:Dsk m l bg S) (ho:jW m l S=false):0<(bE m l S).length∧(bE m l S).getD 0 (0,0,0)∈bE m l S:=by
 have h1:=can_over h.st
 rw[ho]at h1
 have h2:¬(bE m l S).length=0:=by simpa using h1.symm
 have h3:0<(bE m l S).length:=by omega
 refine⟨h3,?_⟩
 rw[List.getD_eq_getElem?_getD,List.getElem?_eq_getElem h3]
 exact List.getElem_mem h3
theorem Dsk.next (h:Dsk m l bg S) (ho:jW m l S=false):Dsk m l bg (yS m l S)∧cnt m.toNat l (yS m l S)=cnt m.toNat l S+1:=by
 have hst:=h.st
 obtain⟨h3,hx⟩:=h.first ho
 have hd:=can_do0 hst hx
 have e:yS m l S=vI m.toNat l S ((bE m l S).getD 0 (0,0,0)).1 ((bE m l S).getD 0 (0,0,0)).2.1 ((bE m l S).getD 0 (0,0,0)).2.2:=do_is hd
 have e2:bE m l S=eE m.toNat l S:=if_pos hst
 have hx2:(bE m l S).getD 0 (0,0,0)∈eE m.toNat l S:=by rw[←e2];exact hx
 obtain⟨a1,a2,a3,a4⟩:=iH.1 hx2
 rw[e]
 exact⟨h.step a1 a2 a3 a4,cnt_do a1 h.iv.f a2 a3 a4⟩
theorem Dsk.few (h:Dsk m l bg S):cnt m.toNat l S≤64:=by
 have hz:=aY h.pe
 have h8:=fE hz.2.2
 have h1:=cnt_le m.toNat l S
 have h2:l.length*m.toNat≤8*4:=Nat.mul_le_mul h8 (by omega)
 omega
theorem rest_ok (m:Int) (l:List TxA) (bg:List Int):∀(f:Nat) (S:SA),Dsk m l bg S→64<f+cnt m.toNat l S→RX m l (qJ m l S) (rNf m l f S)∧Dsk m l bg (qJ m l S (rNf m l f S))∧rNf m l f S+cnt m.toNat l S≤64
 | 0,S,h,hf=>by have:=h.few;omega
 | f+1,S,h,hf=>by
  have hst:=h.st
  by_cases ho:jW m l S=true
  ·have e:rNf m l (f+1) S=0:=if_pos ho
   rw[e]
   refine⟨⟨fun i hi=>?_,fun i hi=>?_,fun i hi=>by omega,fun i hi=>by omega,fun i hi=>by omega,by omega⟩,h,by have:=h.few;omega⟩
   ·have:i=0:=by omega
    subst this;exact hst
   ·have:i=0:=by omega
    subst this;exact ho
  ·have hof:jW m l S=false:=by simpa using ho
   have e:rNf m l (f+1) S=rNf m l f (yS m l S)+1:=if_neg ho
   obtain⟨hn,hc⟩:=h.next hof
   obtain⟨h3,hx⟩:=h.first hof
   have hd:=can_do0 hst hx
   obtain⟨r,d,k⟩:=rest_ok m l bg f (yS m l S) hn (by omega)
   rw[e]
   refine⟨⟨fun i hi=>?_,fun i hi=>?_,fun i hi=>?_,fun i hi=>?_,fun i hi=>?_,by omega⟩,?_,by omega⟩
   ·cases i with
    | zero=>exact hst
    | succ i=>rw[jN];exact r.st i (by omega)
   ·cases i with
    | zero=>show jW m l S=_;rw[hof];simp
    | succ i=>rw[jN,r.ov i (by omega)];simp
   ·cases i with
    | zero=>exact h3
    | succ i=>rw[jN];exact r.can i (by omega)
   ·cases i with
    | zero=>exact hd
    | succ i=>rw[jN];exact r.dz i (by omega)
   ·rfl
   ·rw[jN];exact d
theorem Dsk.rest (h:Dsk m l bg S):RX m l (qJ m l S) (rN m l S)∧Dsk m l bg (qJ m l S (rN m l S))∧rN m l S≤64:=by
 obtain⟨a,b,c⟩:=rest_ok m l bg 65 S h (by omega)
 exact⟨a,b,by show rNf m l 65 S≤64;omega⟩
theorem Dsk.ok (h:Dsk m l bg S):OkDesk m l bg S:=
 ⟨h.st,nP h.st,fun z hz=>by have:=h.si z hz;unfold dV at this;omega,h.rest.1,desk_cl h.st,desk_cn h.st,desk_au h.st h.b8,desk_av h.st,desk_pl h.st⟩
theorem numW_I {x:List UInt8} {n:Int} (h:jX x=some n):dV n:=by
 have:=(sI x n).1 h
 unfold dV
 omega
theorem Dsk.put (h:Dsk m l bg S) (k:Nat) {v:Int} (hv:dV v):Dsk m l (S.st.set k v) (cA m l (S.st.set k v)):=
 dsk_beg h.pe h.v6 (by rw[List.length_set];exact nP h.st) (set_I h.si _ hv)
theorem Dsk.tell (h:Dsk m l bg S) {x:List UInt8} {p:List UInt8×SA} (hr:eC m l bg S x=.ok p):Dsk m l bg p.2:=by
 unfold eC at hr
 split at hr
 ·injection hr with hr;subst hr;exact h
 split at hr
 ·injection hr with hr;subst hr;exact h
 split at hr
 ·injection hr with hr;subst hr;exact h.rest.2.1
 split at hr
 ·split at hr
  ·injection hr with hr;subst hr;exact h
  ·cases hr
 ·cases hr
theorem Dsk.change (h:Dsk m l bg S) {x a b:List UInt8} {p:List UInt8×List Int×SA} (hr:cV m l bg S x a b=.ok p):Dsk m l p.2.1 p.2.2:=by
 unfold cV at hr
 split at hr
 ·split at hr
  ·next k v h1 h2=>
   split at hr
   ·cases hr
   ·injection hr with hr;subst hr;exact h.put _ (numW_I h2)
  ·cases hr
 split at hr
 ·split at hr
  ·split at hr
   ·next hd=>injection hr with hr;subst hr;exact h.does hd
   ·cases hr
  ·cases hr
 split at hr
 ·split at hr
  ·split at hr
   ·next hd=>injection hr with hr;subst hr;exact h.does hd
   ·cases hr
  ·cases hr
 ·cases hr
theorem Dsk.obey (h:Dsk m l bg S) {x:List UInt8} {xs:List (List UInt8)} {p:List UInt8×List Int×SA} (hr:qH m l bg S x xs=.ok p):Dsk m l p.2.1 p.2.2:=by
 match xs,hr with
 | [],hr=>
  have e:qH m l bg S x []=(eC m l bg S x).map fun p=>(p.1,bg,p.2):=rfl
  rw[e]at hr
  cases ht:eC m l bg S x with
  | error z=>rw[ht]at hr;cases hr
  | ok q=>
   rw[ht]at hr
   have e2:((Except.ok q:Except Int (List UInt8×SA)).map fun p=>(p.1,bg,p.2))=.ok (q.1,bg,q.2):=rfl
   rw[e2]at hr
   injection hr with hr
   subst hr
   exact h.tell ht
 | [a],hr=>cases hr
 | [a,b],hr=>exact h.change hr
 | a::b::c::r,hr=>cases hr
theorem Dsk.answer (h:Dsk m l bg S) (x:List UInt8):Dsk m l (gT m l bg S x).2.1 (gT m l bg S x).2.2:=by
 unfold gT
 split
 ·next p hr=>exact h.obey hr
 ·exact h
end
def lF (m:Int) (l:List TxA):List (List UInt8)→List Int→SA→List UInt8
 | [],_,_=>[]
 | x::r,bg,S=>(gT m l bg S x).1++10::lF m l r (gT m l bg S x).2.1 (gT m l bg S x).2.2
def iZ (m:Int) (l:List TxA):List (List UInt8)→List Int×SA→List Int×SA
 | [],p=>p
 | x::r,p=>iZ m l r (gT m l p.1 p.2 x).2
theorem wN (m:Int) (l:List TxA):∀(a b:List (List UInt8)) (p:List Int×SA),lF m l (a++b) p.1 p.2=lF m l a p.1 p.2++lF m l b (iZ m l a p).1 (iZ m l a p).2
 | [],_,_=>rfl
 | x::a,b,p=>by
  have:=wN m l a b (gT m l p.1 p.2 x).2
  simp only[List.cons_append,lF,iZ,this,List.append_assoc]
theorem zM (m:Int) (l:List TxA):∀(a b:List (List UInt8)) (p:List Int×SA),iZ m l (a++b) p=iZ m l b (iZ m l a p)
 | [],_,_=>rfl
 | x::a,b,p=>by simp only[List.cons_append,iZ];exact zM m l a b _
theorem wO {m:Int} {l:List TxA}:∀(a:List (List UInt8)) (p:List Int×SA),Dsk m l p.1 p.2→Dsk m l (iZ m l a p).1 (iZ m l a p).2
 | [],_,h=>h
 | x::a,_,h=>wO a _ (h.answer x)
end
section
def fU (l:List TxA):List TxA:=(l.map TxA.core).map cX
theorem iV (l:List TxA):(fU l).length=l.length:=by simp[fU]
theorem kC (l:List TxA) (n:Nat):gX (fU l) n=cX (gX l n).core:=by
 unfold gX fU
 rw[List.map_map,List.getD_eq_getElem?_getD,List.getD_eq_getElem?_getD,List.getElem?_map]
 cases l[n]? <;> rfl
section
variable (sh:Nat) (m:Int) (l:List TxA) (S:SA)
theorem er_pt (x:TxA) (k:Nat):jS sh (cX x.core) k=jS sh x k:=rfl
theorem er_ac (x:TxA) (k:Nat):oL sh (cX x.core) k=oL sh x k:=rfl
theorem er_cl (x y:TxA) (k:Nat):yT sh (cX x.core) (cX y.core) k=yT sh x y k:=rfl
theorem er_allRd (n:Nat):dE sh (fU l) S n=dE sh l S n:=by
 simp only[dE,kC,er_pt]
theorem er_gone (n k:Nat):aW sh (fU l) S n k=aW sh l S n k:=by
 simp only[aW,kC,er_pt,er_ac]
theorem er_blk (n k:Nat):lB sh (fU l) S n k=lB sh l S n k:=by
 simp only[lB,qB,kC,er_gone,er_cl]
theorem er_has (kd n k:Nat):lN sh (fU l) kd n k=lN sh l kd n k:=by
 simp only[lN,kC,er_pt,er_ac]
theorem er_free (kd n k:Nat):dU sh (fU l) S kd n k=dU sh l S kd n k:=by
 simp only[dU,er_allRd,er_blk]
theorem er_may (kd n k:Nat):dW sh (fU l) S kd n k=dW sh l S kd n k:=by
 simp only[dW,er_has,er_free]
theorem er_form:eB sh (fU l) S=eB sh l S:=by
 simp only[eB,iV,kC]
 rfl
theorem er_truth:bH sh (fU l) S=bH sh l S:=by
 simp only[bH,iV,kC,er_pt,er_ac,er_allRd]
theorem er_plan:aM m (fU l)=aM m l:=iC m l
theorem er_st:dB m (fU l) S=dB m l S:=by
 simp only[dB,er_plan,er_form,er_truth]
theorem er_read (n k:Nat):gC sh (fU l) S n k=gC sh l S n k:=by
 unfold gC
 rw[kC]
 rfl
theorem er_write (n k:Nat):dI sh (fU l) S n k=dI sh l S n k:=by
 unfold dI
 rw[kC]
 rfl
theorem er_doX (kd n k:Nat):vI sh (fU l) S kd n k=vI sh l S kd n k:=by
 unfold vI
 rw[er_read,er_write]
theorem er_canL:eE sh (fU l) S=eE sh l S:=by
 have h:dW sh (fU l) S=dW sh l S:=by funext kd n k;exact er_may sh l S kd n k
 simp only[eE,gJ,iG,fP,iV,h]
theorem er_over:eI sh (fU l) S=eI sh l S:=by
 simp only[eI,jA,iV,er_gone]
theorem er_stepE (kd n k:Int):bW sh (fU l) S kd n k=bW sh l S kd n k:=by
 simp only[bW,iV,er_has,er_free]
theorem er_ov:jW m (fU l) S=jW m l S:=by
 simp only[jW,er_st,er_over]
theorem er_can:bE m (fU l) S=bE m l S:=by
 simp only[bE,er_st,er_canL]
theorem er_doE (kd n k:Int):kX m (fU l) S kd n k=kX m l S kd n k:=by
 simp only[kX,er_st,er_stepE]
theorem er_doS (kd n k:Int):pV m (fU l) S kd n k=pV m l S kd n k:=by
 simp only[pV,er_doE,er_doX]
theorem er_beg (s:List Int):cA m (fU l) s=cA m l s:=by
 have h:jC m.toNat (fU l) s=jC m.toNat l s:=by
  simp only[jC,fU,List.map_map]
  rfl
 unfold cA iI
 rw[er_plan,h]
theorem er_rsE:mG m (fU l) S=mG m l S:=by
 simp only[mG,er_st,er_ov]
theorem er_rsL:kN m (fU l) S=kN m l S:=by
 have h:gL (fU l) S (fU l).length=gL l S l.length:=by
  simp only[gL,iV,kC]
  rfl
 simp only[kN,er_rsE,h]
theorem vH:∀(l:List TxA) (s:List Int),aU s (fU l)=aU s l
 | [],_=>rfl
 | x::t,s=>vH t (mT s x)
theorem vG:∀(l:List TxA) (s:List Int),aT s (fU l)=aT s l
 | [],_=>rfl
 | x::t,s=>by
  have:=vG t (mT s x)
  show (tN s x,qC s x)::aT (mT s x) (fU t)=(tN s x,qC s x)::aT (mT s x) t
  rw[this]
theorem er_chkL:dD (fU l)=dD l:=by
 have e:(fU l).map eT=l.map eT:=by
  unfold fU
  rw[List.map_map,List.map_map]
  rfl
 unfold dD
 rw[e,iV]
theorem er_aud (bg en:List Int) (r:List (Bool×List Int)):jD bg (fU l) en r=jD bg l en r:=by
 unfold jD mR oZ bO kM fZ
 rw[er_chkL,iV,vH,vG]
theorem er_nxt:yS m (fU l) S=yS m l S:=by
 simp only[yS,er_doS,er_can]
theorem er_itr:∀i,qJ m (fU l) S i=qJ m l S i
 | 0=>rfl
 | i+1=>by
  show yS m (fU l) (qJ m (fU l) S i)=yS m l (qJ m l S i)
  rw[er_itr i,er_nxt]
theorem er_rNf (m:Int) (l:List TxA):∀(f:Nat) (S:SA),rNf m (fU l) f S=rNf m l f S
 | 0,_=>rfl
 | f+1,S=>by
  show (if jW m (fU l) S=true then 0 else rNf m (fU l) f (yS m (fU l) S)+1)=(if jW m l S=true then 0 else rNf m l f (yS m l S)+1)
  rw[er_ov,er_nxt,er_rNf m l f]
theorem er_tel (bg:List Int) (x:List UInt8):eC m (fU l) bg S x=eC m l bg S x:=by
 simp only[eC,er_ov,er_can,rN,er_rNf,er_itr,er_rsE,er_rsL,er_aud]
theorem er_chg (bg:List Int) (x a b:List UInt8):cV m (fU l) bg S x a b=cV m l bg S x a b:=by
 simp only[cV,er_beg,er_doE,er_doS]
theorem er_ob (bg:List Int) (x:List UInt8) (xs:List (List UInt8)):qH m (fU l) bg S x xs=qH m l bg S x xs:=by
 match xs with
 | []=>simp only[qH,er_tel]
 | [a]=>rfl
 | [a,b]=>exact er_chg m l S bg x a b
 | a::b::c::r=>rfl
theorem er_ans (bg:List Int) (x:List UInt8):gT m (fU l) bg S x=gT m l bg S x:=by
 simp only[gT,er_ob]
theorem er_scr (m:Int) (l:List TxA):∀(ls:List (List UInt8)) (bg:List Int) (S:SA),lF m (fU l) ls bg S=lF m l ls bg S
 | [],_,_=>rfl
 | x::r,bg,S=>by
  simp only[lF,er_ans,er_scr m l r]
end
theorem v64_of {p:Int×List fG} (h:OkP p) {l:List TxA} (hl:l.map TxA.core=p.2):∀x∈l,V64 x:=fun x hx=>by
 have hc:OkC x.core:=h.2.2 _ (by rw[←hl];exact List.mem_map.2 ⟨x,hx,rfl⟩)
 exact⟨fun z hz=>⟨(hc.2.1.2 z hz).2.2.1,(hc.2.1.2 z hz).2.2.2.2⟩,fun z hz=>⟨(hc.2.2.2 z hz).2.2.2.1,(hc.2.2.2 z hz).2.2.2.2.2⟩⟩
end
end Go.Proofs.YtcgpkonfneofdaaGreatDoor
