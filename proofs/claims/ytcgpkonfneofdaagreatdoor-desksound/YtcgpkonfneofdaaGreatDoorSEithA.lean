/- Conditions: those that each theorem states. -/
import Derived.Test.YtcgpkonfneofdaaGreatDoorSRunB
import Derived.Laws.StructEq
set_option maxRecDepth 100000
set_option maxHeartbeats 8000000
namespace Go.Proofs.YtcgpkonfneofdaaGreatDoor
open Go.RowKit
section
theorem canL_len (sh:Nat) (l:List TxA) (S:SA) (h8:l.length≤8) (h4:sh≤4):(eE sh l S).length≤64:=by
 unfold eE gJ
 rw[List.length_append]
 have a:=jR sh l S 1 l.length
 have b:=jR sh l S 2 l.length
 have c:l.length*sh≤8*4:=Nat.mul_le_mul h8 h4
 omega
theorem can_any (sh:Nat) (l:List TxA) (S:SA) (kd n k:Int):(eE sh l S).any (fun x=>(x.1:Int)==kd && (x.2.1:Int)==n && (x.2.2:Int)==k)=decide (bW sh l S kd n k=0):=by
 rw[Bool.eq_iff_iff,List.any_eq_true,decide_eq_true_eq]
 constructor
 ·rintro ⟨⟨K,N,j⟩,hx,e⟩
  obtain⟨h1,h2,h3,h4⟩:=iH.1 hx
  simp only[Bool.and_eq_true,beq_iff_eq]at e
  obtain⟨⟨e1,e2⟩,e3⟩:=e
  subst e1 e2 e3
  have h1:K=1∨K=2:=h1
  have h2:N<l.length:=h2
  have h3:j<sh:=h3
  have h4:dW sh l S K N j=true:=h4
  unfold dW at h4
  simp only[Bool.and_eq_true,Bool.not_eq_true']at h4
  obtain⟨⟨a1,a2⟩,a3⟩:=h4
  unfold bW
  rw[if_pos (by omega),if_neg (by omega)]
  simp only[Int.toNat_natCast]
  rw[if_pos a1,if_neg (by rw[a2];simp),if_pos a3]
 ·intro h
  obtain⟨K,N,k',rfl,rfl,rfl,hK,hN,hk,a1,a2,a3⟩:=mC h
  refine⟨(K,N,k'),iH.2 ⟨hK,hN,hk,?_⟩,by simp⟩
  show dW sh l S K N k'=true
  unfold dW
  rw[a1,a2,a3];rfl
theorem can_over {m:Int} {l:List TxA} {S:SA} (h:dB m l S=0):jW m l S=decide ((bE m l S).length=0):=by
 have e1:jW m l S=eI m.toNat l S:=if_pos h
 have e2:bE m l S=eE m.toNat l S:=if_pos h
 obtain⟨sh,rfl,_,_,_,_,_,ht⟩:=cK h
 rw[e1,e2]
 show eI sh l S=decide ((eE sh l S).length=0)
 cases ho:eI sh l S with
 | true=>rw[over_none (rD.1 ht) ho];rfl
 | false=>
  have:=some_can ho
  symm
  rw[decide_eq_false_iff_not]
  exact fun e=>this (List.eq_nil_of_length_eq_zero e)
variable (la:Option Addr) (lc:Nat) (l:List TxA) (sa ra wa va:Option Addr) (sc rc tc vc:Nat) (S:SA)
end
theorem can_do0 {m:Int} {l:List TxA} {S:SA} (h:dB m l S=0) {x:Nat×Nat×Nat} (hx:x∈bE m l S):kX m l S x.1 x.2.1 x.2.2=0:=by
 have e1:kX m l S x.1 x.2.1 x.2.2=bW m.toNat l S x.1 x.2.1 x.2.2:=if_pos h
 have e2:bE m l S=eE m.toNat l S:=if_pos h
 rw[e2]at hx
 rw[e1]
 have:=can_any m.toNat l S x.1 x.2.1 x.2.2
 have ha:(eE m.toNat l S).any (fun y=>(y.1:Int)==x.1 && (y.2.1:Int)==x.2.1 && (y.2.2:Int)==x.2.2)=true:=List.any_eq_true.2 ⟨x,hx,by simp⟩
 rw[ha]at this
 exact of_decide_eq_true this.symm
theorem do_is {m:Int} {l:List TxA} {S:SA} {x:Nat×Nat×Nat} (h:kX m l S x.1 x.2.1 x.2.2=0):pV m l S x.1 x.2.1 x.2.2=vI m.toNat l S x.1 x.2.1 x.2.2:=by
 unfold pV
 rw[if_pos h]
 simp
theorem inv_st {m:Int} {l:List TxA} {S:SA} {s:List Int} (hp:aM m l=0) (I:Inv m.toNat l s S):dB m l S=0:=by
 unfold dB
 rw[if_pos hp,eK.2 I.f,rD.2 I.t]
 rfl
theorem beg_zero {m:Int} {l:List TxA} {s:List Int} (h:iI m l s=0):aM m l=0∧s.length=8:=by
 unfold iI bK at h
 by_cases h1:aM m l=0
 ·rw[h1]at h
  refine⟨h1,?_⟩
  apply Classical.byContradiction
  intro h8
  simp[aF,h8]at h
 ·simp[aF,h1]at h
theorem beg_inv {m:Int} {l:List TxA} {s:List Int} (h:iI m l s=0):Inv m.toNat l s (cA m l s):=by
 obtain⟨hp,h8⟩:=beg_zero h
 have e:cA m l s=jC m.toNat l s:=if_pos h
 rw[e]
 exact inv_beg _ _ _ h8 (fun n hn=>lL (fV (aY hp).2.2 n hn))
end Go.Proofs.YtcgpkonfneofdaaGreatDoor
