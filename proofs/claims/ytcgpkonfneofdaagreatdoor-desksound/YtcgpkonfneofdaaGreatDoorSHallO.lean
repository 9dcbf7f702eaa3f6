/- Conditions: those that each theorem states. -/
import Derived.Test.YtcgpkonfneofdaaGreatDoorSHallM
import Derived.Test.YtcgpkonfneofdaaGreatDoorSFault2
set_option maxRecDepth 100000
set_option maxHeartbeats 8000000
namespace Go.Proofs.YtcgpkonfneofdaaGreatDoor
open Go.RowKit
section
theorem stE_plan {m:Int} {l:List TxA} {S:SA} (h:dB m l S=0):aM m l=0:=by
 unfold dB at h
 by_cases c:aM m l=0
 ·exact c
 ·rw[if_neg c]at h;exact h
theorem cK {m:Int} {l:List TxA} {S:SA} (h:dB m l S=0):∃sh:Nat,m=sh∧0<sh∧sh≤4∧dD l=0∧aM m l=0∧eB sh l S=true∧bH sh l S=true:=by
 have hp:=stE_plan h
 have hz:=aY hp
 refine⟨m.toNat,by omega,by omega,by omega,hz.2.2,hp,?_⟩
 unfold dB at h
 rw[if_pos hp]at h
 cases h1:eB m.toNat l S <;> cases h2:bH m.toNat l S <;> simp_all
theorem wG {sh:Nat} {l:List TxA} {S:SA} (hp:aM (sh:Int) l=0) (h:eB sh l S=false∨bH sh l S=false):dB sh l S=1:=by
 unfold dB
 rw[if_pos hp]
 have e:((sh:Int)).toNat=sh:=by omega
 rw[e]
 rcases h with h | h <;> rw[h] <;> simp
theorem news_steps {w:World} {ad:Addr} {L:List (Nat×Nat×Nat)} (h:IsSteps w (some ad) L):∀j u,(aS L)[j]?=some u→w.cell? (ad.add j)=some u:=by
 intro j u hj
 have hlt:j<L.length*3:=by rw[←mP];exact(List.getElem?_eq_some_iff.1 hj).1
 have hi:j / 3<L.length:=by omega
 have hr:j%3<3:=Nat.mod_lt _ (by decide)
 have ej:j=j / 3*3+j%3:=by omega
 obtain⟨b,off,ha,hb,c0,c1,c2⟩:=h (j / 3) hi
 obtain⟨g0,g1,g2⟩:=iF L (j / 3) hi
 injection ha with ha
 subst ha
 rw[ej]at hj
 rw[bC,ej]
 generalize j / 3=i at *
 generalize j%3=r at *
 match r,hr with
 | 0,_=>rw[Nat.add_zero,g0]at hj;injection hj with hj;subst hj;simpa using c0
 | 1,_=>rw[g1]at hj;injection hj with hj;subst hj;simpa[Nat.add_assoc]using c1
 | 2,_=>rw[g2]at hj;injection hj with hj;subst hj;simpa[Nat.add_assoc]using c2
variable (la:Option Addr) (lc:Nat) (l:List TxA) (sa ra wa va:Option Addr) (sc rc tc vc:Nat) (S:SA)
theorem qW (sh:Nat) (w:World) (hl:IsTxs w la l) (hs:Sta w sa ra wa va S) (hE:dB sh l S=0) :
  Calls Tryz.prog 194 #[.agg #[.int .i64 (sh:Int),.slice la l.length lc],.agg #[.slice sa S.st.length sc,.slice ra S.rd.length rc,.slice wa S.wr.length tc,.slice va S.vs.length vc]] w fun e w'=>∃h A,e=.returned (.pointer (some ⟨h,0,none⟩))∧Hall w' h sh l S A∧w.heap.size≤h∧h<w'.heap.size∧(∀j,w'.frozen? ⟨h,j,none⟩=false)∧w.heap.size≤A.p∧A.p<h∧A.la=la∧Below w.heap.size w w':=by
 obtain⟨sh',e,_,_,_,hp,hf,ht⟩:=cK hE
 have e':sh'=sh:=by omega
 subst e'
 refine(uV la lc l sa ra wa va sc rc tc vc S sh' w hl hs hp (eK.1 hf).st hf).mono ?_
 rintro e w' ⟨⟨_,h,A,rfl,H,h1,h2,h3,h4,h5,h6⟩ | ⟨h,_⟩,hb⟩
 ·exact⟨h,A,rfl,H,h1,h2,h3,h4,h5,h6,hb⟩
 ·rw[ht]at h;cases h
theorem sY (m:Int) (w:World) (hl:IsTxs w la l) (hs:Sta w sa ra wa va S) (hE:¬dB m l S=0) :
  Calls Tryz.prog 194 #[.agg #[.int .i64 m,.slice la l.length lc],.agg #[.slice sa S.st.length sc,.slice ra S.rd.length rc,.slice wa S.wr.length tc,.slice va S.vs.length vc]] w fun e w'=>e=.panicked [{v:=.iface 22 (.int .i64 (dB m l S)),recovered:=false}]∧Below w.heap.size w w':=by
 by_cases hp:aM m l=0
 ·obtain⟨sh,rfl⟩:∃sh:Nat,m=sh:=⟨m.toNat,by have:=aY hp;omega⟩
  by_cases h8:S.st.length=8
  ·cases hf:eB sh l S with
   | false=>
    rw[wG hp (.inl hf)]
    exact hallOf_pan2 la lc l sa ra wa va sc rc tc vc S sh w hl hs hp h8 hf
   | true=>
    cases ht:bH sh l S with
    | false=>
     rw[wG hp (.inr ht)]
     refine(uV la lc l sa ra wa va sc rc tc vc S sh w hl hs hp h8 hf).mono ?_
     rintro e w' ⟨⟨h,_⟩ | ⟨_,rfl⟩,hb⟩
     ·rw[ht]at h;cases h
     ·exact⟨rfl,hb⟩
    | true=>
     refine absurd ?_ hE
     unfold dB
     have e:((sh:Int)).toNat=sh:=by omega
     rw[if_pos hp,e,hf,ht]
     rfl
  ·have hf:eB sh l S=false:=form_bad fun F=>h8 F.st
   have e2:bK S.st=1:=if_neg h8
   have e3:aF [aM (sh:Int) l,bK S.st]=1:=by rw[hp,e2];rfl
   rw[wG hp (.inl hf)]
   have hh:=pQ la lc l sa ra wa va sc rc tc vc S sh w hl (by rw[e3];decide)
   rw[e3]at hh
   exact hh
 ·have e1:dB m l S=aM m l:=if_neg hp
  have e3:aF [aM m l,bK S.st]=aM m l:=by unfold aF;rw[if_neg hp]
  rw[e1]
  have hh:=pQ la lc l sa ra wa va sc rc tc vc S m w hl (by rw[e3];exact hp)
  rw[e3]at hh
  exact hh
theorem over1_pan (m:Int) (p q:Nat) (w:World) (p0:w.cell? ⟨p,0,none⟩=some (.int .i64 m)) (p1:w.cell? ⟨p,1,none⟩=some (.slice la l.length lc)) (q0:w.cell? ⟨q,0,none⟩=some (.slice sa S.st.length sc)) (q1:w.cell? ⟨q,1,none⟩=some (.slice ra S.rd.length rc)) (q2:w.cell? ⟨q,2,none⟩=some (.slice wa S.wr.length tc)) (q3:w.cell? ⟨q,3,none⟩=some (.slice va S.vs.length vc)) (hl:IsTxs w la l) (hs:Sta w sa ra wa va S) (hE:¬dB m l S=0) :
  Calls Tryz.prog 210 #[.pointer (some ⟨p,0,none⟩),.pointer (some ⟨q,0,none⟩)] w fun e w'=>e=.panicked [{v:=.iface 22 (.int .i64 (dB m l S)),recovered:=false}]∧Below w.heap.size w w':=by
 have CH:Hid (Calls Tryz.prog 194 #[.agg #[.int .i64 m,.slice la l.length lc],.agg #[.slice sa S.st.length sc,.slice ra S.rd.length rc,.slice wa S.wr.length tc,.slice va S.vs.length vc]] w fun e w'=>e=.panicked [{v:=.iface 22 (.int .i64 (dB m l S)),recovered:=false}]∧Below w.heap.size w w'):=sY la lc l sa ra wa va sc rc tc vc S m w hl hs hE
 clear hl hs hE
 go_enter Tryz.func210,Tryz.ntmps210
 go_wp2_with fail
 refine CH.out.mono ?_
 rintro e w1 ⟨rfl,hb⟩
 exact⟨rfl,rfl,hb⟩
theorem can1_pan (m:Int) (p q:Nat) (w:World) (p0:w.cell? ⟨p,0,none⟩=some (.int .i64 m)) (p1:w.cell? ⟨p,1,none⟩=some (.slice la l.length lc)) (q0:w.cell? ⟨q,0,none⟩=some (.slice sa S.st.length sc)) (q1:w.cell? ⟨q,1,none⟩=some (.slice ra S.rd.length rc)) (q2:w.cell? ⟨q,2,none⟩=some (.slice wa S.wr.length tc)) (q3:w.cell? ⟨q,3,none⟩=some (.slice va S.vs.length vc)) (hl:IsTxs w la l) (hs:Sta w sa ra wa va S) (hE:¬dB m l S=0) :
  Calls Tryz.prog 213 #[.pointer (some ⟨p,0,none⟩),.pointer (some ⟨q,0,none⟩)] w fun e w'=>e=.panicked [{v:=.iface 22 (.int .i64 (dB m l S)),recovered:=false}]∧Below w.heap.size w w':=by
 have CH:Hid (Calls Tryz.prog 194 #[.agg #[.int .i64 m,.slice la l.length lc],.agg #[.slice sa S.st.length sc,.slice ra S.rd.length rc,.slice wa S.wr.length tc,.slice va S.vs.length vc]] w fun e w'=>e=.panicked [{v:=.iface 22 (.int .i64 (dB m l S)),recovered:=false}]∧Below w.heap.size w w'):=sY la lc l sa ra wa va sc rc tc vc S m w hl hs hE
 clear hl hs hE
 go_enter Tryz.func213,Tryz.ntmps213
 go_wp2_with fail
 refine CH.out.mono ?_
 rintro e w1 ⟨rfl,hb⟩
 exact⟨rfl,rfl,hb⟩
theorem aAk (sh:Nat) (l:List TxA) (S:SA) (n:Nat):jA sh l S (n+1)=(jA sh l S n && (List.range sh).all (aW sh l S n)):=tL _ n
theorem over1_ok (sh:Nat) (p q:Nat) (w:World) (p0:w.cell? ⟨p,0,none⟩=some (.int .i64 (sh:Int))) (p1:w.cell? ⟨p,1,none⟩=some (.slice la l.length lc)) (q0:w.cell? ⟨q,0,none⟩=some (.slice sa S.st.length sc)) (q1:w.cell? ⟨q,1,none⟩=some (.slice ra S.rd.length rc)) (q2:w.cell? ⟨q,2,none⟩=some (.slice wa S.wr.length tc)) (q3:w.cell? ⟨q,3,none⟩=some (.slice va S.vs.length vc)) (hl:IsTxs w la l) (hs:Sta w sa ra wa va S) (hE:dB sh l S=0) :
  Calls Tryz.prog 210 #[.pointer (some ⟨p,0,none⟩),.pointer (some ⟨q,0,none⟩)] w fun e w'=>e=.returned (.bool (eI sh l S))∧Below w.heap.size w w':=by
 have CH:Hid (Calls Tryz.prog 194 #[.agg #[.int .i64 (sh:Int),.slice la l.length lc],.agg #[.slice sa S.st.length sc,.slice ra S.rd.length rc,.slice wa S.wr.length tc,.slice va S.vs.length vc]] w fun e w'=>∃h A,e=.returned (.pointer (some ⟨h,0,none⟩))∧Hall w' h sh l S A∧w.heap.size≤h∧h<w'.heap.size∧(∀j,w'.frozen? ⟨h,j,none⟩=false)∧w.heap.size≤A.p∧A.p<h∧A.la=la∧Below w.heap.size w w'):=qW la lc l sa ra wa va sc rc tc vc S sh w hl hs hE
 have HF:Hid (eI sh l S=jA sh l S l.length):=rfl
 have HS:Hid (∀n,jA sh l S (n+1)=(jA sh l S n && (List.range sh).all (aW sh l S n))):=aAk sh l S
 have HB:Hid (∀n k,n<l.length→k<sh→aW sh l S n k=false→eI sh l S=false):=fun n k hn hk e=>lC hn (lC hk e)
 have H0:Hid (jA sh l S 0=true):=rfl
 clear hl hs hE
 generalize eI sh l S=R at *
 generalize hot:jA sh l S=ot at *
 clear hot
 go_enter Tryz.func210,Tryz.ntmps210
 go_wp2_with fail
 refine CH.out.mono ?_
 rintro e w1 ⟨h,A,rfl,hH,_,_,_,_,_,_,hb⟩
 have B1:Hid (Below w.heap.size w w1):=hb
 have HH:Hid (Hall w1 h sh l S A):=hH
 have x0:=hH.h0
 have z0:=hH.p0
 have z1:=hH.p1
 have hl8:=hH.l8
 have hs4:=hH.s4
 clear hb p0 p1 q0 q1 q2 q3 hH CH
 go_wp2
 go_loop [17] (fun i=>∃n:Nat,n≤l.length∧i=.int .i64 n∧Hid (ot n=true)) (fun i=>l.length - (intOf i).toNat)
 case atStart=>exact⟨0,Nat.zero_le _,rfl,H0⟩
 case round=>
  obtain⟨n,hn',rfl,hall⟩:=hrel
  by_cases hlt:n<l.length
  ·have i1:(n:Int)<(l.length:Int):=by omega
   have HN:Hid ((List.range sh).all (aW sh l S n)=true→ot (n+1)=true):=fun e=>by rw[HS.out,hall.out,e];rfl
   clear hall
   go_wp2
   go_loop [27] (fun i=>∃k:Nat,k≤sh∧i=.int .i64 k∧Hid ((List.range k).all (aW sh l S n)=true)) (fun i=>sh - (intOf i).toNat)
   case atStart=>exact⟨0,Nat.zero_le _,rfl,rfl⟩
   case round=>
    obtain⟨k,hk',rfl,hall⟩:=hrel
    by_cases hlt2:k<sh
    ·have j1:(k:Int)<(sh:Int):=by omega
     have HT:Hid ((List.range (k+1)).all (aW sh l S n)=aW sh l S n k):=by show _=_;rw[tL,hall.out,Bool.true_and]
     have HBk:Hid (aW sh l S n k=false→R=false):=HB.out n k hlt hlt2
     have CG:Hid (Calls Tryz.prog 211 #[.pointer (some ⟨h,0,none⟩),.int .i64 n,.int .i64 k] w1 fun e w'=>e=.returned (.bool (aW sh l S n k))∧w'=w1):=gone_any HH.out hlt hlt2
     clear hall
     generalize hg:aW sh l S n k=G at HT HBk CG
     clear hg
     cases G
     ·have HR:Hid (R=false):=HBk.out rfl
      clear HT HBk
      go_wp2_with fail
      refine CG.out.mono ?_
      rintro e w2 ⟨rfl,hw2⟩
      subst hw2
      clear CG
      go_wp2
      go_ret
      exact⟨by rw[HR.out];rfl,B1.out⟩
     ·clear HBk
      go_wp2_with fail
      refine CG.out.mono ?_
      rintro e w2 ⟨rfl,hw2⟩
      subst hw2
      clear CG
      go_wp2
      go_round
      case rel=>exact⟨k+1,by omega,by go_num,HT.out⟩
      case measure=>simp[intOf];omega
    ·have hkk:k=sh:=by omega
     have j1:¬(k:Int)<(sh:Int):=by omega
     have HT:Hid (ot (n+1)=true):=HN.out (by have:=hall.out;rw[hkk]at this;exact this)
     clear hall HN
     go_wp2
     go_round
     case rel=>exact⟨n+1,by omega,by go_num,HT⟩
     case measure=>simp[intOf];omega
  ·have hnn:n=l.length:=by omega
   have i1:¬(n:Int)<(l.length:Int):=by omega
   have HR:Hid (R=true):=by have:=hall.out;rw[hnn]at this;exact HF.out.trans this
   clear hall
   go_wp2
   go_ret
   exact⟨by rw[HR.out];rfl,B1.out⟩
theorem can1_ok (sh:Nat) (p q:Nat) (w:World) (p0:w.cell? ⟨p,0,none⟩=some (.int .i64 (sh:Int))) (p1:w.cell? ⟨p,1,none⟩=some (.slice la l.length lc)) (q0:w.cell? ⟨q,0,none⟩=some (.slice sa S.st.length sc)) (q1:w.cell? ⟨q,1,none⟩=some (.slice ra S.rd.length rc)) (q2:w.cell? ⟨q,2,none⟩=some (.slice wa S.wr.length tc)) (q3:w.cell? ⟨q,3,none⟩=some (.slice va S.vs.length vc)) (hl:IsTxs w la l) (hs:Sta w sa ra wa va S) (hE:dB sh l S=0) :
  Calls Tryz.prog 213 #[.pointer (some ⟨p,0,none⟩),.pointer (some ⟨q,0,none⟩)] w fun e w'=>∃v,e=.returned v∧w'.ownsRow w.heap.size 33 3 v (eE sh l S).length (aS (eE sh l S))∧Below w.heap.size w w':=by
 obtain⟨i0,hi,hz0,hz1,hz2⟩:=info_parts Tryz.info33
 have CH:Hid (Calls Tryz.prog 194 #[.agg #[.int .i64 (sh:Int),.slice la l.length lc],.agg #[.slice sa S.st.length sc,.slice ra S.rd.length rc,.slice wa S.wr.length tc,.slice va S.vs.length vc]] w fun e w'=>∃h A,e=.returned (.pointer (some ⟨h,0,none⟩))∧Hall w' h sh l S A∧w.heap.size≤h∧h<w'.heap.size∧(∀j,w'.frozen? ⟨h,j,none⟩=false)∧w.heap.size≤A.p∧A.p<h∧A.la=la∧Below w.heap.size w w'):=qW la lc l sa ra wa va sc rc tc vc S sh w hl hs hE
 clear hl hs hE
 have HC:Hid (eE sh l S=gJ sh l S 1++gJ sh l S 2):=rfl
 go_enter Tryz.func213,Tryz.ntmps213
 go_wp2_with fail
 refine CH.out.mono ?_
 rintro e w1 ⟨h,A,rfl,hH,_,_,_,_,_,_,hb⟩
 have B1:Hid (Below w.heap.size w w1):=hb
 have hl8:=hH.l8
 have hs4:=hH.s4
 have CAN:Hid (∀w',Below w1.heap.size w1 w'→∀kd,kd=1∨kd=2→Calls Tryz.prog 214 #[.pointer (some ⟨h,0,none⟩),.int .i64 ((kd:Nat):Int)] w' fun e w''=>∃v,e=.returned v∧w''.ownsRow w'.heap.size 33 3 v (gJ sh l S kd).length (aS (gJ sh l S kd))∧Below w'.heap.size w' w''):=fun w' hb kd hk=>can_own (hH.below hb) kd hk
 have len1:(gJ sh l S 1).length≤40:=Nat.le_trans (jR sh l S 1 l.length) (Nat.le_trans (Nat.mul_le_mul hl8 hs4) (by decide))
 have len2:(gJ sh l S 2).length≤40:=Nat.le_trans (jR sh l S 2 l.length) (Nat.le_trans (Nat.mul_le_mul hl8 hs4) (by decide))
 clear hb p0 p1 q0 q1 q2 q3 hH CH
 go_wp2_with fail
 refine(CAN.out w1 (Below.refl _ _) 1 (.inl rfl)).mono ?_
 rintro e w2 ⟨v1,rfl,ho1,hb2⟩
 have HB2:Hid (Below w1.heap.size w1 w2):=hb2
 have HO1:Hid (w2.ownsRow w1.heap.size 33 3 v1 (gJ sh l S 1).length (aS (gJ sh l S 1))):=ho1
 clear hb2 ho1
 go_wp2_with fail
 refine(CAN.out w2 HB2.out 2 (.inr rfl)).mono ?_
 rintro e w3 ⟨v2,rfl,ho2,hb3⟩
 have HO3:Hid (w3.ownsRow w.heap.size 33 3 v1 (gJ sh l S 1).length (aS (gJ sh l S 1))):=iQ (dA HO1.out hb3) B1.out.size
 have B3:Hid (Below w.heap.size w w3):=aC B1.out (aC HB2.out hb3)
 have hsz:w.heap.size≤w3.heap.size:=B3.out.size
 obtain⟨a2,c2,rfl,hs2⟩:=lR ho2 rfl
 have HS2:Hid (IsSteps w3 a2 (gJ sh l S 2)):=hs2
 have HN2:Hid (a2=none→gJ sh l S 2=[]):=fun e=>by
  cases hc:gJ sh l S 2 with
  | nil=>rfl
  | cons x t=>
   obtain⟨b,off,ea,_⟩:=hs2 0 (by rw[hc];simp)
   rw[e]at ea;cases ea
 have HC2:Hid (a2=none→c2=0):=fun e=>by
  rcases ho2.2 with ⟨hh,_⟩ | ⟨g,cap,cur,hh,_⟩
  ·injection hh
  ·injection hh with q;rw[e]at q;cases q
 clear hs2 ho2 hb3 HO1 HB2 CAN
 generalize gJ sh l S 1=K1 at *
 generalize gJ sh l S 2=K2 at *
 have FIN:Hid (∀(v':Value) (w4:World),w4.ownsRow w.heap.size 33 3 v' (K1.length+K2.length) (aS K1++aS K2)→w4.ownsRow w.heap.size 33 3 v' (eE sh l S).length (aS (eE sh l S))):=fun v' w4 h=>by
  rw[HC.out,tK,List.length_append];exact h
 cases a2 with
 | none=>
  have e2:=HN2.out rfl
  subst e2
  have R:Hid (w3.ownsRow w.heap.size 33 3 v1 (eE sh l S).length (aS (eE sh l S))):=FIN.out v1 w3 (by have:=HO3.out;simpa[aS]using this)
  have e3:c2=0:=HC2.out rfl
  subst e3
  clear FIN HC HC2 HS2 HN2
  go_wp2_with (first | (at_builtin;refine wpList_append_own_none rfl _ _ 30 rfl w.heap.size 33 i0 3 Tryz.underlying30 hi _ _ _ rfl HO3.out rfl ?_) | go_in)
  clear HO3
  go_wp2
  go_ret
  exact⟨_,rfl,R.out,B3.out⟩
 | some ad=>
  have hnews:∀j u,(aS K2)[j]?=some u→w3.cell? (ad.add j)=some u:=news_steps HS2.out
  clear HS2 HN2
  go_wp2_with (first | (at_builtin;(refine wpList_append_own _ rfl _ _ 30 rfl w.heap.size 33 i0 (.agg #[.int .i64 0,.int .i64 0,.int .i64 0]) 3 24 Tryz.underlying30 hi hz0 hz1 hz2 rfl (by decide) _ _ _ rfl HO3.out ad K2.length c2 (aS K2) rfl (mP K2) hnews (tJ K2) (by unfold maxLen;omega) (by omega) hsz ?_);intro v' w4 hown' hgrow _) | go_in)
  have R:Hid (w4.ownsRow w.heap.size 33 3 v' (eE sh l S).length (aS (eE sh l S))):=FIN.out v' w4 hown'
  have RB:Hid (Below w.heap.size w w4):=B3.out.grown hgrow hsz (fun j hj=>(HO3.out.lt j hj).1)
  clear hown' hgrow HO3 FIN hnews HC
  go_wp2
  go_ret
  exact⟨_,rfl,R.out,RB.out⟩
end
section
theorem oI {W w':World} {o:Obj} (hb:Below (W.alloc o).heap.size (W.alloc o) w'):Below (W.heap.size+1) (W.alloc o) w':=by simpa using hb
theorem pan_up {W:World} {o:Obj} {F:FuncId} {cap:Array Value} {v:Ending} (h:Calls Tryz.prog F cap (W.alloc o) fun e w'=>e=v∧Below (W.alloc o).heap.size (W.alloc o) w'):Calls Tryz.prog F cap (W.alloc o) fun e w'=>e=v∧Below (W.heap.size+1) (W.alloc o) w':=h.mono fun _ _ ⟨h1,h2⟩=>⟨h1,oI h2⟩
def jW (m:Int) (l:List TxA) (S:SA):Bool:=if dB m l S=0 then eI m.toNat l S else false
def bE (m:Int) (l:List TxA) (S:SA):List (Nat×Nat×Nat):=if dB m l S=0 then eE m.toNat l S else []
variable (la:Option Addr) (lc:Nat) (l:List TxA) (sa ra wa va:Option Addr) (sc rc tc vc:Nat) (S:SA)
theorem tR (m:Int) (w:World) (hl:IsTxs w la l) (hs:Sta w sa ra wa va S) :
  Calls Tryz.prog 178 #[.agg #[.int .i64 m,.slice la l.length lc],.agg #[.slice sa S.st.length sc,.slice ra S.rd.length rc,.slice wa S.wr.length tc,.slice va S.vs.length vc]] w fun e w'=>e=.returned (.tuple #[.bool (jW m l S),.int .i64 (dB m l S)])∧Below w.heap.size w w':=by
 have hg:Below w.heap.size w (((w.alloc (.cells #[.int .i64 m,.slice la l.length lc] 29)).alloc (.cells #[.slice sa S.st.length sc,.slice ra S.rd.length rc,.slice wa S.wr.length tc,.slice va S.vs.length vc] 45)).alloc (.cells #[.int .i64 0] 22)):=aA (aA (aA (Below.refl _ _) _) _) _
 have hU:Hid (Below w.heap.size w ((w.alloc (.cells #[.int .i64 m,.slice la l.length lc] 29)).alloc (.cells #[.slice sa S.st.length sc,.slice ra S.rd.length rc,.slice wa S.wr.length tc,.slice va S.vs.length vc] 45))):=aA (aA (Below.refl _ _) _) _
 have hmf:∀(fn:Fn) (first cap:Array Value) (w:World),(Instr.makeFunc fn first cap).run Tryz.prog w=.ok (.func fn first cap) w:=fun _ _ _ _=>rfl
 have p0:(((w.alloc (.cells #[.int .i64 m,.slice la l.length lc] 29)).alloc (.cells #[.slice sa S.st.length sc,.slice ra S.rd.length rc,.slice wa S.wr.length tc,.slice va S.vs.length vc] 45)).alloc (.cells #[.int .i64 0] 22)).cell? ⟨w.heap.size,0,none⟩=some (.int .i64 m):=aB (aA (aA (Below.refl _ _) _) _) (aG w _ 29 _ 0 _ rfl rfl)
 have p1:(((w.alloc (.cells #[.int .i64 m,.slice la l.length lc] 29)).alloc (.cells #[.slice sa S.st.length sc,.slice ra S.rd.length rc,.slice wa S.wr.length tc,.slice va S.vs.length vc] 45)).alloc (.cells #[.int .i64 0] 22)).cell? ⟨w.heap.size,1,none⟩=some (.slice la l.length lc):=aB (aA (aA (Below.refl _ _) _) _) (aG w _ 29 _ 1 _ rfl rfl)
 have q0:(((w.alloc (.cells #[.int .i64 m,.slice la l.length lc] 29)).alloc (.cells #[.slice sa S.st.length sc,.slice ra S.rd.length rc,.slice wa S.wr.length tc,.slice va S.vs.length vc] 45)).alloc (.cells #[.int .i64 0] 22)).cell? ⟨w.heap.size+1,0,none⟩=some (.slice sa S.st.length sc):=aB (aA (Below.refl _ _) _) (aG _ _ 45 _ 0 _ (by simp) rfl)
 have q1:(((w.alloc (.cells #[.int .i64 m,.slice la l.length lc] 29)).alloc (.cells #[.slice sa S.st.length sc,.slice ra S.rd.length rc,.slice wa S.wr.length tc,.slice va S.vs.length vc] 45)).alloc (.cells #[.int .i64 0] 22)).cell? ⟨w.heap.size+1,1,none⟩=some (.slice ra S.rd.length rc):=aB (aA (Below.refl _ _) _) (aG _ _ 45 _ 1 _ (by simp) rfl)
 have q2:(((w.alloc (.cells #[.int .i64 m,.slice la l.length lc] 29)).alloc (.cells #[.slice sa S.st.length sc,.slice ra S.rd.length rc,.slice wa S.wr.length tc,.slice va S.vs.length vc] 45)).alloc (.cells #[.int .i64 0] 22)).cell? ⟨w.heap.size+1,2,none⟩=some (.slice wa S.wr.length tc):=aB (aA (Below.refl _ _) _) (aG _ _ 45 _ 2 _ (by simp) rfl)
 have q3:(((w.alloc (.cells #[.int .i64 m,.slice la l.length lc] 29)).alloc (.cells #[.slice sa S.st.length sc,.slice ra S.rd.length rc,.slice wa S.wr.length tc,.slice va S.vs.length vc] 45)).alloc (.cells #[.int .i64 0] 22)).cell? ⟨w.heap.size+1,3,none⟩=some (.slice va S.vs.length vc):=aB (aA (Below.refl _ _) _) (aG _ _ 45 _ 3 _ (by simp) rfl)
 have CC:Hid (Calls Tryz.prog 137 #[.func (.func 210) #[] #[.pointer (some ⟨w.heap.size,0,none⟩),.pointer (some ⟨w.heap.size+1,0,none⟩)]] ((w.alloc (.cells #[.int .i64 m,.slice la l.length lc] 29)).alloc (.cells #[.slice sa S.st.length sc,.slice ra S.rd.length rc,.slice wa S.wr.length tc,.slice va S.vs.length vc] 45)) fun e w'=>e=.returned (.tuple #[.bool (jW m l S),.int .i64 (dB m l S)])∧Below ((w.alloc (.cells #[.int .i64 m,.slice la l.length lc] 29)).alloc (.cells #[.slice sa S.st.length sc,.slice ra S.rd.length rc,.slice wa S.wr.length tc,.slice va S.vs.length vc] 45)).heap.size ((w.alloc (.cells #[.int .i64 m,.slice la l.length lc] 29)).alloc (.cells #[.slice sa S.st.length sc,.slice ra S.rd.length rc,.slice wa S.wr.length tc,.slice va S.vs.length vc] 45)) w'):=by
  by_cases hE:dB m l S=0
  ·have e1:jW m l S=eI m.toNat l S:=if_pos hE
   obtain⟨sh,rfl,_⟩:=cK hE
   rw[e1,hE]
   refine(yH 210 _ (fun _=>rfl) (fun v _=>v=.bool (eI sh l S)) _ (fun v w' h=>h) ((over1_ok la lc l sa ra wa va sc rc tc vc S sh _ _ _ p0 p1 q0 q1 q2 q3 (hl.below hg) (hs.below hg) hE).mono ?_)).mono ?_
   ·rintro e w' ⟨rfl,hb⟩
    exact⟨_,rfl,rfl,oI hb⟩
   ·rintro e w' ⟨v,rfl,h,hb⟩
    rw[h]
    exact⟨rfl,hb⟩
  ·have e1:jW m l S=false:=if_neg hE
   rw[e1]
   exact yI 210 _ (fun _=>rfl) _ _ (pan_up (over1_pan la lc l sa ra wa va sc rc tc vc S m _ _ _ p0 p1 q0 q1 q2 q3 (hl.below hg) (hs.below hg) hE))
 have HG:Hid (Below w.heap.size w ((w.alloc (.cells #[.int .i64 m,.slice la l.length lc] 29)).alloc (.cells #[.slice sa S.st.length sc,.slice ra S.rd.length rc,.slice wa S.wr.length tc,.slice va S.vs.length vc] 45))):=hU
 clear hg hU p0 p1 q0 q1 q2 q3 hl hs
 go_enter Tryz.func178,Tryz.ntmps178
 go_wp2_with fail
 refine CC.out.mono ?_
 clear CC
 rintro e w1 ⟨rfl,hb⟩
 have B1:Hid (Below w.heap.size w w1):=aC HG.out hb
 clear hb
 go_wp2
 go_ret2
 exact⟨rfl,B1.out⟩
theorem wF (m:Int) (w:World) (hl:IsTxs w la l) (hs:Sta w sa ra wa va S) :
  Calls Tryz.prog 180 #[.agg #[.int .i64 m,.slice la l.length lc],.agg #[.slice sa S.st.length sc,.slice ra S.rd.length rc,.slice wa S.wr.length tc,.slice va S.vs.length vc]] w fun e w'=>∃a c,e=.returned (.tuple #[.slice a (bE m l S).length c,.int .i64 (dB m l S)])∧IsSteps w' a (bE m l S)∧Below w.heap.size w w':=by
 have hg:Below w.heap.size w (((w.alloc (.cells #[.int .i64 m,.slice la l.length lc] 29)).alloc (.cells #[.slice sa S.st.length sc,.slice ra S.rd.length rc,.slice wa S.wr.length tc,.slice va S.vs.length vc] 45)).alloc (.cells #[.int .i64 0] 22)):=aA (aA (aA (Below.refl _ _) _) _) _
 have hU:Hid (Below w.heap.size w ((w.alloc (.cells #[.int .i64 m,.slice la l.length lc] 29)).alloc (.cells #[.slice sa S.st.length sc,.slice ra S.rd.length rc,.slice wa S.wr.length tc,.slice va S.vs.length vc] 45))):=aA (aA (Below.refl _ _) _) _
 have hmf:∀(fn:Fn) (first cap:Array Value) (w:World),(Instr.makeFunc fn first cap).run Tryz.prog w=.ok (.func fn first cap) w:=fun _ _ _ _=>rfl
 have p0:(((w.alloc (.cells #[.int .i64 m,.slice la l.length lc] 29)).alloc (.cells #[.slice sa S.st.length sc,.slice ra S.rd.length rc,.slice wa S.wr.length tc,.slice va S.vs.length vc] 45)).alloc (.cells #[.int .i64 0] 22)).cell? ⟨w.heap.size,0,none⟩=some (.int .i64 m):=aB (aA (aA (Below.refl _ _) _) _) (aG w _ 29 _ 0 _ rfl rfl)
 have p1:(((w.alloc (.cells #[.int .i64 m,.slice la l.length lc] 29)).alloc (.cells #[.slice sa S.st.length sc,.slice ra S.rd.length rc,.slice wa S.wr.length tc,.slice va S.vs.length vc] 45)).alloc (.cells #[.int .i64 0] 22)).cell? ⟨w.heap.size,1,none⟩=some (.slice la l.length lc):=aB (aA (aA (Below.refl _ _) _) _) (aG w _ 29 _ 1 _ rfl rfl)
 have q0:(((w.alloc (.cells #[.int .i64 m,.slice la l.length lc] 29)).alloc (.cells #[.slice sa S.st.length sc,.slice ra S.rd.length rc,.slice wa S.wr.length tc,.slice va S.vs.length vc] 45)).alloc (.cells #[.int .i64 0] 22)).cell? ⟨w.heap.size+1,0,none⟩=some (.slice sa S.st.length sc):=aB (aA (Below.refl _ _) _) (aG _ _ 45 _ 0 _ (by simp) rfl)
 have q1:(((w.alloc (.cells #[.int .i64 m,.slice la l.length lc] 29)).alloc (.cells #[.slice sa S.st.length sc,.slice ra S.rd.length rc,.slice wa S.wr.length tc,.slice va S.vs.length vc] 45)).alloc (.cells #[.int .i64 0] 22)).cell? ⟨w.heap.size+1,1,none⟩=some (.slice ra S.rd.length rc):=aB (aA (Below.refl _ _) _) (aG _ _ 45 _ 1 _ (by simp) rfl)
 have q2:(((w.alloc (.cells #[.int .i64 m,.slice la l.length lc] 29)).alloc (.cells #[.slice sa S.st.length sc,.slice ra S.rd.length rc,.slice wa S.wr.length tc,.slice va S.vs.length vc] 45)).alloc (.cells #[.int .i64 0] 22)).cell? ⟨w.heap.size+1,2,none⟩=some (.slice wa S.wr.length tc):=aB (aA (Below.refl _ _) _) (aG _ _ 45 _ 2 _ (by simp) rfl)
 have q3:(((w.alloc (.cells #[.int .i64 m,.slice la l.length lc] 29)).alloc (.cells #[.slice sa S.st.length sc,.slice ra S.rd.length rc,.slice wa S.wr.length tc,.slice va S.vs.length vc] 45)).alloc (.cells #[.int .i64 0] 22)).cell? ⟨w.heap.size+1,3,none⟩=some (.slice va S.vs.length vc):=aB (aA (Below.refl _ _) _) (aG _ _ 45 _ 3 _ (by simp) rfl)
 have CC:Hid (Calls Tryz.prog 212 #[.func (.func 213) #[] #[.pointer (some ⟨w.heap.size,0,none⟩),.pointer (some ⟨w.heap.size+1,0,none⟩)]] ((w.alloc (.cells #[.int .i64 m,.slice la l.length lc] 29)).alloc (.cells #[.slice sa S.st.length sc,.slice ra S.rd.length rc,.slice wa S.wr.length tc,.slice va S.vs.length vc] 45)) fun e w'=>∃a c,e=.returned (.tuple #[.slice a (bE m l S).length c,.int .i64 (dB m l S)])∧IsSteps w' a (bE m l S)∧Below ((w.alloc (.cells #[.int .i64 m,.slice la l.length lc] 29)).alloc (.cells #[.slice sa S.st.length sc,.slice ra S.rd.length rc,.slice wa S.wr.length tc,.slice va S.vs.length vc] 45)).heap.size ((w.alloc (.cells #[.int .i64 m,.slice la l.length lc] 29)).alloc (.cells #[.slice sa S.st.length sc,.slice ra S.rd.length rc,.slice wa S.wr.length tc,.slice va S.vs.length vc] 45)) w'):=by
  by_cases hE:dB m l S=0
  ·have e1:bE m l S=eE m.toNat l S:=if_pos hE
   obtain⟨sh,rfl,_⟩:=cK hE
   rw[e1,hE]
   refine(xZ 213 _ (fun _=>rfl) (fun v w'=>w'.ownsRow (((w.alloc (.cells #[.int .i64 (sh:Int),.slice la l.length lc] 29)).alloc (.cells #[.slice sa S.st.length sc,.slice ra S.rd.length rc,.slice wa S.wr.length tc,.slice va S.vs.length vc] 45)).heap.size+1) 33 3 v (eE sh l S).length (aS (eE sh l S))) _ (fun v w' h=>dN h (aP w' _ 0 _) (fun j e q=>by have:=(h.lt j e).1;injection q with q;omega)) ((can1_ok la lc l sa ra wa va sc rc tc vc S sh _ _ _ p0 p1 q0 q1 q2 q3 (hl.below hg) (hs.below hg) hE).mono ?_)).mono ?_
   ·rintro e w' ⟨v,rfl,ho,hb⟩
    exact⟨_,rfl,by simpa using ho,oI hb⟩
   ·rintro e w' ⟨v,rfl,ho,hb⟩
    obtain⟨a,c,rfl,h⟩:=lR ho rfl
    exact⟨a,c,rfl,h,hb⟩
  ·have e1:bE m l S=[]:=if_neg hE
   rw[e1]
   refine(yA 213 _ (fun _=>rfl) _ _ (pan_up (can1_pan la lc l sa ra wa va sc rc tc vc S m _ _ _ p0 p1 q0 q1 q2 q3 (hl.below hg) (hs.below hg) hE))).mono ?_
   rintro e w' ⟨rfl,hb⟩
   exact⟨none,0,rfl,fun _ hi=>absurd hi (Nat.not_lt_zero _),hb⟩
 have HG:Hid (Below w.heap.size w ((w.alloc (.cells #[.int .i64 m,.slice la l.length lc] 29)).alloc (.cells #[.slice sa S.st.length sc,.slice ra S.rd.length rc,.slice wa S.wr.length tc,.slice va S.vs.length vc] 45))):=hU
 clear hg hU p0 p1 q0 q1 q2 q3 hl hs
 go_enter Tryz.func180,Tryz.ntmps180
 go_wp2_with fail
 refine CC.out.mono ?_
 clear CC
 rintro e w1 ⟨a,c,rfl,h,hb⟩
 have B1:Hid (Below w.heap.size w w1):=aC HG.out hb
 have H1:Hid (IsSteps w1 a (bE m l S)):=h
 clear hb h
 go_wp2
 go_ret2
 exact⟨a,c,rfl,H1.out,B1.out⟩
end
end Go.Proofs.YtcgpkonfneofdaaGreatDoor
