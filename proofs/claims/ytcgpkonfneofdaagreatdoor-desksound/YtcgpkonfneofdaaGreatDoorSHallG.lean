/- Conditions: those that each theorem states. -/
import Derived.Test.YtcgpkonfneofdaaGreatDoorSHallI
set_option maxRecDepth 100000
set_option maxHeartbeats 8000000
namespace Go.Proofs.YtcgpkonfneofdaaGreatDoor
open Go.RowKit
section
theorem stepE_kind {sh:Nat} {l:List TxA} {S:SA} {kd n k:Int} (h1:¬kd=1) (h2:¬kd=2):bW sh l S kd n k=4:=by
 unfold bW;rw[if_neg (by omega)]
theorem stepE_out {sh:Nat} {l:List TxA} {S:SA} {kd n k:Int} (h:kd=1∨kd=2) (ho:n<0∨(l.length:Int)≤n∨k<0∨(sh:Int)≤k):bW sh l S kd n k=5:=by
 unfold bW;rw[if_pos h,if_pos ho]
theorem zE {sh:Nat} {l:List TxA} {S:SA} {kd n k:Nat} (h:kd=1∨kd=2) (hn:n<l.length) (hk:k<sh):bW sh l S kd n k=if lN sh l kd n k then (if jP S kd n k then 7 else if dU sh l S kd n k then 0 else 6) else 5:=by
 unfold bW
 rw[if_pos (by omega),if_neg (by omega)]
 rfl
variable {w:World} {h sh:Nat} {l:List TxA} {S:SA} {A:HA}
theorem rJ (kd n k:Int) (h1:¬kd=1) (h2:¬kd=2) (w:World) :
  Calls Tryz.prog 195 #[.pointer (some ⟨h,0,none⟩),.agg #[.int .i64 kd,.int .i64 n,.int .i64 k]] w fun e w'=>e=.returned (.int .i64 4)∧Below w.heap.size w w':=by
 have e1:Hid (Below w.heap.size w (w.alloc (.cells #[.int .i64 kd,.int .i64 n,.int .i64 k] 33))):=aA (Below.refl _ _) _
 have c0:(w.alloc (.cells #[.int .i64 kd,.int .i64 n,.int .i64 k] 33)).cell? ⟨w.heap.size,0,none⟩=some (.int .i64 kd):=by simp
 have d1:(kd != 1)=true:=by simpa using h1
 have d2:(kd != 2)=true:=by simpa using h2
 go_enter Tryz.func195,Tryz.ntmps195
 go_wp2
 go_ret
 exact⟨rfl,e1.out⟩
theorem tT (H:Hall w h sh l S A) (kd:Nat) (hkd:kd=1∨kd=2) (n k:Int) (ho:n<0∨(l.length:Int)≤n∨k<0∨(sh:Int)≤k) :
  Calls Tryz.prog 195 #[.pointer (some ⟨h,0,none⟩),.agg #[.int .i64 kd,.int .i64 n,.int .i64 k]] w fun e w'=>e=.returned (.int .i64 5)∧Below w.heap.size w w':=by
 have e1:Hid (Below w.heap.size w (w.alloc (.cells #[.int .i64 kd,.int .i64 n,.int .i64 k] 33))):=aA (Below.refl _ _) _
 have c0:(w.alloc (.cells #[.int .i64 kd,.int .i64 n,.int .i64 k] 33)).cell? ⟨w.heap.size,0,none⟩=some (.int .i64 kd):=by simp
 have c1:(w.alloc (.cells #[.int .i64 kd,.int .i64 n,.int .i64 k] 33)).cell? ⟨w.heap.size,1,none⟩=some (.int .i64 n):=by simp
 have c2:(w.alloc (.cells #[.int .i64 kd,.int .i64 n,.int .i64 k] 33)).cell? ⟨w.heap.size,2,none⟩=some (.int .i64 k):=by simp
 have CB:Hid (Calls Tryz.prog 237 #[.pointer (some ⟨h,0,none⟩),.agg #[.int .i64 kd,.int .i64 n,.int .i64 k]] (w.alloc (.cells #[.int .i64 kd,.int .i64 n,.int .i64 k] 33)) fun e w'=>e=.returned (.bool false)∧Below (w.alloc (.cells #[.int .i64 kd,.int .i64 n,.int .i64 k] 33)).heap.size (w.alloc (.cells #[.int .i64 kd,.int .i64 n,.int .i64 k] 33)) w'):=belongs_out (H.below e1.out) kd n k ho
 clear H ho
 rcases hkd with rfl | rfl
 ·go_enter Tryz.func195,Tryz.ntmps195
  go_wp2_with fail
  refine CB.out.mono ?_
  rintro e w1 ⟨rfl,hb⟩
  have B1:Hid (Below w.heap.size w w1):=aC e1.out hb
  clear hb CB c0 c1 c2
  go_wp2
  go_ret
  exact⟨rfl,B1.out⟩
 ·go_enter Tryz.func195,Tryz.ntmps195
  go_wp2_with fail
  refine CB.out.mono ?_
  rintro e w1 ⟨rfl,hb⟩
  have B1:Hid (Below w.heap.size w w1):=aC e1.out hb
  clear hb CB c0 c1 c2
  go_wp2
  go_ret
  exact⟨rfl,B1.out⟩
theorem mW (H:Hall w h sh l S A) (kd:Nat) (hkd:kd=1∨kd=2) {n k:Nat} (hn:n<l.length) (hk:k<sh) :
  Calls Tryz.prog 195 #[.pointer (some ⟨h,0,none⟩),.agg #[.int .i64 kd,.int .i64 n,.int .i64 k]] w fun e w'=>e=.returned (.int .i64 (bW sh l S kd n k))∧Below w.heap.size w w':=by
 have e1:Hid (Below w.heap.size w (w.alloc (.cells #[.int .i64 kd,.int .i64 n,.int .i64 k] 33))):=aA (Below.refl _ _) _
 have c0:(w.alloc (.cells #[.int .i64 kd,.int .i64 n,.int .i64 k] 33)).cell? ⟨w.heap.size,0,none⟩=some (.int .i64 kd):=by simp
 have c1:(w.alloc (.cells #[.int .i64 kd,.int .i64 n,.int .i64 k] 33)).cell? ⟨w.heap.size,1,none⟩=some (.int .i64 n):=by simp
 have c2:(w.alloc (.cells #[.int .i64 kd,.int .i64 n,.int .i64 k] 33)).cell? ⟨w.heap.size,2,none⟩=some (.int .i64 k):=by simp
 have HH:Hid (Hall (w.alloc (.cells #[.int .i64 kd,.int .i64 n,.int .i64 k] 33)) h sh l S A):=H.below e1.out
 have CB:Hid (Calls Tryz.prog 237 #[.pointer (some ⟨h,0,none⟩),.agg #[.int .i64 kd,.int .i64 n,.int .i64 k]] (w.alloc (.cells #[.int .i64 kd,.int .i64 n,.int .i64 k] 33)) fun e w'=>e=.returned (.bool (lN sh l kd n k))∧Below (w.alloc (.cells #[.int .i64 kd,.int .i64 n,.int .i64 k] 33)).heap.size (w.alloc (.cells #[.int .i64 kd,.int .i64 n,.int .i64 k] 33)) w'):=belongs_in HH.out kd hkd hn hk
 have CD:Hid (∀w1,Below (w.alloc (.cells #[.int .i64 kd,.int .i64 n,.int .i64 k] 33)).heap.size (w.alloc (.cells #[.int .i64 kd,.int .i64 n,.int .i64 k] 33)) w1→Calls Tryz.prog 238 #[.pointer (some ⟨h,0,none⟩),.agg #[.int .i64 kd,.int .i64 n,.int .i64 k]] w1 fun e w'=>e=.returned (.bool (jP S kd n k))∧Below w1.heap.size w1 w'):=fun w1 hb=>done_any (HH.out.below hb) kd hkd hn hk
 have CM:Hid (∀w1,Below (w.alloc (.cells #[.int .i64 kd,.int .i64 n,.int .i64 k] 33)).heap.size (w.alloc (.cells #[.int .i64 kd,.int .i64 n,.int .i64 k] 33)) w1→Calls Tryz.prog 239 #[.pointer (some ⟨h,0,none⟩),.agg #[.int .i64 kd,.int .i64 n,.int .i64 k]] w1 fun e w'=>e=.returned (.bool (dU sh l S kd n k))∧Below w1.heap.size w1 w'):=fun w1 hb=>may_any (HH.out.below hb) kd hkd hn hk
 rw[zE hkd hn hk]
 have KC:Hid (∀w1,Below (w.alloc (.cells #[.int .i64 kd,.int .i64 n,.int .i64 k] 33)).heap.size (w.alloc (.cells #[.int .i64 kd,.int .i64 n,.int .i64 k] 33)) w1→w1.cell? ⟨w.heap.size,0,none⟩=some (.int .i64 kd)∧w1.cell? ⟨w.heap.size,1,none⟩=some (.int .i64 n)∧w1.cell? ⟨w.heap.size,2,none⟩=some (.int .i64 k)):=fun w1 hb=>⟨aB hb c0,aB hb c1,aB hb c2⟩
 have hkk:(((kd:Int) != 1)=false)∨(((kd:Int) != 1)=true∧((kd:Int) != 2)=false):=by
  rcases hkd with rfl | rfl
  ·exact .inl rfl
  ·exact .inr ⟨rfl,rfl⟩
 have HK:Hid ((((kd:Int) != 1)=false)∨(((kd:Int) != 1)=true∧((kd:Int) != 2)=false)):=hkk
 clear H HH hkk hkd
 generalize lN sh l kd n k=P at *
 generalize jP S kd n k=Q at *
 generalize dU sh l S kd n k=R at *
 rcases HK.out with d1 | ⟨d1,d2⟩
 ·clear HK
  go_enter Tryz.func195,Tryz.ntmps195
  go_wp2_with fail
  refine CB.out.mono ?_
  rintro e w1 ⟨rfl,hb⟩
  have B1:Hid (Below (w.alloc (.cells #[.int .i64 kd,.int .i64 n,.int .i64 k] 33)).heap.size (w.alloc (.cells #[.int .i64 kd,.int .i64 n,.int .i64 k] 33)) w1):=hb
  clear hb CB c0 c1 c2
  cases P
  ·have FIN:Hid (Below w.heap.size w w1):=aC e1.out B1.out
   clear KC CD CM
   go_wp2
   go_ret
   exact⟨rfl,FIN.out⟩
  ·obtain⟨c0,c1,c2⟩:=KC.out w1 B1.out
   go_wp2_with fail
   refine(CD.out w1 B1.out).mono ?_
   rintro e w2 ⟨rfl,hb⟩
   have B2:Hid (Below (w.alloc (.cells #[.int .i64 kd,.int .i64 n,.int .i64 k] 33)).heap.size (w.alloc (.cells #[.int .i64 kd,.int .i64 n,.int .i64 k] 33)) w2):=aC B1.out hb
   clear hb CD c0 c1 c2
   cases Q
   rotate_left
   ·have FIN:Hid (Below w.heap.size w w2):=aC e1.out B2.out
    clear KC CM
    go_wp2
    go_ret
    exact⟨rfl,FIN.out⟩
   ·obtain⟨c0,c1,c2⟩:=KC.out w2 B2.out
    go_wp2_with fail
    refine(CM.out w2 B2.out).mono ?_
    rintro e w3 ⟨rfl,hb⟩
    have FIN:Hid (Below w.heap.size w w3):=aC e1.out (aC B2.out hb)
    clear hb CM c0 c1 c2 KC
    cases R
    ·go_wp2
     go_ret
     exact⟨rfl,FIN.out⟩
    ·go_wp2
     go_ret
     exact⟨rfl,FIN.out⟩
 ·clear HK
  go_enter Tryz.func195,Tryz.ntmps195
  go_wp2_with fail
  refine CB.out.mono ?_
  rintro e w1 ⟨rfl,hb⟩
  have B1:Hid (Below (w.alloc (.cells #[.int .i64 kd,.int .i64 n,.int .i64 k] 33)).heap.size (w.alloc (.cells #[.int .i64 kd,.int .i64 n,.int .i64 k] 33)) w1):=hb
  clear hb CB c0 c1 c2
  cases P
  ·have FIN:Hid (Below w.heap.size w w1):=aC e1.out B1.out
   clear KC CD CM
   go_wp2
   go_ret
   exact⟨rfl,FIN.out⟩
  ·obtain⟨c0,c1,c2⟩:=KC.out w1 B1.out
   go_wp2_with fail
   refine(CD.out w1 B1.out).mono ?_
   rintro e w2 ⟨rfl,hb⟩
   have B2:Hid (Below (w.alloc (.cells #[.int .i64 kd,.int .i64 n,.int .i64 k] 33)).heap.size (w.alloc (.cells #[.int .i64 kd,.int .i64 n,.int .i64 k] 33)) w2):=aC B1.out hb
   clear hb CD c0 c1 c2
   cases Q
   rotate_left
   ·have FIN:Hid (Below w.heap.size w w2):=aC e1.out B2.out
    clear KC CM
    go_wp2
    go_ret
    exact⟨rfl,FIN.out⟩
   ·obtain⟨c0,c1,c2⟩:=KC.out w2 B2.out
    go_wp2_with fail
    refine(CM.out w2 B2.out).mono ?_
    rintro e w3 ⟨rfl,hb⟩
    have FIN:Hid (Below w.heap.size w w3):=aC e1.out (aC B2.out hb)
    clear hb CM c0 c1 c2 KC
    cases R
    ·go_wp2
     go_ret
     exact⟨rfl,FIN.out⟩
    ·go_wp2
     go_ret
     exact⟨rfl,FIN.out⟩
theorem lS (H:Hall w h sh l S A) (kd n k:Int) :
  Calls Tryz.prog 195 #[.pointer (some ⟨h,0,none⟩),.agg #[.int .i64 kd,.int .i64 n,.int .i64 k]] w fun e w'=>e=.returned (.int .i64 (bW sh l S kd n k))∧Below w.heap.size w w':=by
 by_cases hk:kd=1∨kd=2
 ·obtain⟨K,hK,rfl⟩:∃K:Nat,(K=1∨K=2)∧kd=K:=by
   rcases hk with rfl | rfl
   ·exact⟨1,.inl rfl,rfl⟩
   ·exact⟨2,.inr rfl,rfl⟩
  by_cases ho:n<0∨(l.length:Int)≤n∨k<0∨(sh:Int)≤k
  ·rw[stepE_out hk ho]
   exact tT H K hK n k ho
  ·obtain⟨N,rfl⟩:∃N:Nat,n=N:=⟨n.toNat,by omega⟩
   obtain⟨K',rfl⟩:∃K':Nat,k=K':=⟨k.toNat,by omega⟩
   exact mW H K hK (by omega) (by omega)
 ·rw[stepE_kind (by omega) (by omega)]
  exact rJ kd n k (by omega) (by omega) w
end
section
def aS (L:List (Nat×Nat×Nat)):List Value:=L.flatMap fun p=>[.int .i64 p.1,.int .i64 p.2.1,.int .i64 p.2.2]
theorem tK (l m:List (Nat×Nat×Nat)):aS (l++m)=aS l++aS m:=by simp[aS]
theorem mP:∀l:List (Nat×Nat×Nat),(aS l).length=l.length*3
 | []=>rfl
 | p::t=>by
  have e:aS (p::t)=Value.int .i64 p.1::Value.int .i64 p.2.1::Value.int .i64 p.2.2::aS t:=by simp[aS]
  rw[e]
  simp[mP t]
  omega
def IsSteps (w:World) (a:Option Addr) (L:List (Nat×Nat×Nat)):Prop:=
 ∀i,i<L.length→∃b off,a=some ⟨b,off,none⟩∧b<w.heap.size∧w.cell? ⟨b,off+i*3,none⟩=some (.int .i64 (L.getD i (0,0,0)).1)∧w.cell? ⟨b,off+i*3+1,none⟩=some (.int .i64 (L.getD i (0,0,0)).2.1)∧w.cell? ⟨b,off+i*3+2,none⟩=some (.int .i64 (L.getD i (0,0,0)).2.2)
theorem IsSteps.below {w w':World} {a:Option Addr} {l:List (Nat×Nat×Nat)} (h:IsSteps w a l) (hb:Below w.heap.size w w'):IsSteps w' a l:=by
 intro i hi
 obtain⟨b,off,ha,hlt,h0,h1,h2⟩:=h i hi
 exact⟨b,off,ha,Nat.lt_of_lt_of_le hlt hb.size,aB hb h0,aB hb h1,aB hb h2⟩
theorem iF:∀(l:List (Nat×Nat×Nat)) (i:Nat),i<l.length→(aS l)[i*3]?=some (.int .i64 (l.getD i (0,0,0)).1)∧(aS l)[i*3+1]?=some (.int .i64 (l.getD i (0,0,0)).2.1)∧(aS l)[i*3+2]?=some (.int .i64 (l.getD i (0,0,0)).2.2)
 | [],i,h=>by simp at h
 | p::t,0,_=>by simp[aS]
 | p::t,i+1,h=>by
  have:=iF t i (by simpa using h)
  have e:aS (p::t)=Value.int .i64 p.1::Value.int .i64 p.2.1::Value.int .i64 p.2.2::aS t:=by simp[aS]
  rw[e]
  have e1:(i+1)*3=i*3+1+1+1:=by omega
  rw[e1]
  simpa using this
theorem tJ:∀(l:List (Nat×Nat×Nat)),∀u∈aS l,u.oneCell'=true
 | [],u,h=>by cases h
 | p::t,u,h=>by
  have e:aS (p::t)=Value.int .i64 p.1::Value.int .i64 p.2.1::Value.int .i64 p.2.2::aS t:=by simp[aS]
  rw[e]at h
  simp only[List.mem_cons]at h
  rcases h with rfl | rfl | rfl | h
  ·rfl
  ·rfl
  ·rfl
  ·exact tJ t u h
theorem lR {w:World} {base:Nat} {v:Value} {n:Nat} {l:List (Nat×Nat×Nat)} (h:w.ownsRow base 33 3 v n (aS l)) (hn:l.length=n):∃a cap,v=.slice a l.length cap∧IsSteps w a l:=by
 rcases h.2 with ⟨rfl,h0⟩ | ⟨g,cap,cur,rfl,hb,hg,hnc,hcm,hcs,htake⟩
 ·refine⟨none,0,by rw[hn,h0],fun i hi=>?_⟩
  omega
 ·refine⟨some ⟨g,0,none⟩,cap,by rw[hn],fun i hi=>⟨g,0,rfl,(Array.getElem?_eq_some_iff.1 hg).1,?_,?_,?_⟩⟩
  ·rw[Nat.zero_add,h.cellAt (i*3) (by omega)]
   exact(iF l i hi).1
  ·rw[Nat.zero_add,h.cellAt (i*3+1) (by omega)]
   exact(iF l i hi).2.1
  ·rw[Nat.zero_add,h.cellAt (i*3+2) (by omega)]
   exact(iF l i hi).2.2
theorem news_st (w:World) (x y z:Int) (s:Nat) (hs:s=w.heap.size):∀j u,[Value.int .i64 x,Value.int .i64 y,Value.int .i64 z][j]?=some u→(w.alloc (.cells #[.int .i64 x,.int .i64 y,.int .i64 z] 33)).cell? ((⟨s,0,none⟩:Addr).add j)=some u:=by
 subst hs
 intro j u hj
 match j,hj with
 | 0,hj=>simp at hj;subst hj;simp[Addr.add]
 | 1,hj=>simp at hj;subst hj;simp[Addr.add]
 | 2,hj=>simp at hj;subst hj;simp[Addr.add]
theorem one_st (x y z:Int):∀u∈[Value.int .i64 x,Value.int .i64 y,Value.int .i64 z],u.oneCell'=true:=by
 intro u hu
 simp at hu
 rcases hu with rfl | rfl | rfl <;> rfl
theorem Tryz.info33:(Tryz.prog.info? 33).map (fun i=>(i.zero,i.size,i.bytes))=some (some (.agg #[.int .i64 0,.int .i64 0,.int .i64 0]),3,24):=by kernel_rfl
theorem own_st {w:World} {C a n m:Nat} {v:Value} {L:List (Nat×Nat×Nat)} (h:w.ownsRow C 33 3 v (L.length+1) (aS L++[.int .i64 a,.int .i64 n,.int .i64 m])):w.ownsRow C 33 3 v (L++[(a,n,m)]).length (aS (L++[(a,n,m)])):=by
 rw[tK,List.length_append];exact h
theorem may_stepE {sh:Nat} {l:List TxA} {S:SA} {kd n k:Nat} (h:kd=1∨kd=2) (hn:n<l.length) (hk:k<sh):((bW sh l S kd n k==0)=dW sh l S kd n k):=by
 rw[zE h hn hk]
 unfold dW
 cases lN sh l kd n k <;> cases jP S kd n k <;> cases dU sh l S kd n k <;> rfl
variable {w:World} {h sh:Nat} {l:List TxA} {S:SA} {A:HA}
theorem can_own (H:Hall w h sh l S A) (kd:Nat) (hkd:kd=1∨kd=2) :
  Calls Tryz.prog 214 #[.pointer (some ⟨h,0,none⟩),.int .i64 kd] w fun e w'=>∃v,e=.returned v∧w'.ownsRow w.heap.size 33 3 v (gJ sh l S kd).length (aS (gJ sh l S kd))∧Below w.heap.size w w':=by
 obtain⟨i0,hi,hz0,hz1,hz2⟩:=info_parts Tryz.info33
 have HH:Hid (Hall w h sh l S A):=H
 have HK:Hid (kd=1∨kd=2):=hkd
 have x0:=H.h0
 have p0:=H.p0
 have p1:=H.p1
 have hl8:=H.l8
 have hs4:=H.s4
 clear H hkd
 go_enter Tryz.func214,Tryz.ntmps214
 go_wp2
 go_loopw [5,17] (fun v i wr=>∃n:Nat,n≤l.length∧i=.int .i64 n∧Hid (wr.ownsRow w.heap.size 33 3 v (iG sh l S kd n).length (aS (iG sh l S kd n)))∧Hid (Below w.heap.size w wr)) (fun _ i _=>l.length - (intOf i).toNat)
 case atStart=>exact⟨0,Nat.zero_le _,rfl,World.ownsRow_nil _ _ _ _,Below.refl _ _⟩
 case round=>
  obtain⟨n,hn',rfl,hown,hnx⟩:=hrel
  by_cases hlt:n<l.length
  ·have x0':=aB hnx.out x0
   have p0':=aB hnx.out p0
   have i1:(n:Int)<(l.length:Int):=by omega
   go_wp2
   have ho0:Hid (wr.ownsRow w.heap.size 33 3 u5 (iG sh l S kd n++fP sh l S kd n 0).length (aS (iG sh l S kd n++fP sh l S kd n 0))):=by
    have e:fP sh l S kd n 0=[]:=rfl
    rw[e,List.append_nil];exact hown.out
   clear hown x0' p0'
   go_loopw [5,27] (fun v i wq=>∃m:Nat,m≤sh∧i=.int .i64 m∧Hid (wq.ownsRow w.heap.size 33 3 v (iG sh l S kd n++fP sh l S kd n m).length (aS (iG sh l S kd n++fP sh l S kd n m)))∧Hid (Below w.heap.size w wq)) (fun _ i _=>sh - (intOf i).toNat)
   case atStart=>exact⟨0,Nat.zero_le _,rfl,ho0,hnx⟩
   case round=>
    clear ho0 hnx
    obtain⟨m,hm,rfl,hown,hB⟩:=hrel
    by_cases hlt2:m<sh
    ·have HS:Hid (fP sh l S kd n (m+1)=fP sh l S kd n m++(if dW sh l S kd n m then [(kd,n,m)] else [])):=canR_step sh l S kd n m
     have ST:Hid (∀w',Below w.heap.size w w'→Calls Tryz.prog 195 #[.pointer (some ⟨h,0,none⟩),.agg #[.int .i64 kd,.int .i64 n,.int .i64 m]] w' fun e w''=>e=.returned (.int .i64 (bW sh l S kd n m))∧Below w'.heap.size w' w''):=fun w' hb=>mW (HH.out.below hb) kd HK.out hlt hlt2
     have HM:Hid ((bW sh l S kd n m==0)=dW sh l S kd n m):=may_stepE HK.out hlt hlt2
     have hlen:(iG sh l S kd n++fP sh l S kd n m).length≤100:=by
      have h1:=jR sh l S kd n
      have h2:=canR_len sh l S kd n m
      have h3:n*sh≤8*4:=Nat.mul_le_mul (by omega) (by omega)
      rw[List.length_append]
      omega
     generalize bW sh l S kd n m=E at *
     generalize dW sh l S kd n m=M at *
     have i3:(m:Int)<(sh:Int):=by omega
     have hU:Hid (Below w.heap.size w (wr.alloc (.cells #[.int .i64 kd,.int .i64 n,.int .i64 m] 33))):=aA hB.out _
     have c0:(wr.alloc (.cells #[.int .i64 kd,.int .i64 n,.int .i64 m] 33)).cell? ⟨wr.heap.size,0,none⟩=some (.int .i64 kd):=by simp
     have c1:(wr.alloc (.cells #[.int .i64 kd,.int .i64 n,.int .i64 m] 33)).cell? ⟨wr.heap.size,1,none⟩=some (.int .i64 n):=by simp
     have c2:(wr.alloc (.cells #[.int .i64 kd,.int .i64 n,.int .i64 m] 33)).cell? ⟨wr.heap.size,2,none⟩=some (.int .i64 m):=by simp
     have ho1:Hid ((wr.alloc (.cells #[.int .i64 kd,.int .i64 n,.int .i64 m] 33)).ownsRow w.heap.size 33 3 u5 (iG sh l S kd n++fP sh l S kd n m).length (aS (iG sh l S kd n++fP sh l S kd n m))):=hown.out.alloc _
     clear hown hB
     go_wp2_with fail
     generalize (wr.alloc (.cells #[.int .i64 kd,.int .i64 n,.int .i64 m] 33))=V at *
     refine(ST.out _ hU.out).mono ?_
     rintro e w1 ⟨rfl,hb1⟩
     have d0:=aB hb1 c0
     have d1:=aB hb1 c1
     have d2:=aB hb1 c2
     have ho2:=dA ho1.out hb1
     have HB1:Hid (Below w.heap.size w w1):=aC hU.out hb1
     have hsz:w.heap.size≤w1.heap.size:=HB1.out.size
     clear hb1 ST hU c0 c1 c2 ho1
     cases hM:M with
     | true=>
      have HE:(E==0)=true:=HM.out.trans hM
      rw[hM]at HS
      clear HM
      go_wp2_with (first | (at_builtin;(refine wpList_append_own _ rfl _ _ 30 rfl w.heap.size 33 i0 (.agg #[.int .i64 0,.int .i64 0,.int .i64 0]) 3 24 Tryz.underlying30 hi hz0 hz1 hz2 rfl (by decide) _ _ _ rfl (ho2.alloc _) _ 1 1 [.int .i64 kd,.int .i64 n,.int .i64 m] rfl rfl (news_st _ _ _ _ _ (by simp)) (one_st _ _ _) (by unfold maxLen;omega) (by omega) (by simp;omega) ?_);intro v' w3 hown' hgrow _) | go_in)
      have R:Hid (w3.ownsRow w.heap.size 33 3 v' (iG sh l S kd n++fP sh l S kd n (m+1)).length (aS (iG sh l S kd n++fP sh l S kd n (m+1)))):=by
       have e:fP sh l S kd n (m+1)=fP sh l S kd n m++[(kd,n,m)]:=by rw[HS.out];simp
       rw[e,←List.append_assoc];exact own_st hown'
      have RB:Hid (Below w.heap.size w w3):=(HB1.out.alloc hsz _).grown hgrow (by simp;omega) (fun j hj=>(ho2.lt j hj).1)
      clear hown' hgrow ho2 HS d0 d1 d2 HB1
      go_wp2
      go_roundw
      case rel=>exact⟨m+1,by omega,by go_num,R,RB⟩
      case measure=>simp[intOf];omega
     | false=>
      have HE:(E==0)=false:=HM.out.trans hM
      rw[hM]at HS
      clear HM
      have R:Hid (w1.ownsRow w.heap.size 33 3 u5 (iG sh l S kd n++fP sh l S kd n (m+1)).length (aS (iG sh l S kd n++fP sh l S kd n (m+1)))):=by
       have e:fP sh l S kd n (m+1)=fP sh l S kd n m:=by rw[HS.out];simp
       rw[e];exact ho2
      clear ho2 HS d0 d1 d2
      go_wp2
      go_roundw
      case rel=>exact⟨m+1,by omega,by go_num,R,HB1⟩
      case measure=>simp[intOf];omega
    ·have hmm:m=sh:=by omega
     have R:Hid (wr.ownsRow w.heap.size 33 3 u5 (iG sh l S kd (n+1)).length (aS (iG sh l S kd (n+1)))):=by
      have h:=hown.out
      rw[hmm]at h
      rw[vP]
      exact h
     have i3:¬(m:Int)<(sh:Int):=by omega
     clear hown
     go_wp2
     go_roundw
     case rel=>exact⟨n+1,by omega,by go_num,R,hB⟩
     case measure=>simp[intOf];omega
  ·have hnn:n=l.length:=by omega
   have R:Hid (wr.ownsRow w.heap.size 33 3 u5 (gJ sh l S kd).length (aS (gJ sh l S kd))):=by
    have h:=hown.out
    rw[hnn]at h
    exact h
   have i1:¬(n:Int)<(l.length:Int):=by omega
   clear hown
   go_wp2
   go_ret
   exact⟨_,rfl,R.out,hnx.out⟩
end
end Go.Proofs.YtcgpkonfneofdaaGreatDoor
