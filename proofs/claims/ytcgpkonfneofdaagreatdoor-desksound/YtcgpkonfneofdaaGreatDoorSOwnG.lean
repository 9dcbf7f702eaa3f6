/- Conditions: those that each theorem states. -/
import Derived.Test.YtcgpkonfneofdaaGreatDoorSOwnE
import Derived.Test.YtcgpkonfneofdaaGreatDoorSHallO
set_option maxRecDepth 100000
set_option maxHeartbeats 8000000
namespace Go.Proofs.YtcgpkonfneofdaaGreatDoor
open Go.RowKit
section
variable (la:Option Addr) (lc:Nat) (l:List TxA) (sa ra wa va:Option Addr) (sc rc tc vc:Nat) (S:SA)
theorem mC {sh:Nat} {l:List TxA} {S:SA} {kd n k:Int} (h:bW sh l S kd n k=0):∃K N k':Nat,kd=K∧n=N∧k=k'∧(K=1∨K=2)∧N<l.length∧k'<sh∧lN sh l K N k'=true∧jP S K N k'=false∧dU sh l S K N k'=true:=by
 unfold bW at h
 by_cases h1:kd=1∨kd=2
 ·rw[if_pos h1]at h
  by_cases h2:n<0∨(l.length:Int)≤n∨k<0∨(sh:Int)≤k
  ·rw[if_pos h2]at h;cases h
  ·rw[if_neg h2]at h
   by_cases h3:lN sh l kd.toNat n.toNat k.toNat=true
   ·rw[if_pos h3]at h
    by_cases h4:jP S kd.toNat n.toNat k.toNat=true
    ·rw[if_pos h4]at h;cases h
    ·rw[if_neg h4]at h
     by_cases h5:dU sh l S kd.toNat n.toNat k.toNat=true
     ·exact⟨kd.toNat,n.toNat,k.toNat,by omega,by omega,by omega,by omega,by omega,by omega,h3,by simpa using h4,h5⟩
     ·rw[if_neg h5]at h;cases h
   ·rw[if_neg h3]at h;cases h
 ·rw[if_neg h1]at h;cases h
theorem do1_pan (m:Int) (p q r:Nat) (w:World) (p0:w.cell? ⟨p,0,none⟩=some (.int .i64 m)) (p1:w.cell? ⟨p,1,none⟩=some (.slice la l.length lc)) (q0:w.cell? ⟨q,0,none⟩=some (.slice sa S.st.length sc)) (q1:w.cell? ⟨q,1,none⟩=some (.slice ra S.rd.length rc)) (q2:w.cell? ⟨q,2,none⟩=some (.slice wa S.wr.length tc)) (q3:w.cell? ⟨q,3,none⟩=some (.slice va S.vs.length vc)) (hl:IsTxs w la l) (hs:Sta w sa ra wa va S) (hE:¬dB m l S=0) :
  Calls Tryz.prog 193 #[.pointer (some ⟨p,0,none⟩),.pointer (some ⟨q,0,none⟩),.pointer (some ⟨r,0,none⟩)] w fun e w'=>e=.panicked [{v:=.iface 22 (.int .i64 (dB m l S)),recovered:=false}]∧Below w.heap.size w w':=by
 obtain⟨W,hWe⟩:∃W:World,W=(w.alloc (.cells #[.slice none 0 0,.slice none 0 0,.slice none 0 0,.slice none 0 0] 45)):=⟨_,rfl⟩
 have hg0:Below w.heap.size w W:=by subst hWe;exact aA (Below.refl _ _) _
 have p0':=aB hg0 p0
 have p1':=aB hg0 p1
 have q0':=aB hg0 q0
 have q1':=aB hg0 q1
 have q2':=aB hg0 q2
 have q3':=aB hg0 q3
 have HG:Hid (Below w.heap.size w W):=hg0
 have CH:Hid (Calls Tryz.prog 194 #[.agg #[.int .i64 m,.slice la l.length lc],.agg #[.slice sa S.st.length sc,.slice ra S.rd.length rc,.slice wa S.wr.length tc,.slice va S.vs.length vc]] W fun e w'=>e=.panicked [{v:=.iface 22 (.int .i64 (dB m l S)),recovered:=false}]∧Below W.heap.size W w'):=sY la lc l sa ra wa va sc rc tc vc S m _ (hl.below hg0) (hs.below hg0) hE
 clear hl hs hE hg0 p0 p1 q0 q1 q2 q3
 have HWe:Hid (W=_):=hWe
 clear hWe
 go_enter Tryz.func193,Tryz.ntmps193
 go_upto_region 1 with fail
 rw[←HWe.out]
 clear HWe
 go_wp2_with fail
 refine CH.out.mono ?_
 rintro e w1 ⟨rfl,hb⟩
 exact⟨rfl,rfl,aC HG.out hb⟩
theorem do1_step (sh:Nat) (kd n k:Int) (p q r:Nat) (w:World) (p0:w.cell? ⟨p,0,none⟩=some (.int .i64 (sh:Int))) (p1:w.cell? ⟨p,1,none⟩=some (.slice la l.length lc)) (q0:w.cell? ⟨q,0,none⟩=some (.slice sa S.st.length sc)) (q1:w.cell? ⟨q,1,none⟩=some (.slice ra S.rd.length rc)) (q2:w.cell? ⟨q,2,none⟩=some (.slice wa S.wr.length tc)) (q3:w.cell? ⟨q,3,none⟩=some (.slice va S.vs.length vc)) (r0:w.cell? ⟨r,0,none⟩=some (.int .i64 kd)) (r1:w.cell? ⟨r,1,none⟩=some (.int .i64 n)) (r2:w.cell? ⟨r,2,none⟩=some (.int .i64 k)) (hl:IsTxs w la l) (hs:Sta w sa ra wa va S) (hE:dB sh l S=0) (hT:¬bW sh l S kd n k=0) :
  Calls Tryz.prog 193 #[.pointer (some ⟨p,0,none⟩),.pointer (some ⟨q,0,none⟩),.pointer (some ⟨r,0,none⟩)] w fun e w'=>e=.panicked [{v:=.iface 22 (.int .i64 (bW sh l S kd n k)),recovered:=false}]∧Below w.heap.size w w':=by
 obtain⟨W,hWe⟩:∃W:World,W=(w.alloc (.cells #[.slice none 0 0,.slice none 0 0,.slice none 0 0,.slice none 0 0] 45)):=⟨_,rfl⟩
 have hg0:Below w.heap.size w W:=by subst hWe;exact aA (Below.refl _ _) _
 have p0':=aB hg0 p0
 have p1':=aB hg0 p1
 have q0':=aB hg0 q0
 have q1':=aB hg0 q1
 have q2':=aB hg0 q2
 have q3':=aB hg0 q3
 have r0':=aB hg0 r0
 have r1':=aB hg0 r1
 have r2':=aB hg0 r2
 have HG:Hid (Below w.heap.size w W):=hg0
 have CH:Hid (Calls Tryz.prog 194 #[.agg #[.int .i64 (sh:Int),.slice la l.length lc],.agg #[.slice sa S.st.length sc,.slice ra S.rd.length rc,.slice wa S.wr.length tc,.slice va S.vs.length vc]] W fun e w'=>∃h A,e=.returned (.pointer (some ⟨h,0,none⟩))∧Hall w' h sh l S A∧W.heap.size≤h∧h<w'.heap.size∧(∀j,w'.frozen? ⟨h,j,none⟩=false)∧W.heap.size≤A.p∧A.p<h∧A.la=la∧Below W.heap.size W w'):=qW la lc l sa ra wa va sc rc tc vc S sh _ (hl.below hg0) (hs.below hg0) hE
 have CT:Hid (∀w1 h A,Hall w1 h sh l S A→Calls Tryz.prog 195 #[.pointer (some ⟨h,0,none⟩),.agg #[.int .i64 kd,.int .i64 n,.int .i64 k]] w1 fun e w'=>e=.returned (.int .i64 (bW sh l S kd n k))∧Below w1.heap.size w1 w'):=fun w1 h A H=>lS H kd n k
 have HT:Hid (¬bW sh l S kd n k=0):=hT
 clear hl hs hE hg0 p0 p1 q0 q1 q2 q3 r0 r1 r2 hT
 generalize bW sh l S kd n k=E at *
 have HWe:Hid (W=_):=hWe
 clear hWe
 go_enter Tryz.func193,Tryz.ntmps193
 go_upto_region 1 with fail
 rw[←HWe.out]
 clear HWe
 go_wp2_with fail
 refine CH.out.mono ?_
 rintro e w1 ⟨h,A,rfl,hH,_,_,_,_,_,_,hb⟩
 have B1:Hid (Below w.heap.size w w1):=aC HG.out hb
 have HH:Hid (Hall w1 h sh l S A):=hH
 have s0:=aB hb r0'
 have s1:=aB hb r1'
 have s2:=aB hb r2'
 clear hb hH CH p0' p1' q0' q1' q2' q3' r0' r1' r2' HG
 go_wp2_with fail
 refine(CT.out _ _ _ HH.out).mono ?_
 rintro e w2 ⟨rfl,hb⟩
 have B2:Hid (Below w.heap.size w w2):=aC B1.out hb
 clear hb B1 HH CT s0 s1 s2
 go_wp2_with fail
 have hz:aF [E]=E:=by
  show (if E=0 then _ else E)=E
  rw[if_neg HT.out]
 have hlv:=cH [E] w2.heap.size 1 (w2.alloc (.cells #[.int .i64 E] 22)) (by simp) (by rw[hz];exact HT.out) (cD w2 _ E rfl)
 rw[hz]at hlv
 refine hlv.mono ?_
 rintro e w3 ⟨rfl,rfl⟩
 exact⟨rfl,rfl,aA B2.out _⟩
theorem do1_ok (sh:Nat) (K n k:Nat) (p q r:Nat) (w:World) (p0:w.cell? ⟨p,0,none⟩=some (.int .i64 (sh:Int))) (p1:w.cell? ⟨p,1,none⟩=some (.slice la l.length lc)) (q0:w.cell? ⟨q,0,none⟩=some (.slice sa S.st.length sc)) (q1:w.cell? ⟨q,1,none⟩=some (.slice ra S.rd.length rc)) (q2:w.cell? ⟨q,2,none⟩=some (.slice wa S.wr.length tc)) (q3:w.cell? ⟨q,3,none⟩=some (.slice va S.vs.length vc)) (r0:w.cell? ⟨r,0,none⟩=some (.int .i64 (K:Int))) (r1:w.cell? ⟨r,1,none⟩=some (.int .i64 (n:Int))) (r2:w.cell? ⟨r,2,none⟩=some (.int .i64 (k:Int))) (hl:IsTxs w la l) (hs:Sta w sa ra wa va S) (hE:dB sh l S=0) (hT:bW sh l S (K:Int) (n:Int) (k:Int)=0) (hK:K=1∨K=2) (hn:n<l.length) (hk:k<sh) :
  Calls Tryz.prog 193 #[.pointer (some ⟨p,0,none⟩),.pointer (some ⟨q,0,none⟩),.pointer (some ⟨r,0,none⟩)] w fun e w'=>∃sa' ra' wa' va' sc' rc' tc' vc' g0 c1 c2 c3 hi gr gw gv Br Bw Bv,e=.returned (.agg #[.slice sa' 8 sc',.slice ra' l.length rc',.slice wa' l.length tc',.slice va' l.length vc'])∧OwnSt w.heap.size w' sa' ra' wa' va' sc' l sh (vI sh l S K n k) g0 c1 c2 c3 hi gr gw gv Br Bw Bv∧Below w.heap.size w w':=by
 obtain⟨W,hWe⟩:∃W:World,W=(w.alloc (.cells #[.slice none 0 0,.slice none 0 0,.slice none 0 0,.slice none 0 0] 45)):=⟨_,rfl⟩
 have hg0:Below w.heap.size w W:=by subst hWe;exact aA (Below.refl _ _) _
 have p0':=aB hg0 p0
 have p1':=aB hg0 p1
 have q0':=aB hg0 q0
 have q1':=aB hg0 q1
 have q2':=aB hg0 q2
 have q3':=aB hg0 q3
 have r0':=aB hg0 r0
 have r1':=aB hg0 r1
 have r2':=aB hg0 r2
 obtain⟨sh',es,hs0,hs4,hck,_,hfb,_⟩:=cK hE
 have es':sh'=sh:=by omega
 subst es'
 clear es
 have HF:Form sh' l S:=eK.1 hfb
 have hr4:∀i,i<l.length→(gX l i).rs.length≤4:=fun i hi=>(bL _ _ _ (dH (fV hck i hi)).1).1
 have hl8:=fE hck
 have HG:Hid (Below w.heap.size w W):=hg0
 have CH:Hid (Calls Tryz.prog 194 #[.agg #[.int .i64 (sh':Int),.slice la l.length lc],.agg #[.slice sa S.st.length sc,.slice ra S.rd.length rc,.slice wa S.wr.length tc,.slice va S.vs.length vc]] W fun e w'=>∃h A,e=.returned (.pointer (some ⟨h,0,none⟩))∧Hall w' h sh' l S A∧W.heap.size≤h∧h<w'.heap.size∧(∀j,w'.frozen? ⟨h,j,none⟩=false)∧W.heap.size≤A.p∧A.p<h∧A.la=la∧Below W.heap.size W w'):=qW la lc l sa ra wa va sc rc tc vc S sh' _ (hl.below hg0) (hs.below hg0) hE
 have CT:Hid (∀w1 h A,Hall w1 h sh' l S A→Calls Tryz.prog 195 #[.pointer (some ⟨h,0,none⟩),.agg #[.int .i64 (K:Int),.int .i64 (n:Int),.int .i64 (k:Int)]] w1 fun e w'=>e=.returned (.int .i64 0)∧Below w1.heap.size w1 w'):=fun w1 h A H=>by
  have h:=lS H (K:Int) (n:Int) (k:Int)
  rw[hT]at h
  exact h
 have CP:Hid (∀w1,Below W.heap.size W w1→Calls Tryz.prog 196 #[.agg #[.slice sa S.st.length sc,.slice ra S.rd.length rc,.slice wa S.wr.length tc,.slice va S.vs.length vc]] w1 fun e w'=>∃sa' ra' wa' va' sc' rc' tc' vc' g0 c1 c2 c3 gr gw gv Br Bw Bv,e=.returned (.agg #[.slice sa' 8 sc',.slice ra' l.length rc',.slice wa' l.length tc',.slice va' l.length vc'])∧OwnSt w1.heap.size w' sa' ra' wa' va' sc' l sh' S g0 c1 c2 c3 w'.heap.size gr gw gv Br Bw Bv∧Below w1.heap.size w1 w'):=fun w1 hb=>by
  have h:=copyOf_own sa ra wa va sc rc tc vc l sh' S w1 hs0 hs4 hl8 hr4 HF ((hs.below hg0).below hb)
  rw[HF.st,HF.rd,HF.wr,HF.vs]
  exact h
 have HL:Hid (IsTxs w la l):=hl
 have HE:Hid (dD l=0):=hck
 have t0:∀j,j<4→W.cell? ⟨w.heap.size,j,none⟩=some (.slice none 0 0):=by
  subst hWe
  exact fun j hj=>by
   match j,hj with
   | 0,_=>exact aG _ _ 45 _ 0 _ (by simp) rfl
   | 1,_=>exact aG _ _ 45 _ 1 _ (by simp) rfl
   | 2,_=>exact aG _ _ 45 _ 2 _ (by simp) rfl
   | 3,_=>exact aG _ _ 45 _ 3 _ (by simp) rfl
 have T0:Hid (∀j,j<4→W.cell? ⟨w.heap.size,j,none⟩=some (.slice none 0 0)):=t0
 have TF:Hid (∀j,W.frozen? ⟨w.heap.size,j,none⟩=false):=by subst hWe;exact fun j=>by simp
 have sz:Hid (W.heap.size=w.heap.size+1):=by subst hWe;show _=_;simp
 clear hl hs hE hg0 p0 p1 q0 q1 q2 q3 r0 r1 r2 hT hfb hr4 HF hck t0
 have HWe:Hid (W=_):=hWe
 clear hWe
 go_enter Tryz.func193,Tryz.ntmps193
 go_upto_region 1 with fail
 rw[←HWe.out]
 clear HWe
 go_wp2_with fail
 refine CH.out.mono ?_
 rintro e w1 ⟨h,A,rfl,hH,hh1,hh2,hhf,hp1,hp2,hla,hb⟩
 have B1:Hid (Below W.heap.size W w1):=hb
 have HH:Hid (Hall w1 h sh' l S A):=hH
 have HHF:Hid (∀j,w1.frozen? ⟨h,j,none⟩=false):=hhf
 have HLA:Hid (A.la=la):=hla
 have s0:=aB hb r0'
 have s1:=aB hb r1'
 have s2:=aB hb r2'
 have RR:Hid (∀w',Below W.heap.size W w'→w'.cell? ⟨q,0,none⟩=some (.slice sa S.st.length sc)∧w'.cell? ⟨q,1,none⟩=some (.slice ra S.rd.length rc)∧w'.cell? ⟨q,2,none⟩=some (.slice wa S.wr.length tc)∧w'.cell? ⟨q,3,none⟩=some (.slice va S.vs.length vc)∧w'.cell? ⟨r,0,none⟩=some (.int .i64 (K:Int))∧w'.cell? ⟨r,1,none⟩=some (.int .i64 (n:Int))∧w'.cell? ⟨r,2,none⟩=some (.int .i64 (k:Int))):=fun w' hb=>⟨aB hb q0',aB hb q1',aB hb q2',aB hb q3',aB hb r0',aB hb r1',aB hb r2'⟩
 clear hb hH CH p0' p1' q0' q1' q2' q3' r0' r1' r2' hhf hla
 go_wp2_with fail
 refine(CT.out _ _ _ HH.out).mono ?_
 rintro e w2 ⟨rfl,hb2⟩
 clear s0 s1 s2 CT
 go_wp2_with fail
 refine(aO [0] _ 1 _ (by simp) rfl (cD _ _ _ (by simp))).mono ?_
 rintro e w3 ⟨rfl,hw3⟩
 have b3:Below w1.heap.size w1 w3:=by rw[hw3];exact aC hb2 (aA (Below.refl _ _) _)
 have B3:Hid (Below w1.heap.size w1 w3):=b3
 have H3:Hid (Hall w3 h sh' l S A):=HH.out.below b3
 clear hw3 hb2 b3
 obtain⟨s0,s1,s2,s3,_⟩:=RR.out w3 (aC B1.out B3.out)
 go_wp2_with fail
 refine(CP.out w3 (aC B1.out B3.out)).mono ?_
 rintro e w4 ⟨sa',ra',wa',va',sc',rc',tc',vc',g0,c1,c2,c3,gr,gw,gv,Br,Bw,Bv,rfl,ho,hb4⟩
 have B4:Hid (Below w3.heap.size w3 w4):=hb4
 have H4:Hid (Hall w4 h sh' l S A):=H3.out.below hb4
 have HO:Hid (OwnSt w3.heap.size w4 sa' ra' wa' va' sc' l sh' S g0 c1 c2 c3 w4.heap.size gr gw gv Br Bw Bv):=ho
 have y1:=H4.out.h1
 have y2:=H4.out.h2
 have y3:=H4.out.h3
 have y4:=H4.out.h4
 have hh3:h<w3.heap.size:=Nat.lt_of_lt_of_le hh2 B3.out.size
 have FZ:∀j,w4.frozen? ⟨h,j,none⟩=false:=fun j=>((aC B3.out B4.out).frozen (p:=⟨h,j,none⟩) hh2).trans (HHF.out j)
 have f1:=FZ 1
 have f2:=FZ 2
 have f3:=FZ 3
 have f4:=FZ 4
 have D5:Hid (DoAt w ((((w4.setCell ⟨h,1,none⟩ (.slice sa' 8 sc')).setCell ⟨h,2,none⟩ (.slice ra' l.length rc')).setCell ⟨h,3,none⟩ (.slice wa' l.length tc')).setCell ⟨h,4,none⟩ (.slice va' l.length vc')) w3.heap.size h A.p la A.lc rc' tc' vc' sa' ra' wa' va' sc' l sh' S g0 c1 c2 c3 w4.heap.size gr gw gv Br Bw Bv∧Below W.heap.size W ((((w4.setCell ⟨h,1,none⟩ (.slice sa' 8 sc')).setCell ⟨h,2,none⟩ (.slice ra' l.length rc')).setCell ⟨h,3,none⟩ (.slice wa' l.length tc')).setCell ⟨h,4,none⟩ (.slice va' l.length vc'))):=by
  have e3:=B3.out.size
  have e1:=B1.out.size
  have ez:=sz.out
  have o5:=(((HO.out.set h 1 (.slice sa' 8 sc') hh3).set h 2 (.slice ra' l.length rc') hh3).set h 3 (.slice wa' l.length tc') hh3).set h 4 (.slice va' l.length vc') hh3
  have hpne:A.p≠h:=by omega
  have bl:Below W.heap.size W ((((w4.setCell ⟨h,1,none⟩ (.slice sa' 8 sc')).setCell ⟨h,2,none⟩ (.slice ra' l.length rc')).setCell ⟨h,3,none⟩ (.slice wa' l.length tc')).setCell ⟨h,4,none⟩ (.slice va' l.length vc')):=aI (aI (aI (aI (aC (aC B1.out B3.out) B4.out) hh1 _) hh1 _) hh1 _) hh1 _
  refine⟨⟨aE (by decide) (aE (by decide) (aE (by decide) (aE (by decide) H4.out.h0))),aE (by decide) (aE (by decide) (aE (by decide) (aK y1))),aE (by decide) (aE (by decide) (aK (aE (by decide) y2))),aE (by decide) (aK (aE (by decide) (aE (by decide) y3))),aK (aE (by decide) (aE (by decide) (aE (by decide) y4))),?_,?_,hh3,by omega,HL.out,aC HG.out bl,by omega,o5,hs0,hs4,hl8,HE.out⟩,bl⟩
  ·rw[World.cell?_setCell_far _ _ _ _ (by simpa using hpne.symm),World.cell?_setCell_far _ _ _ _ (by simpa using hpne.symm),World.cell?_setCell_far _ _ _ _ (by simpa using hpne.symm),World.cell?_setCell_far _ _ _ _ (by simpa using hpne.symm)]
   exact H4.out.p0
  ·rw[World.cell?_setCell_far _ _ _ _ (by simpa using hpne.symm),World.cell?_setCell_far _ _ _ _ (by simpa using hpne.symm),World.cell?_setCell_far _ _ _ _ (by simpa using hpne.symm),World.cell?_setCell_far _ _ _ _ (by simpa using hpne.symm)]
   rw[←HLA.out]
   exact H4.out.p1
 clear HO ho hb4 H3 HH HHF FZ CP s0 s1 s2 s3
 have hC:Hid (W.heap.size≤w3.heap.size):=by show _≤_;have e3:=B3.out.size;have e1:=B1.out.size;omega
 have hRC:Hid (w.heap.size<w3.heap.size):=by show _<_;have e3:=B3.out.size;have e1:=B1.out.size;have:=sz.out;omega
 clear B1 B3 B4 H4 HL HLA
 go_upto_region 4 with fail
 clear y1 y2 y3 y4 f1 f2 f3 f4
 generalize ((((w4.setCell ⟨h,1,none⟩ (.slice sa' 8 sc')).setCell ⟨h,2,none⟩ (.slice ra' l.length rc')).setCell ⟨h,3,none⟩ (.slice wa' l.length tc')).setCell ⟨h,4,none⟩ (.slice va' l.length vc'))=W5 at *
 obtain⟨_,_,_,_,s0,s1,s2⟩:=RR.out W5 D5.out.2
 have FIN:Hid (∀w6,DoAt w w6 w3.heap.size h A.p la A.lc rc' tc' vc' sa' ra' wa' va' sc' l sh' (vI sh' l S K n k) g0 c1 c2 c3 w4.heap.size gr gw gv Br Bw Bv→Below w3.heap.size W5 w6→
   w6.cell? ⟨h,1,none⟩=some (.slice sa' 8 sc')∧w6.cell? ⟨h,2,none⟩=some (.slice ra' l.length rc')∧w6.cell? ⟨h,3,none⟩=some (.slice wa' l.length tc')∧w6.cell? ⟨h,4,none⟩=some (.slice va' l.length vc')∧
   w6.cell? ⟨w.heap.size,0,none⟩=some (.slice none 0 0)∧w6.cell? ⟨w.heap.size,1,none⟩=some (.slice none 0 0)∧w6.cell? ⟨w.heap.size,2,none⟩=some (.slice none 0 0)∧w6.cell? ⟨w.heap.size,3,none⟩=some (.slice none 0 0)∧(∀j,w6.frozen? ⟨w.heap.size,j,none⟩=false)∧
   Hid (OwnSt w.heap.size ((((w6.setCell ⟨w.heap.size,0,none⟩ (.slice sa' 8 sc')).setCell ⟨w.heap.size,1,none⟩ (.slice ra' l.length rc')).setCell ⟨w.heap.size,2,none⟩ (.slice wa' l.length tc')).setCell ⟨w.heap.size,3,none⟩ (.slice va' l.length vc')) sa' ra' wa' va' sc' l sh' (vI sh' l S K n k) g0 c1 c2 c3 w4.heap.size gr gw gv Br Bw Bv∧Below w.heap.size w ((((w6.setCell ⟨w.heap.size,0,none⟩ (.slice sa' 8 sc')).setCell ⟨w.heap.size,1,none⟩ (.slice ra' l.length rc')).setCell ⟨w.heap.size,2,none⟩ (.slice wa' l.length tc')).setCell ⟨w.heap.size,3,none⟩ (.slice va' l.length vc')))):=fun w6 D6 hb6=>by
  have bw:Below W.heap.size W w6:=D5.out.2.trans (hb6.mono hC.out)
  have fz:∀j,w6.frozen? ⟨w.heap.size,j,none⟩=false:=fun j=>(bw.frozen (p:=⟨w.heap.size,j,none⟩) (by have:=sz.out;show w.heap.size<_;omega)).trans (TF.out j)
  refine⟨D6.h1,D6.h2,D6.h3,D6.h4,aB bw (T0.out 0 (by decide)),aB bw (T0.out 1 (by decide)),aB bw (T0.out 2 (by decide)),aB bw (T0.out 3 (by decide)),fz,?_,?_⟩
  ·exact((((D6.own.set w.heap.size 0 (.slice sa' 8 sc') hRC.out).set w.heap.size 1 (.slice ra' l.length rc') hRC.out).set w.heap.size 2 (.slice wa' l.length tc') hRC.out).set w.heap.size 3 (.slice va' l.length vc') hRC.out).low (Nat.le_of_lt hRC.out)
  ·exact aI (aI (aI (aI (aC HG.out bw) (Nat.le_refl _) _) (Nat.le_refl _) _) (Nat.le_refl _) _) (Nat.le_refl _) _
 clear RR T0 TF
 rcases hK with rfl | rfl
 ·have CR:Hid (Calls Tryz.prog 197 #[.pointer (some ⟨h,0,none⟩),.int .i64 n,.int .i64 k] W5 fun e w'=>e=.returned (.tuple #[])∧DoAt w w' w3.heap.size h A.p la A.lc rc' tc' vc' sa' ra' wa' va' sc' l sh' (vI sh' l S 1 n k) g0 c1 c2 c3 w4.heap.size gr gw gv Br Bw Bv∧Below w3.heap.size W5 w'):=read_at D5.out.1 hn hk
  clear D5
  go_wp2_with fail
  refine CR.out.mono ?_
  rintro e w6 ⟨rfl,D6,hb6⟩
  obtain⟨z1,z2,z3,z4,v0,v1,v2,v3,vf,FF⟩:=FIN.out w6 D6 hb6
  clear FIN D6 hb6 CR s0 s1 s2
  go_wp2_with fail
  have x0:((((w6.setCell ⟨w.heap.size,0,none⟩ (.slice sa' 8 sc')).setCell ⟨w.heap.size,1,none⟩ (.slice ra' l.length rc')).setCell ⟨w.heap.size,2,none⟩ (.slice wa' l.length tc')).setCell ⟨w.heap.size,3,none⟩ (.slice va' l.length vc')).cell? ⟨w.heap.size,0,none⟩=some (.slice sa' 8 sc'):=(aE (by decide) (aE (by decide) (aE (by decide) (aK v0))))
  have x1:((((w6.setCell ⟨w.heap.size,0,none⟩ (.slice sa' 8 sc')).setCell ⟨w.heap.size,1,none⟩ (.slice ra' l.length rc')).setCell ⟨w.heap.size,2,none⟩ (.slice wa' l.length tc')).setCell ⟨w.heap.size,3,none⟩ (.slice va' l.length vc')).cell? ⟨w.heap.size,1,none⟩=some (.slice ra' l.length rc'):=(aE (by decide) (aE (by decide) (aK (aE (by decide) v1))))
  have x2:((((w6.setCell ⟨w.heap.size,0,none⟩ (.slice sa' 8 sc')).setCell ⟨w.heap.size,1,none⟩ (.slice ra' l.length rc')).setCell ⟨w.heap.size,2,none⟩ (.slice wa' l.length tc')).setCell ⟨w.heap.size,3,none⟩ (.slice va' l.length vc')).cell? ⟨w.heap.size,2,none⟩=some (.slice wa' l.length tc'):=(aE (by decide) (aK (aE (by decide) (aE (by decide) v2))))
  have x3:((((w6.setCell ⟨w.heap.size,0,none⟩ (.slice sa' 8 sc')).setCell ⟨w.heap.size,1,none⟩ (.slice ra' l.length rc')).setCell ⟨w.heap.size,2,none⟩ (.slice wa' l.length tc')).setCell ⟨w.heap.size,3,none⟩ (.slice va' l.length vc')).cell? ⟨w.heap.size,3,none⟩=some (.slice va' l.length vc'):=(aK (aE (by decide) (aE (by decide) (aE (by decide) v3))))
  generalize ((((w6.setCell ⟨w.heap.size,0,none⟩ (.slice sa' 8 sc')).setCell ⟨w.heap.size,1,none⟩ (.slice ra' l.length rc')).setCell ⟨w.heap.size,2,none⟩ (.slice wa' l.length tc')).setCell ⟨w.heap.size,3,none⟩ (.slice va' l.length vc'))=W7 at *
  refine bodyPost_ret (v:=.agg #[.slice sa' 8 sc',.slice ra' l.length rc',.slice wa' l.length tc',.slice va' l.length vc']) (by simp[results,Tryz.results193,go_sem,x0,x1,x2,x3]) rfl ⟨sa',ra',wa',va',sc',rc',tc',vc',g0,c1,c2,c3,w4.heap.size,gr,gw,gv,Br,Bw,Bv,rfl,FF.out.1,FF.out.2⟩
 ·have CR:Hid (Calls Tryz.prog 198 #[.pointer (some ⟨h,0,none⟩),.int .i64 n,.int .i64 k] W5 fun e w'=>e=.returned (.tuple #[])∧DoAt w w' w3.heap.size h A.p la A.lc rc' tc' vc' sa' ra' wa' va' sc' l sh' (vI sh' l S 2 n k) g0 c1 c2 c3 w4.heap.size gr gw gv Br Bw Bv∧Below w3.heap.size W5 w'):=write_at D5.out.1 hn hk
  clear D5
  go_wp2_with fail
  refine CR.out.mono ?_
  rintro e w6 ⟨rfl,D6,hb6⟩
  obtain⟨z1,z2,z3,z4,v0,v1,v2,v3,vf,FF⟩:=FIN.out w6 D6 hb6
  clear FIN D6 hb6 CR s0 s1 s2
  go_wp2_with fail
  have x0:((((w6.setCell ⟨w.heap.size,0,none⟩ (.slice sa' 8 sc')).setCell ⟨w.heap.size,1,none⟩ (.slice ra' l.length rc')).setCell ⟨w.heap.size,2,none⟩ (.slice wa' l.length tc')).setCell ⟨w.heap.size,3,none⟩ (.slice va' l.length vc')).cell? ⟨w.heap.size,0,none⟩=some (.slice sa' 8 sc'):=(aE (by decide) (aE (by decide) (aE (by decide) (aK v0))))
  have x1:((((w6.setCell ⟨w.heap.size,0,none⟩ (.slice sa' 8 sc')).setCell ⟨w.heap.size,1,none⟩ (.slice ra' l.length rc')).setCell ⟨w.heap.size,2,none⟩ (.slice wa' l.length tc')).setCell ⟨w.heap.size,3,none⟩ (.slice va' l.length vc')).cell? ⟨w.heap.size,1,none⟩=some (.slice ra' l.length rc'):=(aE (by decide) (aE (by decide) (aK (aE (by decide) v1))))
  have x2:((((w6.setCell ⟨w.heap.size,0,none⟩ (.slice sa' 8 sc')).setCell ⟨w.heap.size,1,none⟩ (.slice ra' l.length rc')).setCell ⟨w.heap.size,2,none⟩ (.slice wa' l.length tc')).setCell ⟨w.heap.size,3,none⟩ (.slice va' l.length vc')).cell? ⟨w.heap.size,2,none⟩=some (.slice wa' l.length tc'):=(aE (by decide) (aK (aE (by decide) (aE (by decide) v2))))
  have x3:((((w6.setCell ⟨w.heap.size,0,none⟩ (.slice sa' 8 sc')).setCell ⟨w.heap.size,1,none⟩ (.slice ra' l.length rc')).setCell ⟨w.heap.size,2,none⟩ (.slice wa' l.length tc')).setCell ⟨w.heap.size,3,none⟩ (.slice va' l.length vc')).cell? ⟨w.heap.size,3,none⟩=some (.slice va' l.length vc'):=(aK (aE (by decide) (aE (by decide) (aE (by decide) v3))))
  generalize ((((w6.setCell ⟨w.heap.size,0,none⟩ (.slice sa' 8 sc')).setCell ⟨w.heap.size,1,none⟩ (.slice ra' l.length rc')).setCell ⟨w.heap.size,2,none⟩ (.slice wa' l.length tc')).setCell ⟨w.heap.size,3,none⟩ (.slice va' l.length vc'))=W7 at *
  refine bodyPost_ret (v:=.agg #[.slice sa' 8 sc',.slice ra' l.length rc',.slice wa' l.length tc',.slice va' l.length vc']) (by simp[results,Tryz.results193,go_sem,x0,x1,x2,x3]) rfl ⟨sa',ra',wa',va',sc',rc',tc',vc',g0,c1,c2,c3,w4.heap.size,gr,gw,gv,Br,Bw,Bv,rfl,FF.out.1,FF.out.2⟩
end
section
def OwnQ (C:Nat) (l:List TxA) (sh:Nat) (S:SA) (q:Q4) (w:World):Prop:=q.sn=8∧q.rn=l.length∧q.wn=l.length∧q.vn=l.length∧∃g0 c1 c2 c3 hi gr gw gv Br Bw Bv,OwnSt C w q.sa q.ra q.wa q.va q.sc l sh S g0 c1 c2 c3 hi gr gw gv Br Bw Bv
theorem OwnQ.set {C:Nat} {l:List TxA} {sh:Nat} {S:SA} {q:Q4} {w:World} (h:OwnQ C l sh S q w) (b j:Nat) (u:Value) (hb:b<C):OwnQ C l sh S q (w.setCell ⟨b,j,none⟩ u):=by
 obtain⟨e1,e2,e3,e4,g0,c1,c2,c3,hi,gr,gw,gv,Br,Bw,Bv,o⟩:=h
 exact⟨e1,e2,e3,e4,g0,c1,c2,c3,hi,gr,gw,gv,Br,Bw,Bv,o.set b j u hb⟩
theorem OwnQ.sta {C:Nat} {l:List TxA} {sh:Nat} {S:SA} {q:Q4} {w:World} (h:OwnQ C l sh S q w) (h0:0<sh):q.sn=S.st.length∧q.rn=S.rd.length∧q.wn=S.wr.length∧q.vn=S.vs.length∧Sta w q.sa q.ra q.wa q.va S:=by
 obtain⟨e1,e2,e3,e4,g0,c1,c2,c3,hi,gr,gw,gv,Br,Bw,Bv,o⟩:=h
 exact⟨e1.trans o.f.st.symm,e2.trans o.f.rd.symm,e3.trans o.f.wr.symm,e4.trans o.f.vs.symm,o.sta h0⟩
def StaQ (S:SA) (q:Q4) (w:World):Prop:=q.sn=S.st.length∧q.rn=S.rd.length∧q.wn=S.wr.length∧q.vn=S.vs.length∧Sta w q.sa q.ra q.wa q.va S
theorem StaQ.below {S:SA} {q:Q4} {w w':World} (h:StaQ S q w) (hb:Below w.heap.size w w'):StaQ S q w':=⟨h.1,h.2.1,h.2.2.1,h.2.2.2.1,h.2.2.2.2.below hb⟩
def StaF (lo:Nat) (S:SA) (q:Q4) (w:World):Prop:=∀w':World,(∀b,lo≤b→b<w.heap.size→w'.heap[b]?=w.heap[b]?)→w.heap.size≤w'.heap.size→StaQ S q w'
theorem StaF.set {lo:Nat} {S:SA} {q:Q4} {w:World} (h:StaF lo S q w) (b j:Nat) (u:Value) (hb:b<lo):StaF lo S q (w.setCell ⟨b,j,none⟩ u):=fun w' h1 h2=>h w' (fun c hc hs=>(h1 c hc (by rw[World.size_setCell];exact hs)).trans (dR w b j u c (by omega))) (by rw[World.size_setCell]at h2;exact h2)
theorem StaF.low {lo lo':Nat} {S:SA} {q:Q4} {w:World} (h:StaF lo S q w) (hl:lo'≤lo):StaF lo' S q w:=fun w' h1 h2=>h w' (fun c hc hs=>h1 c (Nat.le_trans hl hc) hs) h2
theorem OwnQ.staF {C:Nat} {l:List TxA} {sh:Nat} {S:SA} {q:Q4} {w:World} (h:OwnQ C l sh S q w) (h0:0<sh):StaF C S q w:=fun w' h1 h2=>by
 obtain⟨e1,e2,e3,e4,g0,c1,c2,c3,hi,gr,gw,gv,Br,Bw,Bv,o⟩:=h
 have e5:=o.h5
 exact OwnQ.sta ⟨e1,e2,e3,e4,g0,c1,c2,c3,hi,gr,gw,gv,Br,Bw,Bv,o.keep (fun c hc hs=>h1 c hc (by omega)) h2⟩ h0
def aAh:Q4:=⟨none,none,none,none,0,0,0,0,0,0,0,0⟩
def uC:SA:=⟨[],[],[],[]⟩
theorem staQ_nil (w:World):StaQ uC aAh w:=⟨rfl,rfl,rfl,rfl,fun _ h=>absurd h (Nat.not_lt_zero _),fun _ h=>absurd h (Nat.not_lt_zero _),fun _ h=>absurd h (Nat.not_lt_zero _),fun _ h=>absurd h (Nat.not_lt_zero _)⟩
theorem rK (lo:Nat) (w:World):StaF lo uC aAh w:=fun w' _ _=>staQ_nil w'
def kX (m:Int) (l:List TxA) (S:SA) (kd n k:Int):Int:=if dB m l S=0 then bW m.toNat l S kd n k else dB m l S
def pV (m:Int) (l:List TxA) (S:SA) (kd n k:Int):SA:=if kX m l S kd n k=0 then vI m.toNat l S kd.toNat n.toNat k.toNat else uC
variable (la:Option Addr) (lc:Nat) (l:List TxA) (sa ra wa va:Option Addr) (sc rc tc vc:Nat) (S:SA)
theorem zD (m kd n k:Int) (w:World) (hl:IsTxs w la l) (hs:Sta w sa ra wa va S) :
  Calls Tryz.prog 158 #[.agg #[.int .i64 m,.slice la l.length lc],.agg #[.slice sa S.st.length sc,.slice ra S.rd.length rc,.slice wa S.wr.length tc,.slice va S.vs.length vc],.agg #[.int .i64 kd,.int .i64 n,.int .i64 k]] w fun e w'=>∃q:Q4,e=.returned (.tuple #[.agg #[.slice q.sa q.sn q.sc,.slice q.ra q.rn q.rc,.slice q.wa q.wn q.tc,.slice q.va q.vn q.vc],.int .i64 (kX m l S kd n k)])∧StaF w.heap.size (pV m l S kd n k) q w'∧Below w.heap.size w w':=by
 have hg:Below w.heap.size w ((((((w.alloc (.cells #[.int .i64 m,.slice la l.length lc] 29)).alloc (.cells #[.slice sa S.st.length sc,.slice ra S.rd.length rc,.slice wa S.wr.length tc,.slice va S.vs.length vc] 45)).alloc (.cells #[.int .i64 kd,.int .i64 n,.int .i64 k] 33)).alloc (.cells #[.slice none 0 0,.slice none 0 0,.slice none 0 0,.slice none 0 0] 45)).alloc (.cells #[.slice none 0 0,.slice none 0 0,.slice none 0 0,.slice none 0 0] 45)).alloc (.cells #[.int .i64 0] 22)):=(aA (aA (aA (aA (aA (aA (Below.refl _ _) _) _) _) _) _) _)
 have hU:Hid (Below w.heap.size w ((((w.alloc (.cells #[.int .i64 m,.slice la l.length lc] 29)).alloc (.cells #[.slice sa S.st.length sc,.slice ra S.rd.length rc,.slice wa S.wr.length tc,.slice va S.vs.length vc] 45)).alloc (.cells #[.int .i64 kd,.int .i64 n,.int .i64 k] 33)).alloc (.cells #[.slice none 0 0,.slice none 0 0,.slice none 0 0,.slice none 0 0] 45))):=(aA (aA (aA (aA (Below.refl _ _) _) _) _) _)
 have hmf:∀(fn:Fn) (first cap:Array Value) (w:World),(Instr.makeFunc fn first cap).run Tryz.prog w=.ok (.func fn first cap) w:=fun _ _ _ _=>rfl
 have p0:((((((w.alloc (.cells #[.int .i64 m,.slice la l.length lc] 29)).alloc (.cells #[.slice sa S.st.length sc,.slice ra S.rd.length rc,.slice wa S.wr.length tc,.slice va S.vs.length vc] 45)).alloc (.cells #[.int .i64 kd,.int .i64 n,.int .i64 k] 33)).alloc (.cells #[.slice none 0 0,.slice none 0 0,.slice none 0 0,.slice none 0 0] 45)).alloc (.cells #[.slice none 0 0,.slice none 0 0,.slice none 0 0,.slice none 0 0] 45)).alloc (.cells #[.int .i64 0] 22)).cell? ⟨w.heap.size,0,none⟩=some (.int .i64 m):=aB (aA (aA (aA (aA (aA (Below.refl _ _) _) _) _) _) _) (aG _ _ 29 _ 0 _ (by first | rfl | simp) rfl)
 have p1:((((((w.alloc (.cells #[.int .i64 m,.slice la l.length lc] 29)).alloc (.cells #[.slice sa S.st.length sc,.slice ra S.rd.length rc,.slice wa S.wr.length tc,.slice va S.vs.length vc] 45)).alloc (.cells #[.int .i64 kd,.int .i64 n,.int .i64 k] 33)).alloc (.cells #[.slice none 0 0,.slice none 0 0,.slice none 0 0,.slice none 0 0] 45)).alloc (.cells #[.slice none 0 0,.slice none 0 0,.slice none 0 0,.slice none 0 0] 45)).alloc (.cells #[.int .i64 0] 22)).cell? ⟨w.heap.size,1,none⟩=some (.slice la l.length lc):=aB (aA (aA (aA (aA (aA (Below.refl _ _) _) _) _) _) _) (aG _ _ 29 _ 1 _ (by first | rfl | simp) rfl)
 have q0:((((((w.alloc (.cells #[.int .i64 m,.slice la l.length lc] 29)).alloc (.cells #[.slice sa S.st.length sc,.slice ra S.rd.length rc,.slice wa S.wr.length tc,.slice va S.vs.length vc] 45)).alloc (.cells #[.int .i64 kd,.int .i64 n,.int .i64 k] 33)).alloc (.cells #[.slice none 0 0,.slice none 0 0,.slice none 0 0,.slice none 0 0] 45)).alloc (.cells #[.slice none 0 0,.slice none 0 0,.slice none 0 0,.slice none 0 0] 45)).alloc (.cells #[.int .i64 0] 22)).cell? ⟨w.heap.size+1,0,none⟩=some (.slice sa S.st.length sc):=aB (aA (aA (aA (aA (Below.refl _ _) _) _) _) _) (aG _ _ 45 _ 0 _ (by first | rfl | simp) rfl)
 have q1:((((((w.alloc (.cells #[.int .i64 m,.slice la l.length lc] 29)).alloc (.cells #[.slice sa S.st.length sc,.slice ra S.rd.length rc,.slice wa S.wr.length tc,.slice va S.vs.length vc] 45)).alloc (.cells #[.int .i64 kd,.int .i64 n,.int .i64 k] 33)).alloc (.cells #[.slice none 0 0,.slice none 0 0,.slice none 0 0,.slice none 0 0] 45)).alloc (.cells #[.slice none 0 0,.slice none 0 0,.slice none 0 0,.slice none 0 0] 45)).alloc (.cells #[.int .i64 0] 22)).cell? ⟨w.heap.size+1,1,none⟩=some (.slice ra S.rd.length rc):=aB (aA (aA (aA (aA (Below.refl _ _) _) _) _) _) (aG _ _ 45 _ 1 _ (by first | rfl | simp) rfl)
 have q2:((((((w.alloc (.cells #[.int .i64 m,.slice la l.length lc] 29)).alloc (.cells #[.slice sa S.st.length sc,.slice ra S.rd.length rc,.slice wa S.wr.length tc,.slice va S.vs.length vc] 45)).alloc (.cells #[.int .i64 kd,.int .i64 n,.int .i64 k] 33)).alloc (.cells #[.slice none 0 0,.slice none 0 0,.slice none 0 0,.slice none 0 0] 45)).alloc (.cells #[.slice none 0 0,.slice none 0 0,.slice none 0 0,.slice none 0 0] 45)).alloc (.cells #[.int .i64 0] 22)).cell? ⟨w.heap.size+1,2,none⟩=some (.slice wa S.wr.length tc):=aB (aA (aA (aA (aA (Below.refl _ _) _) _) _) _) (aG _ _ 45 _ 2 _ (by first | rfl | simp) rfl)
 have q3:((((((w.alloc (.cells #[.int .i64 m,.slice la l.length lc] 29)).alloc (.cells #[.slice sa S.st.length sc,.slice ra S.rd.length rc,.slice wa S.wr.length tc,.slice va S.vs.length vc] 45)).alloc (.cells #[.int .i64 kd,.int .i64 n,.int .i64 k] 33)).alloc (.cells #[.slice none 0 0,.slice none 0 0,.slice none 0 0,.slice none 0 0] 45)).alloc (.cells #[.slice none 0 0,.slice none 0 0,.slice none 0 0,.slice none 0 0] 45)).alloc (.cells #[.int .i64 0] 22)).cell? ⟨w.heap.size+1,3,none⟩=some (.slice va S.vs.length vc):=aB (aA (aA (aA (aA (Below.refl _ _) _) _) _) _) (aG _ _ 45 _ 3 _ (by first | rfl | simp) rfl)
 have r0:((((((w.alloc (.cells #[.int .i64 m,.slice la l.length lc] 29)).alloc (.cells #[.slice sa S.st.length sc,.slice ra S.rd.length rc,.slice wa S.wr.length tc,.slice va S.vs.length vc] 45)).alloc (.cells #[.int .i64 kd,.int .i64 n,.int .i64 k] 33)).alloc (.cells #[.slice none 0 0,.slice none 0 0,.slice none 0 0,.slice none 0 0] 45)).alloc (.cells #[.slice none 0 0,.slice none 0 0,.slice none 0 0,.slice none 0 0] 45)).alloc (.cells #[.int .i64 0] 22)).cell? ⟨w.heap.size+2,0,none⟩=some (.int .i64 kd):=aB (aA (aA (aA (Below.refl _ _) _) _) _) (aG _ _ 33 _ 0 _ (by first | rfl | simp) rfl)
 have r1:((((((w.alloc (.cells #[.int .i64 m,.slice la l.length lc] 29)).alloc (.cells #[.slice sa S.st.length sc,.slice ra S.rd.length rc,.slice wa S.wr.length tc,.slice va S.vs.length vc] 45)).alloc (.cells #[.int .i64 kd,.int .i64 n,.int .i64 k] 33)).alloc (.cells #[.slice none 0 0,.slice none 0 0,.slice none 0 0,.slice none 0 0] 45)).alloc (.cells #[.slice none 0 0,.slice none 0 0,.slice none 0 0,.slice none 0 0] 45)).alloc (.cells #[.int .i64 0] 22)).cell? ⟨w.heap.size+2,1,none⟩=some (.int .i64 n):=aB (aA (aA (aA (Below.refl _ _) _) _) _) (aG _ _ 33 _ 1 _ (by first | rfl | simp) rfl)
 have r2:((((((w.alloc (.cells #[.int .i64 m,.slice la l.length lc] 29)).alloc (.cells #[.slice sa S.st.length sc,.slice ra S.rd.length rc,.slice wa S.wr.length tc,.slice va S.vs.length vc] 45)).alloc (.cells #[.int .i64 kd,.int .i64 n,.int .i64 k] 33)).alloc (.cells #[.slice none 0 0,.slice none 0 0,.slice none 0 0,.slice none 0 0] 45)).alloc (.cells #[.slice none 0 0,.slice none 0 0,.slice none 0 0,.slice none 0 0] 45)).alloc (.cells #[.int .i64 0] 22)).cell? ⟨w.heap.size+2,2,none⟩=some (.int .i64 k):=aB (aA (aA (aA (Below.refl _ _) _) _) _) (aG _ _ 33 _ 2 _ (by first | rfl | simp) rfl)
 have T0:Hid (∀j,j<4→((((w.alloc (.cells #[.int .i64 m,.slice la l.length lc] 29)).alloc (.cells #[.slice sa S.st.length sc,.slice ra S.rd.length rc,.slice wa S.wr.length tc,.slice va S.vs.length vc] 45)).alloc (.cells #[.int .i64 kd,.int .i64 n,.int .i64 k] 33)).alloc (.cells #[.slice none 0 0,.slice none 0 0,.slice none 0 0,.slice none 0 0] 45)).cell? ⟨w.heap.size+3,j,none⟩=some (.slice none 0 0)):=fun j hj=>by
  match j,hj with
  | 0,_=>exact aG _ _ 45 _ 0 _ (by simp) rfl
  | 1,_=>exact aG _ _ 45 _ 1 _ (by simp) rfl
  | 2,_=>exact aG _ _ 45 _ 2 _ (by simp) rfl
  | 3,_=>exact aG _ _ 45 _ 3 _ (by simp) rfl
 have TF:Hid (∀j,((((w.alloc (.cells #[.int .i64 m,.slice la l.length lc] 29)).alloc (.cells #[.slice sa S.st.length sc,.slice ra S.rd.length rc,.slice wa S.wr.length tc,.slice va S.vs.length vc] 45)).alloc (.cells #[.int .i64 kd,.int .i64 n,.int .i64 k] 33)).alloc (.cells #[.slice none 0 0,.slice none 0 0,.slice none 0 0,.slice none 0 0] 45)).frozen? ⟨w.heap.size+3,j,none⟩=false):=fun j=>cO _ _ 45 _ j (by simp)
 have sz:Hid (((((w.alloc (.cells #[.int .i64 m,.slice la l.length lc] 29)).alloc (.cells #[.slice sa S.st.length sc,.slice ra S.rd.length rc,.slice wa S.wr.length tc,.slice va S.vs.length vc] 45)).alloc (.cells #[.int .i64 kd,.int .i64 n,.int .i64 k] 33)).alloc (.cells #[.slice none 0 0,.slice none 0 0,.slice none 0 0,.slice none 0 0] 45)).heap.size=w.heap.size+4):=by show _=_;simp
 have CC:Hid (Calls Tryz.prog 76 #[.func (.func 193) #[] #[.pointer (some ⟨w.heap.size,0,none⟩),.pointer (some ⟨w.heap.size+1,0,none⟩),.pointer (some ⟨w.heap.size+2,0,none⟩)]] ((((w.alloc (.cells #[.int .i64 m,.slice la l.length lc] 29)).alloc (.cells #[.slice sa S.st.length sc,.slice ra S.rd.length rc,.slice wa S.wr.length tc,.slice va S.vs.length vc] 45)).alloc (.cells #[.int .i64 kd,.int .i64 n,.int .i64 k] 33)).alloc (.cells #[.slice none 0 0,.slice none 0 0,.slice none 0 0,.slice none 0 0] 45)) fun e w'=>∃q:Q4,e=.returned (.tuple #[.agg #[.slice q.sa q.sn q.sc,.slice q.ra q.rn q.rc,.slice q.wa q.wn q.tc,.slice q.va q.vn q.vc],.int .i64 (kX m l S kd n k)])∧StaF (w.heap.size+4) (pV m l S kd n k) q w'∧Below ((((w.alloc (.cells #[.int .i64 m,.slice la l.length lc] 29)).alloc (.cells #[.slice sa S.st.length sc,.slice ra S.rd.length rc,.slice wa S.wr.length tc,.slice va S.vs.length vc] 45)).alloc (.cells #[.int .i64 kd,.int .i64 n,.int .i64 k] 33)).alloc (.cells #[.slice none 0 0,.slice none 0 0,.slice none 0 0,.slice none 0 0] 45)).heap.size ((((w.alloc (.cells #[.int .i64 m,.slice la l.length lc] 29)).alloc (.cells #[.slice sa S.st.length sc,.slice ra S.rd.length rc,.slice wa S.wr.length tc,.slice va S.vs.length vc] 45)).alloc (.cells #[.int .i64 kd,.int .i64 n,.int .i64 k] 33)).alloc (.cells #[.slice none 0 0,.slice none 0 0,.slice none 0 0,.slice none 0 0] 45)) w'):=by
  by_cases hE:dB m l S=0
  ·obtain⟨sh,rfl,h0,_⟩:=cK hE
   have e1:kX (sh:Int) l S kd n k=bW sh l S kd n k:=by unfold kX;rw[if_pos hE];rfl
   by_cases hT:bW sh l S kd n k=0
   ·have e2:pV (sh:Int) l S kd n k=vI sh l S kd.toNat n.toNat k.toNat:=by unfold pV;rw[e1,if_pos hT];rfl
    rw[e1,e2,hT]
    obtain⟨K,N,k',rfl,rfl,rfl,hK,hN,hk,_⟩:=mC hT
    refine(nU 193 _ (fun _=>rfl) (fun q w'=>OwnQ (w.heap.size+6) l sh (vI sh l S K N k') q w') _ (fun q w' i u j hj h=>h.set j i u (by have:=sz.out;omega)) ((do1_ok la lc l sa ra wa va sc rc tc vc S sh K N k' _ _ _ _ p0 p1 q0 q1 q2 q3 r0 r1 r2 (hl.below hg) (hs.below hg) hE hT hK hN hk).mono ?_)).mono ?_
    ·rintro e w' ⟨sa',ra',wa',va',sc',rc',tc',vc',g0,c1,c2,c3,hi,gr,gw,gv,Br,Bw,Bv,rfl,ho,hb⟩
     refine⟨⟨sa',ra',wa',va',8,l.length,l.length,l.length,sc',rc',tc',vc'⟩,rfl,⟨rfl,rfl,rfl,rfl,g0,c1,c2,c3,hi,gr,gw,gv,Br,Bw,Bv,ho.low (by first | exact Nat.le_refl _ | simp)⟩,hb⟩
    ·rintro e w' ⟨q,rfl,ho,hb⟩
     exact⟨q,rfl,(ho.staF h0).low (by omega),hb⟩
   ·have e2:pV (sh:Int) l S kd n k=uC:=by unfold pV;rw[e1,if_neg hT]
    rw[e1,e2]
    refine(kH 193 _ (fun _=>rfl) _ _ (do1_step la lc l sa ra wa va sc rc tc vc S sh kd n k _ _ _ _ p0 p1 q0 q1 q2 q3 r0 r1 r2 (hl.below hg) (hs.below hg) hE hT)).mono ?_
    rintro e w' ⟨rfl,hb⟩
    exact⟨aAh,rfl,rK _ _,hb⟩
  ·have e1:kX m l S kd n k=dB m l S:=by unfold kX;rw[if_neg hE]
   have e2:pV m l S kd n k=uC:=by unfold pV;rw[e1,if_neg hE]
   rw[e1,e2]
   refine(kH 193 _ (fun _=>rfl) _ _ (do1_pan la lc l sa ra wa va sc rc tc vc S m _ _ _ _ p0 p1 q0 q1 q2 q3 (hl.below hg) (hs.below hg) hE)).mono ?_
   rintro e w' ⟨rfl,hb⟩
   exact⟨aAh,rfl,rK _ _,hb⟩
 clear hg p0 p1 q0 q1 q2 q3 r0 r1 r2 hl hs
 go_enter Tryz.func158,Tryz.ntmps158
 go_upto_region 1 with fail
 generalize ((((w.alloc (.cells #[.int .i64 m,.slice la l.length lc] 29)).alloc (.cells #[.slice sa S.st.length sc,.slice ra S.rd.length rc,.slice wa S.wr.length tc,.slice va S.vs.length vc] 45)).alloc (.cells #[.int .i64 kd,.int .i64 n,.int .i64 k] 33)).alloc (.cells #[.slice none 0 0,.slice none 0 0,.slice none 0 0,.slice none 0 0] 45))=W at *
 go_wp2_with fail
 refine CC.out.mono ?_
 clear CC
 rintro e w1 ⟨q,rfl,hq,hb⟩
 have t0:=aB hb (T0.out 0 (by decide))
 have t1:=aB hb (T0.out 1 (by decide))
 have t2:=aB hb (T0.out 2 (by decide))
 have t3:=aB hb (T0.out 3 (by decide))
 have tf:∀j,w1.frozen? ⟨w.heap.size+3,j,none⟩=false:=fun j=>(hb.frozen (p:=⟨w.heap.size+3,j,none⟩) (by have:=sz.out;show w.heap.size+3<_;omega)).trans (TF.out j)
 have FB:Hid (Below w.heap.size w ((((w1.setCell ⟨w.heap.size+3,0,none⟩ (.slice q.sa q.sn q.sc)).setCell ⟨w.heap.size+3,1,none⟩ (.slice q.ra q.rn q.rc)).setCell ⟨w.heap.size+3,2,none⟩ (.slice q.wa q.wn q.tc)).setCell ⟨w.heap.size+3,3,none⟩ (.slice q.va q.vn q.vc))):=aI (aI (aI (aI (aC hU.out hb) (by simp) _) (by simp) _) (by simp) _) (by simp) _
 have FS:Hid (StaF w.heap.size (pV m l S kd n k) q ((((w1.setCell ⟨w.heap.size+3,0,none⟩ (.slice q.sa q.sn q.sc)).setCell ⟨w.heap.size+3,1,none⟩ (.slice q.ra q.rn q.rc)).setCell ⟨w.heap.size+3,2,none⟩ (.slice q.wa q.wn q.tc)).setCell ⟨w.heap.size+3,3,none⟩ (.slice q.va q.vn q.vc))):=((((hq.set _ 0 _ (by omega)).set _ 1 _ (by omega)).set _ 2 _ (by omega)).set _ 3 _ (by omega)).low (by omega)
 clear hq hb T0 TF
 go_wp2_with fail
 have x0:((((w1.setCell ⟨w.heap.size+3,0,none⟩ (.slice q.sa q.sn q.sc)).setCell ⟨w.heap.size+3,1,none⟩ (.slice q.ra q.rn q.rc)).setCell ⟨w.heap.size+3,2,none⟩ (.slice q.wa q.wn q.tc)).setCell ⟨w.heap.size+3,3,none⟩ (.slice q.va q.vn q.vc)).cell? ⟨w.heap.size+3,0,none⟩=some (.slice q.sa q.sn q.sc):=(aE (by decide) (aE (by decide) (aE (by decide) (aK t0))))
 have x1:((((w1.setCell ⟨w.heap.size+3,0,none⟩ (.slice q.sa q.sn q.sc)).setCell ⟨w.heap.size+3,1,none⟩ (.slice q.ra q.rn q.rc)).setCell ⟨w.heap.size+3,2,none⟩ (.slice q.wa q.wn q.tc)).setCell ⟨w.heap.size+3,3,none⟩ (.slice q.va q.vn q.vc)).cell? ⟨w.heap.size+3,1,none⟩=some (.slice q.ra q.rn q.rc):=(aE (by decide) (aE (by decide) (aK (aE (by decide) t1))))
 have x2:((((w1.setCell ⟨w.heap.size+3,0,none⟩ (.slice q.sa q.sn q.sc)).setCell ⟨w.heap.size+3,1,none⟩ (.slice q.ra q.rn q.rc)).setCell ⟨w.heap.size+3,2,none⟩ (.slice q.wa q.wn q.tc)).setCell ⟨w.heap.size+3,3,none⟩ (.slice q.va q.vn q.vc)).cell? ⟨w.heap.size+3,2,none⟩=some (.slice q.wa q.wn q.tc):=(aE (by decide) (aK (aE (by decide) (aE (by decide) t2))))
 have x3:((((w1.setCell ⟨w.heap.size+3,0,none⟩ (.slice q.sa q.sn q.sc)).setCell ⟨w.heap.size+3,1,none⟩ (.slice q.ra q.rn q.rc)).setCell ⟨w.heap.size+3,2,none⟩ (.slice q.wa q.wn q.tc)).setCell ⟨w.heap.size+3,3,none⟩ (.slice q.va q.vn q.vc)).cell? ⟨w.heap.size+3,3,none⟩=some (.slice q.va q.vn q.vc):=(aK (aE (by decide) (aE (by decide) (aE (by decide) t3))))
 generalize ((((w1.setCell ⟨w.heap.size+3,0,none⟩ (.slice q.sa q.sn q.sc)).setCell ⟨w.heap.size+3,1,none⟩ (.slice q.ra q.rn q.rc)).setCell ⟨w.heap.size+3,2,none⟩ (.slice q.wa q.wn q.tc)).setCell ⟨w.heap.size+3,3,none⟩ (.slice q.va q.vn q.vc))=WF at *
 refine bodyPost_ret (v:=.tuple #[.agg #[.slice q.sa q.sn q.sc,.slice q.ra q.rn q.rc,.slice q.wa q.wn q.tc,.slice q.va q.vn q.vc],.int .i64 (kX m l S kd n k)]) (by simp[results,Tryz.results158,go_sem,x0,x1,x2,x3]) rfl ⟨q,rfl,FS.out,FB.out⟩
end
end Go.Proofs.YtcgpkonfneofdaaGreatDoor
