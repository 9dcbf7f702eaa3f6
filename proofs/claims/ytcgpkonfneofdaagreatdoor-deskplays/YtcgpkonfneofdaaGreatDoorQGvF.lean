/- Conditions: those that each theorem states. -/
import Derived.Test.YtcgpkonfneofdaaGreatDoorQDk6
import Derived.Test.YtcgpkonfneofdaaGreatDoorQDocM
import Derived.Test.YtcgpkonfneofdaaGreatDoorQPlayM
set_option maxRecDepth 100000
set_option maxHeartbeats 8000000
namespace Go.Proofs.YtcgpkonfneofdaaGreatDoor
open Go.RowKit Go.Proofs.Tryz
open Go.Value renaming slice->J,int->Y,bool->bo,pointer->pd,agg->ag,tuple->tu,string->sg,iface->fc
open Go.IntKind renaming i64->I
open Go.Obj renaming cells->U
open Go.Ending renaming returned->rt,panicked->pg
open Option renaming some->M,none->Q
variable {p:Prop} {x:List UInt8}
section
variable (la:Option Addr) (lc:Nat) (l:List TxA) (sa ra wa va:Option Addr) (sc rc tc vc:Nat) (S:SA)
theorem docDo_any (m kd n k:Int) (w:World) (hl:IsTxs w la l) (hs:Sta w sa ra wa va S) :
  Calls prog 54 #[ag #[Y I m,J la l.length lc],ag #[J sa S.st.length sc,J ra S.rd.length rc,J wa S.wr.length tc,J va S.vs.length vc],ag #[Y I kd,Y I n,Y I k]] w fun e w'=>∃q:Q4,e=rt (tu #[ag #[J q.sa q.sn q.sc,J q.ra q.rn q.rc,J q.wa q.wn q.tc,J q.va q.vn q.vc],Y I (gM m l S kd n k)])/\StaF w.heap.size (lU m l S kd n k) q w'/\Below w.heap.size w w':=by
 by_cases hst:cZ m l S=0;rotate_left
 ·have e1:gM m l S kd n k=cZ m l S:=if_neg hst;have e2:lU m l S kd n k=mD:=if_neg (by rw[e1];exact hst);rw[e2];exact qU la lc l sa ra wa va sc rc tc vc S m kd n k w hl hs _ (.inl ⟨hst,e1⟩)
 have e1:gM m l S kd n k=dC m.toNat l S kd n k:=if_pos hst;by_cases hkd:kd=1∨kd=2;rotate_left
 ·have e3:gM m l S kd n k=4:=by rw[e1];exact if_neg hkd
  have e2:lU m l S kd n k=mD:=if_neg (by rw[e3];decide);rw[e2];exact qU la lc l sa ra wa va sc rc tc vc S m kd n k w hl hs _ (.inr (.inl ⟨hst,fun h=>hkd (.inl h),fun h=>hkd (.inr h),e3⟩))
 obtain⟨sh,rfl,h0,h4,_⟩:=aZ hst;by_cases hr:n<0∨(l.length:Int)<=n∨k<0∨(sh:Int)<=k
 ·have e3:gM sh l S kd n k=5:=by
   rw[e1];unfold dC;rw[if_pos hkd];exact if_pos hr
  have e2:lU sh l S kd n k=mD:=if_neg (by rw[e3];decide);rw[e2];refine qU la lc l sa ra wa va sc rc tc vc S sh kd n k w hl hs _ (.inr (.inr ⟨hst,hkd,e3,?_⟩));by_cases h1:n<0
  ·exact .inl h1
  ·by_cases h2:(l.length:Int)<=n
   ·exact .inr (.inl h2)
   ·exact .inr (.inr ⟨by omega,by omega,by omega⟩)
 ·obtain⟨N,rfl⟩:∃N:Nat,n=N:=⟨n.toNat,by omega⟩;obtain⟨K,rfl⟩:∃K:Nat,k=K:=⟨k.toNat,by omega⟩;rcases hkd with rfl | rfl
  ·exact docDo_read la lc l sa ra wa va sc rc tc vc S sh N K w hl hs hst om om
  ·exact docDo_write la lc l sa ra wa va sc rc tc vc S sh N K w hl hs hst om om
end
theorem vx (h:p:=by
 obtain⟨k0,k1,k2,k3,k4,k5,k6⟩:=(H.out.on (aC BU.out hb)).cs;exact⟨k0,k1,k2,k3,k4,k5,k6,hb⟩):p:=h
theorem yu (h:p:=by
 obtain⟨sh',e,_,_,_,_,hf,_⟩:=aZ hst;have e':sh'=sh:=om;subst e';exact cH.1 hf):p:=h
theorem Vb (h:p:=by
 obtain⟨k0,k1,k2,k3,k4,k5,k6⟩:=(H.out.on (aC (aC BU.out B1.out) hb)).cs;exact⟨k0,k1,k2,k3,k4,k5,k6,hb⟩):p:=h
theorem Xg (h:p:=by
 rw[eS]at e';injection e' with e'
 injection e' with e1 e2
 subst e1 e2;exact c'):p:=h
section
section
variable {P:Nat} {m:Int} {la:Option Addr} {lc:Nat} {l:List TxA} {ba:Option Addr} {bc:Nat} {bg:List Int} {q q2:Q4} {S S2:SA} {w w1 w2 w':World}
def SQ (P:Nat) (S:SA) (q:Q4) (w:World):Prop:=∀w':World,w.heap.size<=w'.heap.size->(∀b,b<w.heap.size->b≠P->w'.heap[b]?=w.heap[b]?)->StaQ S q w'
structure Dek (P:Nat) (m:Int) (la:Option Addr) (lc:Nat) (l:List TxA) (ba:Option Addr) (bc:Nat) (bg:List Int) (q:Q4) (S:SA) (w:World):Prop where
 cs:w.cell? ⟨P,0,Q⟩=Y I m/\w.cell? ⟨P,1,Q⟩=J la l.length lc/\w.cell? ⟨P,2,Q⟩=J ba bg.length bc/\w.cell? ⟨P,3,Q⟩=J q.sa q.sn q.sc/\w.cell? ⟨P,4,Q⟩=J q.ra q.rn q.rc/\w.cell? ⟨P,5,Q⟩=J q.wa q.wn q.tc/\w.cell? ⟨P,6,Q⟩=J q.va q.vn q.vc
 fz:∀j,w.frozen? ⟨P,j,Q⟩=false
 tx:∀w',w.grownBy w' (M P)->IsTxs w' la l
 st:SQ P S q w
 ib:∀w':World,w.heap.size<=w'.heap.size->(∀b,b<w.heap.size->b≠P->w'.heap[b]?=w.heap[b]?)->IsInts w' ba bg
theorem Dek.pl (h:Dek P m la lc l ba bc bg q S w):P<w.heap.size:=np w ⟨P,0,Q⟩ h.cs.1
theorem Dek.frame (h:Dek P m la lc l ba bc bg q S w) (hP:w'.heap[P]?=w.heap[P]?) (hg:w.grownBy w' (M P)):Dek P m la lc l ba bc bg q S w':=by
 have e:∀j,w'.cell? ⟨P,j,Q⟩=w.cell? _:=fun j=>nu hP
 have blk:∀b,b<w.heap.size->b≠P->w'.heap[b]?=w.heap[b]?:=fun b hl hne=>hg.block b hl (fun e=>by injection e with e;exact hne e)
 refine⟨?_,fun j=>?_,fun w2 h2=>h.tx w2 (cN hg h2),fun w2 h1 h2=>h.st w2 (nh hg.size h1) (fun b hl hne=>(h2 b (nd hl hg.size) hne).trans (blk b hl hne)),fun w2 h1 h2=>h.ib w2 (nh hg.size h1) (fun b hl hne=>(h2 b (nd hl hg.size) hne).trans (blk b hl hne))⟩
 ·simp only[e];exact h.cs
 ·rw[nv hP];exact h.fz j
theorem Dek.on (h:Dek P m la lc l ba bc bg q S w) (hb:Below w.heap.size w w'):Dek P m la lc l ba bc bg q S w':=h.frame (hb.block P h.pl) (bG hb)
theorem Dek.txs (h:Dek P m la lc l ba bc bg q S w):IsTxs w la l:=h.tx w (bG br)
theorem Dek.sta (h:Dek P m la lc l ba bc bg q S w):StaQ S q w:=h.st w nr (fun _ _ _=>rfl)
theorem Dek.bgs (h:Dek P m la lc l ba bc bg q S w):IsInts w ba bg:=h.ib w nr (fun _ _ _=>rfl)
theorem StaF.sq {a:Nat} (h:StaF a S q w) (ha:P<a):SQ P S q w:=fun w' h1 h2=>h w' (fun b hb hl=>h2 b hl om) h1
theorem Dek.putD (h:Dek P m la lc l ba bc bg q S w) (hb:Below w.heap.size w w2) (hs:SQ P S2 q2 w2) :
  letI Z:=(((w2.setCell ⟨P,3,Q⟩ (J q2.sa q2.sn q2.sc)).setCell ⟨P,4,Q⟩ (J q2.ra q2.rn q2.rc)).setCell ⟨P,5,Q⟩ (J q2.wa q2.wn q2.tc)).setCell ⟨P,6,Q⟩ (J q2.va q2.vn q2.vc);Dek P m la lc l ba bc bg q2 S2 Z/\w.grownBy Z (M P):=by
 obtain⟨k0,k1,k2,k3,k4,k5,k6⟩:=(h.on hb).cs
 have blk:∀b,b≠P->((((w2.setCell ⟨P,3,Q⟩ (J q2.sa q2.sn q2.sc)).setCell ⟨P,4,Q⟩ (J q2.ra q2.rn q2.rc)).setCell ⟨P,5,Q⟩ (J q2.wa q2.wn q2.tc)).setCell ⟨P,6,Q⟩ (J q2.va q2.vn q2.vc)).heap[b]?=w2.heap[b]?:=fun b hne=>by
  exact Xo
 have hsz:((((w2.setCell ⟨P,3,Q⟩ (J q2.sa q2.sn q2.sc)).setCell ⟨P,4,Q⟩ (J q2.ra q2.rn q2.rc)).setCell ⟨P,5,Q⟩ (J q2.wa q2.wn q2.tc)).setCell ⟨P,6,Q⟩ (J q2.va q2.vn q2.vc)).heap.size=w2.heap.size:=by simp only[World.size_setCell]
 have hg2:w2.grownBy ((((w2.setCell ⟨P,3,Q⟩ (J q2.sa q2.sn q2.sc)).setCell ⟨P,4,Q⟩ (J q2.ra q2.rn q2.rc)).setCell ⟨P,5,Q⟩ (J q2.wa q2.wn q2.tc)).setCell ⟨P,6,Q⟩ (J q2.va q2.vn q2.vc)) (M P):=⟨rfl,rfl,rfl,by rw[hsz];exact nr,fun b hl hne=>blk b (fun e=>hne (by rw[e]))⟩;have hg:w.grownBy ((((w2.setCell ⟨P,3,Q⟩ (J q2.sa q2.sn q2.sc)).setCell ⟨P,4,Q⟩ (J q2.ra q2.rn q2.rc)).setCell ⟨P,5,Q⟩ (J q2.wa q2.wn q2.tc)).setCell ⟨P,6,Q⟩ (J q2.va q2.vn q2.vc)) (M P):=cN (bG hb) hg2;refine⟨⟨⟨?_,?_,?_,?_,?_,?_,?_⟩,fun j=>?_,fun w' h'=>h.tx w' (cN hg h'),fun w' h1 h2=>?_,fun w' h1 h2=>?_⟩,hg⟩
 ·exact aE dc (aE dc (aE dc (aE dc k0)))
 ·exact aE dc (aE dc (aE dc (aE dc k1)))
 ·exact aE dc (aE dc (aE dc (aE dc k2)))
 ·exact aE dc (aE dc (aE dc (aK k3)))
 ·exact aE dc (aE dc (aK (aE dc k4)))
 ·exact aE dc (aK (aE dc (aE dc k5)))
 ·exact aK (aE dc (aE dc (aE dc k6)))
 ·have:=(h.on hb).fz j;exact Xd
 ·rw[hsz]at h1 h2;exact hs w' h1 (fun b hl hne=>by rw[h2 b hl hne,blk b hne])
 ·rw[hsz]at h1 h2;exact(h.on hb).ib w' h1 (fun b hl hne=>by rw[h2 b hl hne,blk b hne])
def oU (P:Nat) (m:Int) (la:Option Addr) (lc:Nat) (l:List TxA) (w:World) (r:List UInt8×List Int×SA) (e:Ending) (w':World):Prop:=
 e=rt (aM r.1)/\∃(ba:Option Addr) (bc:Nat) (q2:Q4),Dek P m la lc l ba bc r.2.1 q2 r.2.2 w'/\w.grownBy w' (M P)
theorem eC (h:Dek P m la lc l ba bc bg q S w) {e:Ending} (he:e=rt (aM x)) (hb:Below w.heap.size w w1):oU P m la lc l w (x,bg,S) e w1:=
 ⟨he,ba,bc,q,h.on hb,bG hb⟩
end
theorem bW (z:Int) (h:0<=z/\z<=100) (w:World):Kr 50 #[Y I z] w (aM ([101,114,114,111,114,32]++cL z)):=by
 have C1:=aI (gY z om om w);have hl:=(nE (n:=z) om om).2;have f1:=sU [101,114,114,111,114,32] (cL z) (by simp;omega);unfold aM at C1 ⊢;generalize ByteArray.mk ([101,114,114,111,114,32]++cL z).toArray=T at *;generalize ByteArray.mk (cL z).toArray=X at *;go_enter func50,ntmps50
 go_wp2_with fail
 refine C1.out.mono ?_;rintro e w1 ⟨rfl,hb⟩;have B:=aI hb;clear hb C1;go_wp2;go_ret;exact⟨rfl,B.out⟩
theorem strs3 {w:World} {a:Option Addr} {y z:List UInt8} (h:IsStrs w a [x,y,z]):∃b off,a=M ⟨b,off,Q⟩/\w.cell? ⟨b,off,Q⟩=M (aM x)/\w.cell? ⟨b,off+1,Q⟩=M (aM y)/\w.cell? ⟨b,off+2,Q⟩=M (aM z):=by
 obtain⟨b,off,rfl,_,c0⟩:=h 0 sm;obtain⟨b1,off1,e1,_,c1⟩:=h 1 sm;obtain⟨b2,off2,e2,_,c2⟩:=h 2 sm;injection e1 with e1
 injection e1 with e1 e3
 injection e2 with e2
 injection e2 with e2 e4
 subst e1 e2 e3 e4;exact⟨b,off,rfl,c0,c1,c2⟩
theorem fC (s:List UInt8) (hs:s.length<=4096) (n:Int) (h:cG s=M n) (w:World):Kr 52 #[aM s] w (tu #[Y I n,bo true]):=
 (lA s hs w).mono (by
  rintro e w' ⟨⟨m,rfl,hm⟩,hb⟩;rw[hm n h,h];exact⟨rfl,hb⟩)
theorem tL (s:List UInt8) (hs:s.length<=4096) (h:cG s=Q) (w:World):Calls prog 52 #[aM s] w fun e w'=>∃m:Int,e=rt (tu #[Y I m,bo false])/\Below w.heap.size w w':=
 (lA s hs w).mono (by
  rintro e w' ⟨⟨m,rfl,hm⟩,hb⟩;rw[h];exact⟨m,rfl,hb⟩)
theorem gT (x:List UInt8) (hx:x.length<=4096) {a b c:List UInt8} (h:eT 32 x=[a,b,c]) (w:World):Calls prog 51 #[aM x] w fun e w'=>∃sb off sc,e=rt (J (M ⟨sb,off,Q⟩) 3 sc)/\w'.cell? ⟨sb,off,Q⟩=M (aM a)/\w'.cell? ⟨sb,off+1,Q⟩=M (aM b)/\w'.cell? ⟨sb,off+2,Q⟩=M (aM c)/\Below w.heap.size w w':=
 (rX x hx w).mono (by
  rintro e w' ⟨a,c,rfl,hI,hb⟩;rw[h]at hI ⊢;obtain⟨sb,off,rfl,h0,h1,h2⟩:=strs3 hI;exact⟨sb,off,c,rfl,h0,h1,h2,hb⟩)
theorem qD (x:List UInt8) (hx:x.length<=4096) (n:Nat) (h:(eT 32 x).length=n) (w:World):Calls prog 51 #[aM x] w fun e w'=>∃sa sc,e=rt (J sa n sc)/\Below w.heap.size w w':=
 (rX x hx w).mono (by
  rintro e w' ⟨a,c,rfl,_,hb⟩;rw[h];exact⟨a,c,rfl,hb⟩)
end
theorem VE (h:p:=by
 rw[<-ho];have e:lY (sh:Int) l S=dB (sh:Int).toNat l S:=if_pos hst;rw[e,lq]):p:=h
section
section
variable (P:Nat) (sh:Nat) (la:Option Addr) (lc:Nat) (l:List TxA) (ba:Option Addr) (bc:Nat) (bg:List Int) (q:Q4) (S:SA) (w:World)
theorem gvCan_over (h:Dek P (sh:Int) la lc l ba bc bg q S w) (hp:aN (sh:Int) l=0) (hst:cZ (sh:Int) l S=0) (ho:lY (sh:Int) l S=true):Kr 25 #[pd (M ⟨P,0,Q⟩),aM [99,97,110]] w (aM [111,118,101,114]):=by
 have H:=aI h;have CS:=aI (qD [99,97,110] dc 1 dc w)
 have hF:Hid (Form sh l S):=by
  exact yu
 have CO:Hid (∀w',Below _ w w'->Calls _ 55 _ w' fun e w''=>e=rt _/\Below _ w' w''):=fun w' hb=>by
  have h1:=mQ (lc:=lc) (h.on hb).txs (h.on hb).sta hp hF.out
  have h2:dB sh l S=true:=by
   exact VE
  rw[h2]at h1;exact h1
 clear h hp hst;unfold aM at CS
 try unfold aM
 go_enter func25,ntmps25
 go_wp2_with fail
 refine CS.out.mono ?_;rintro e u ⟨sa0,sc0,rfl,hbu⟩;have BU:=aI hbu
 have KS:Hid (∀w',Below _ u w'->w'.cell? _=M _/\w'.cell? _=M _/\w'.cell? _=M _/\w'.cell? _=M _/\w'.cell? _=M _/\w'.cell? _=M _/\w'.cell? _=M _/\Hid _):=fun w' hb=>by
  exact vx
 clear hbu CS
 go_upto_region 25 with fail
 refine wp_region_held_drew (S:=(fun w'=>w'.cell? ⟨P,0,Q⟩=Y I sh/\w'.cell? ⟨P,1,Q⟩=J la l.length lc/\w'.cell? ⟨P,2,Q⟩=J ba bg.length bc/\w'.cell? ⟨P,3,Q⟩=J q.sa q.sn q.sc/\w'.cell? ⟨P,4,Q⟩=J q.ra q.rn q.rc/\w'.cell? ⟨P,5,Q⟩=J q.wa q.wn q.tc/\w'.cell? ⟨P,6,Q⟩=J q.va q.vn q.vc/\Hid (Below u.heap.size u w'))) kr ?_ (fun hHeld=>?_)
 ·exact KS.out _ (aD br)
 refine tk 0 ?_;refine tk 1 ?_;refine tk 2 ?_;refine tk 3 ?_;refine tk 4 ?_;refine tk 5 ?_;refine tk 6 ?_;refine tk 7 ?_;refine r1 8 (fun K hK=>?_);go_simp;obtain⟨k0,k1,k2,k3,k4,k5,k6,hbx⟩:=hHeld
 go_wp2_with (go_at_call 55;refine(CO.out _ (aC BU.out hbx.out)).mono ?_;rintro e w1 ⟨rfl,hb1⟩)
 have B1:=Hi (aC hbx.out hb1);clear k0 k1 k2 k3 k4 k5 k6 hbx hb1;have hHeld:=trivial;clear hHeld;refine hK.out _ _ (KS.out _ B1.out) (fun hHeld=>?_);clear hK K;refine wpAnyH_done kr ?_ _;clear hHeld;go_wp2;go_ret;exact⟨rfl,aC BU.out B1.out⟩
theorem gvCan_steps (h:Dek P (sh:Int) la lc l ba bc bg q S w) (hp:aN (sh:Int) l=0) (hst:cZ (sh:Int) l S=0) (ho:lY (sh:Int) l S=false):Kr 25 #[pd (M ⟨P,0,Q⟩),aM [99,97,110]] w (aM (fO (cK (sh:Int) l S))):=by
 have H:=aI h;have CS:=aI (qD [99,97,110] dc 1 dc w)
 have hF:Hid (Form sh l S):=by
  exact yu
 have CO:Hid (∀w',Below _ w w'->Calls _ 55 _ w' fun e w''=>e=rt _/\Below _ w' w''):=fun w' hb=>by
  have h1:=mQ (lc:=lc) (h.on hb).txs (h.on hb).sta hp hF.out
  have h2:dB sh l S=false:=by
   exact VE
  rw[h2]at h1;exact h1
 have CN:Hid (∀w',Below _ w w'->Calls _ 57 _ w' fun e w''=>∃a c,e=rt (J a (cK (sh:Int) l S).length c)/\IsSteps w'' a (cK (sh:Int) l S)/\Below _ w' w''):=fun w' hb=>by
  have e:cK (sh:Int) l S=dF (sh:Int).toNat l S:=if_pos hst;rw[e,lq];exact docCan_q (lc:=lc) (h.on hb).txs (h.on hb).sta hp hF.out
 have CT:=Hi (fun a c w h=>docSteps_any a c _ (nh (desk_cn hst) dc) (fun p hp=>(desk_cl hst p hp).2) w h);unfold aM at CT ⊢;generalize ByteArray.mk (fO (cK (sh:Int) l S)).toArray=T at *;generalize cK (sh:Int) l S=L at *;clear h hp hst;unfold aM at CS
 try unfold aM
 go_enter func25,ntmps25
 go_wp2_with fail
 refine CS.out.mono ?_;rintro e u ⟨sa0,sc0,rfl,hbu⟩;have BU:=aI hbu
 have KS:Hid (∀w',Below _ u w'->w'.cell? _=M _/\w'.cell? _=M _/\w'.cell? _=M _/\w'.cell? _=M _/\w'.cell? _=M _/\w'.cell? _=M _/\w'.cell? _=M _/\Hid _):=fun w' hb=>by
  exact vx
 clear hbu CS
 go_upto_region 25 with fail
 refine wp_region_held_drew (S:=(fun w'=>w'.cell? ⟨P,0,Q⟩=Y I sh/\w'.cell? ⟨P,1,Q⟩=J la l.length lc/\w'.cell? ⟨P,2,Q⟩=J ba bg.length bc/\w'.cell? ⟨P,3,Q⟩=J q.sa q.sn q.sc/\w'.cell? ⟨P,4,Q⟩=J q.ra q.rn q.rc/\w'.cell? ⟨P,5,Q⟩=J q.wa q.wn q.tc/\w'.cell? ⟨P,6,Q⟩=J q.va q.vn q.vc/\Hid (Below u.heap.size u w'))) kr ?_ (fun hHeld=>?_)
 ·exact KS.out _ (aD br)
 refine tk 0 ?_;refine tk 1 ?_;refine tk 2 ?_;refine tk 3 ?_;refine tk 4 ?_;refine tk 5 ?_;refine tk 6 ?_;refine tk 7 ?_;refine r1 8 (fun K hK=>?_);go_simp;obtain⟨k0,k1,k2,k3,k4,k5,k6,hbx⟩:=hHeld
 go_wp2_with (go_at_call 55;refine(CO.out _ (aC BU.out hbx.out)).mono ?_;rintro e w1 ⟨rfl,hb1⟩)
 have B1:=Hi (aC hbx.out hb1);clear k0 k1 k2 k3 k4 k5 k6 hbx hb1;have hHeld:=trivial;clear hHeld;refine hK.out _ _ (KS.out _ B1.out) (fun hHeld=>?_);clear hK K;refine wpAnyH_done kr ?_ _;clear hHeld;obtain⟨V,hV⟩:=nm (w1);subst hV
 have KV:Hid (∀w',Below _ V w'->w'.cell? _=M _/\w'.cell? _=M _/\w'.cell? _=M _/\w'.cell? _=M _/\w'.cell? _=M _/\w'.cell? _=M _/\w'.cell? _=M _/\Hid _):=fun w' hb=>by
  exact Vb
 clear KS CO
 go_upto_region 27 with fail
 refine wp_region_held_drew (S:=(fun w'=>w'.cell? ⟨P,0,Q⟩=Y I sh/\w'.cell? ⟨P,1,Q⟩=J la l.length lc/\w'.cell? ⟨P,2,Q⟩=J ba bg.length bc/\w'.cell? ⟨P,3,Q⟩=J q.sa q.sn q.sc/\w'.cell? ⟨P,4,Q⟩=J q.ra q.rn q.rc/\w'.cell? ⟨P,5,Q⟩=J q.wa q.wn q.tc/\w'.cell? ⟨P,6,Q⟩=J q.va q.vn q.vc/\Hid (Below V.heap.size V w'))) kr ?_ (fun hHeld=>?_)
 ·exact KV.out _ (aD br)
 refine tk 0 ?_;refine tk 1 ?_;refine tk 2 ?_;refine tk 3 ?_;refine tk 4 ?_;refine tk 5 ?_;refine tk 6 ?_;refine tk 7 ?_;refine r1 8 (fun K hK=>?_);go_simp;obtain⟨k0,k1,k2,k3,k4,k5,k6,hbx⟩:=hHeld
 go_wp2_with (go_at_call 57;refine(CN.out _ (aC BU.out (aC B1.out hbx.out))).mono ?_;rintro e w1 ⟨xa,xc,rfl,hX,hb1⟩)
 have B2:=Hi (aC hbx.out hb1);have HX:=aI hX;clear hX;clear k0 k1 k2 k3 k4 k5 k6 hbx hb1;have hHeld:=trivial;clear hHeld;refine hK.out _ _ (KV.out _ B2.out) (fun hHeld=>?_);clear hK K;refine r1 9 (fun K hK=>?_);go_simp;obtain⟨k0,k1,k2,k3,k4,k5,k6,hbx⟩:=hHeld
 go_wp2_with (go_at_call 56;refine(CT.out xa xc _ HX.out).mono ?_;rintro e w2 ⟨rfl,hb2⟩)
 have B3:=Hi (aC B2.out hb2);clear k0 k1 k2 k3 k4 k5 k6 hbx hb2;have hHeld:=trivial;clear hHeld;refine hK.out _ _ (KV.out _ B3.out) (fun hHeld=>?_);clear hK K;refine tk 10 ?_;refine wpAnyH_done kr ?_ _;clear hHeld;go_wp2;go_ret;exact⟨rfl,aC BU.out (aC B1.out B3.out)⟩
end
end
section
theorem txt_step (s:List Int) (k:Nat) (h1:1<=k) (h:k<s.length):oW (s.take (k+1))=oW (s.take k)++[32]++cL (s.getD k 0):=by
 have e:s.take (k+1)=s.take k++[s.getD k 0]:=by
  rw[lp h];exact Xa
 unfold oW
 rw[e,ny,List.map_cons,List.map_nil,aAx _ _ _ (by
  intro hn;have:=congrArg List.length hn;rw[lm,l6,List.length_nil]at this;omega)]
theorem txt_one (s:List Int) (h:0<s.length):oW (s.take 1)=cL (s.getD 0 0):=by
 match s,h with
 | z::t,_=>simp[oW,Lib.join_cons,Lib.joinTail]
theorem txt_take_len {s:List Int} (h:∀z∈s,jP z) (h8:s.length=8) (k:Nat):(oW (s.take k)).length<=200:=by
 match hs:s.take k with
 | []=>simp[oW,Lib.join]
 | z::t=>
  have hm:=fun y hy=>h y (List.mem_of_mem_take (by rw[hs];exact hy))
  have hl:(z::t).length<=8:=by rw[<-hs,l6];omega
  have hz:=oL (hm z wl)
  have ht:=nC [32] 20 (t.map cL) (fun x hx=>by
   obtain⟨y,hy,rfl⟩:=List.mem_map.1 hx;exact oL (hm y (ly _ hy)))
  rw[lh]at hl;unfold oW;rw[List.map_cons,Lib.join_cons,nj];rw[lm]at ht;simp only[List.length_singleton]at ht;have:(1+20)*t.length<=21*7:=l5 om om;omega
section
variable (P:Nat) (sh:Nat) (la:Option Addr) (lc:Nat) (l:List TxA) (ba:Option Addr) (bc:Nat) (bg:List Int) (q:Q4) (S:SA) (w:World)
theorem gvStore (h:Dek P (sh:Int) la lc l ba bc bg q S w) (_hp:aN (sh:Int) l=0) (hst:cZ (sh:Int) l S=0) (hi:∀z∈S.st,jP z):Kr 25 #[pd (M ⟨P,0,Q⟩),aM [115,116,111,114,101]] w (aM (oW S.st)):=by
 have H:=aI h;have CS:=aI (qD [115,116,111,114,101] dc 1 dc w);have h8:=aI (kE hst);have HI:=aI hi;have CD:Hid (∀(k:Nat) (w:World),Calls prog 9 #[Y I (S.st.getD k 0)] w fun e w'=>e=rt _/\Below w.heap.size w w'):=fun k w=>gY _ (by have:=xU hi k;unfold jP at this;omega) (by have:=xU hi k;unfold jP at this;omega) w
 have hsn:=Hi (h.sta.1.trans (kE hst));clear h _hp hst;unfold aM at CS
 try unfold aM
 go_enter func25,ntmps25
 go_wp2_with fail
 refine CS.out.mono ?_;rintro e u ⟨sa0,sc0,rfl,hbu⟩;have BU:=aI hbu
 have KS:Hid (∀w',Below u.heap.size u w'->w'.cell? _=M _/\w'.cell? _=M _/\w'.cell? _=M _/\w'.cell? ⟨P,3,Q⟩=M _/\w'.cell? _=M _/\w'.cell? _=M _/\w'.cell? ⟨P,6,Q⟩=M _/\Hid _):=fun w' hb=>by
  exact vx
 clear hbu CS;obtain⟨k0,k1,k2,k3,k4,k5,k6,_⟩:=KS.out _ br;rw[hsn.out]at k3;obtain⟨sb,off,eS,_,c0⟩:=(H.out.on BU.out).sta.2.2.2.2.st 0 (by rw[h8.out];decide)
 have CELL:Hid (∀(k:Nat) (w':World),k<8->Below u.heap.size u w'->w'.cell? _=M _):=fun k w' hk hb=>by
  obtain⟨sb',off',e',_,c'⟩:=(H.out.on (aC BU.out hb)).sta.2.2.2.2.st k (by rw[h8.out];exact hk);exact Xg
 rw[eS]at k3;rw[Nat.add_zero]at c0;have C0:=aI (CD.out 0)
 go_wp2_with fail
 refine(C0.out _).mono ?_;rintro e u1 ⟨rfl,hb1⟩;have K3:Hid (∀w',Below u1.heap.size u1 w'->w'.cell? _=M _):=fun w' hb=>aB (aC hb1 hb) k3
 have CELL1:=Hi (fun k w' hk hb=>CELL.out k w' hk (aC hb1 hb));have BU1:=Hi (aC BU.out hb1);have H1:=aI (txt_one S.st (by rw[h8.out];decide));have HS:=aI (fun k (h1:1<=k) (hk:k<8)=>txt_step S.st k h1 (by rw[h8.out];exact hk));have HLN:=aI (txt_take_len HI.out h8.out);have HIL:=aI (fun k=>oL (xU HI.out k));have HA:Hid (oW (S.st.take 8)=oW S.st):=by show _=_;rw[le (by rw[h8.out];decide)]
 rw[<-H1.out];clear k0 k1 k2 k3 k4 k5 k6 c0 hb1 KS BU C0 CELL hsn H1 h8 HI eS;go_wp2
 go_loopw [14,15] (fun s i wr=>∃k:Nat,1<=k/\k<=8/\i=Y I (k:Nat)/\s=aM (oW (S.st.take k))/\Hid (Below u1.heap.size u1 wr)) (fun _ i _=>8 - (intOf i).toNat)
 case atStart=>exact⟨1,by decide,by decide,rfl,rfl,br⟩
 case round=>
  obtain⟨k,hk1,hk8,rfl,rfl,hB⟩:=hrel;by_cases hlt:k<8
  ·have i1:(k:Int)<8:=om;have d0:=K3.out _ hB.out;have d1:=CELL1.out k _ hlt hB.out;have f1:=sU (oW (S.st.take k)) [32] (by have:=HLN.out k;rw[lz];omega);have f2:=sU (oW (S.st.take k)++[32]) (cL (S.st.getD k 0)) (by have:=HLN.out k;have:=HIL.out k;rw[nj,lz];omega);rw[<-HS.out k hk1 hlt]at f2;have CK:=aI (CD.out k);unfold aM at CK ⊢;obtain⟨T0,hT0⟩:=nm (ByteArray.mk (oW (S.st.take k)).toArray);obtain⟨T1,hT1⟩:=nm (ByteArray.mk (oW (S.st.take k)++[32]).toArray);obtain⟨T2,hT2⟩:=nm (ByteArray.mk (oW (S.st.take (k+1))).toArray);obtain⟨T3,hT3⟩:=nm (ByteArray.mk (cL (S.st.getD k 0)).toArray);obtain⟨z,hz⟩:=nm (S.st.getD k 0);rw[<-hT0,<-hT1]at f1;rw[<-hT1,<-hT3,<-hT2]at f2;rw[<-hT3]at CK;rw[<-hz]at CK d1;rw[<-hT0];have HT2:=aI hT2;clear hT0 hT1 hT2 hT3 hz HLN HIL HS CD
   go_wp2_with fail
   refine(CK.out _).mono ?_;rintro e w2 ⟨rfl,hb2⟩;have B2:=aI (aC hB.out hb2);clear hb2 CK;go_wp2;go_roundw
   case rel=>exact⟨k+1,by omega,by omega,by go_num,by rw[HT2.out],B2⟩
   case measure=>simp[intOf];omega
  ·have i1:¬(k:Int)<8:=om;have hk:k=8:=om;have HK:Hid (oW (S.st.take k)=oW S.st):=by show _=_;rw[hk];exact HA.out
   have B2:=aI (aC BU1.out hB.out);clear hk HA K3 CELL1;go_wp2;go_ret;exact⟨by rw[<-HK.out];rfl,B2.out⟩
end
end
theorem uc (h:p:=by
 have hm:=bL 32 x;have la1:=nh (hm a (by rw[hn];simp)) hx;have lb1:=nh (hm b (by rw[hn];simp)) hx;have CS:=aI (gT x hx hn w);have CA:=aI (tL a la1 ha);have CB:=aI (lA b lb1);have CF:=aI (bW 1 dc);clear hm la1 lb1 hx hn;unfold NumR at CB;unfold aM at *;generalize ByteArray.mk ([101,114,114,111,114,32]++cL 1).toArray=T at *;generalize ByteArray.mk x.toArray=Yy at *;generalize ByteArray.mk a.toArray=A at *;generalize ByteArray.mk b.toArray=B at *;go_enter func25,ntmps25
 go_wp2_with fail
 refine CS.out.mono ?_;rintro e u ⟨sb,off,sc0,rfl,c0,c1,c2,hbu⟩;have BU:=aI hbu;clear hbu CS
 go_wp2_with fail
 refine(CA.out _).mono ?_;rintro e u1 ⟨m1,rfl,hb1⟩;have d0:=aB hb1 c0;have d2:=aB hb1 c2;have BU1:=aI (aC BU.out hb1);clear c0 c1 c2 hb1 BU CA
 go_wp2_with fail
 refine(CB.out _).mono ?_;rintro e u2 ⟨⟨m2,rfl,_⟩,hb2⟩;exact vj):p:=h
theorem ud (h:p:=by
 have hm:=bL 32 x;have la1:=nh (hm a (by rw[hn];simp)) hx;have lb1:=nh (hm b (by rw[hn];simp)) hx;have CS:=aI (gT x hx hn w);have CA:=aI (fC a la1 n ha);have CB:=aI (tL b lb1 hb);have CF:=aI (bW 1 dc);clear hm la1 lb1 hx hn;unfold aM at *;generalize ByteArray.mk ([101,114,114,111,114,32]++cL 1).toArray=T at *;generalize ByteArray.mk x.toArray=Yy at *;generalize ByteArray.mk a.toArray=A at *;generalize ByteArray.mk b.toArray=B at *;go_enter func25,ntmps25
 go_wp2_with fail
 refine CS.out.mono ?_;rintro e u ⟨sb,off,sc0,rfl,c0,c1,c2,hbu⟩;have BU:=aI hbu;clear hbu CS
 go_wp2_with fail
 refine(CA.out _).mono ?_;rintro e u1 ⟨rfl,hb1⟩;have d0:=aB hb1 c0;have d2:=aB hb1 c2;have BU1:=aI (aC BU.out hb1);clear c0 c1 c2 hb1 BU CA
 go_wp2_with fail
 refine(CB.out _).mono ?_;rintro e u2 ⟨m2,rfl,hb2⟩;exact vj):p:=h
theorem ue (h:p:=by
 have hm:=bL 32 x;have la1:=nh (hm a (by rw[hn];simp)) hx;have lb1:=nh (hm b (by rw[hn];simp)) hx;have CS:=aI (gT x hx hn w);have CA:=aI (fC a la1 n ha);have CB:=aI (fC b lb1 k hb);have CF:=aI (bW 1 dc);clear hm la1 lb1 hx hn;unfold aM at *;generalize ByteArray.mk ([101,114,114,111,114,32]++cL 1).toArray=T at *;generalize ByteArray.mk x.toArray=Yy at *;generalize ByteArray.mk a.toArray=A at *;generalize ByteArray.mk b.toArray=B at *;go_enter func25,ntmps25
 go_wp2_with fail
 refine CS.out.mono ?_;rintro e u ⟨sb,off,sc0,rfl,c0,c1,c2,hbu⟩;have BU:=aI hbu;clear hbu CS
 go_wp2_with fail
 refine(CA.out _).mono ?_;rintro e u1 ⟨rfl,hb1⟩;have d0:=aB hb1 c0;have d2:=aB hb1 c2;have BU1:=aI (aC BU.out hb1);clear c0 c1 c2 hb1 BU CA
 go_wp2_with fail
 refine(CB.out _).mono ?_;rintro e u2 ⟨rfl,hb2⟩;exact vj):p:=h
theorem um (h:p:=by
 have hm:=bL 32 x;have la1:=nh (hm a (by rw[hn];simp)) hx;have lb1:=nh (hm b (by rw[hn];simp)) hx;have CS:=aI (gT x hx hn w);have CA:=aI (fC a la1 n ha);have CB:=aI (fC b lb1 k hb);have CF:=aI (bW 1 dc);clear hm la1 lb1 hx hn;unfold aM at *;generalize ByteArray.mk ([101,114,114,111,114,32]++cL 1).toArray=T at *;generalize ByteArray.mk x.toArray=Yy at *;generalize ByteArray.mk a.toArray=A at *;generalize ByteArray.mk b.toArray=B at *;go_enter func25,ntmps25
 go_wp2_with fail
 refine CS.out.mono ?_;rintro e u ⟨sb,off,sc0,rfl,c0,c1,c2,hbu⟩;have BU:=aI hbu;clear hbu CS
 go_wp2_with fail
 refine(CA.out _).mono ?_;rintro e u1 ⟨rfl,hb1⟩;have d0:=aB hb1 c0;have d2:=aB hb1 c2;have BU1:=aI (aC BU.out hb1);clear c0 c1 c2 hb1 BU CA
 go_wp2_with fail
 refine(CB.out _).mono ?_;rintro e u2 ⟨rfl,hb2⟩;have e0:=aB hb2 d0;exact vj):p:=h
theorem vj (h:p:=by
 have BU2:=aI (aC BU1.out hb2);clear d0 d2 hb2 BU1 CB
 go_wp2_with fail
 refine(CF.out _).mono ?_;rintro e w2 ⟨rfl,hb3⟩;have B2:=aI (aC BU2.out hb3);clear hb3 CF;go_wp2;exact UM):p:=h
section
section
variable (P:Nat)
theorem gv_put_bad1 (x:List UInt8) (hx:x.length<=4096) (a b:List UInt8) (hn:eT 32 x=[[112,117,116],a,b]) (ha:cG a=Q) (w:World):Kr 25 #[pd (M ⟨P,0,Q⟩),aM x] w (aM ([101,114,114,111,114,32]++cL 1)):=by
 exact uc
theorem gv_put_bad2 (x:List UInt8) (hx:x.length<=4096) (a b:List UInt8) (hn:eT 32 x=[[112,117,116],a,b]) (n:Int) (ha:cG a=M n) (hb:cG b=Q) (w:World):Kr 25 #[pd (M ⟨P,0,Q⟩),aM x] w (aM ([101,114,114,111,114,32]++cL 1)):=by
 exact ud
theorem gv_put_bad3 (x:List UInt8) (hx:x.length<=4096) (a b:List UInt8) (hn:eT 32 x=[[112,117,116],a,b]) (n k:Int) (ha:cG a=M n) (hb:cG b=M k) (h0:n<0) (w:World):Kr 25 #[pd (M ⟨P,0,Q⟩),aM x] w (aM ([101,114,114,111,114,32]++cL 1)):=by
 exact ue
theorem gv_read_bad1 (x:List UInt8) (hx:x.length<=4096) (a b:List UInt8) (hn:eT 32 x=[[114,101,97,100],a,b]) (ha:cG a=Q) (w:World):Kr 25 #[pd (M ⟨P,0,Q⟩),aM x] w (aM ([101,114,114,111,114,32]++cL 1)):=by
 exact uc
theorem gv_read_bad2 (x:List UInt8) (hx:x.length<=4096) (a b:List UInt8) (hn:eT 32 x=[[114,101,97,100],a,b]) (n:Int) (ha:cG a=M n) (hb:cG b=Q) (w:World):Kr 25 #[pd (M ⟨P,0,Q⟩),aM x] w (aM ([101,114,114,111,114,32]++cL 1)):=by
 exact ud
theorem gv_read_bad3 (x:List UInt8) (hx:x.length<=4096) (a b:List UInt8) (hn:eT 32 x=[[114,101,97,100],a,b]) (n k:Int) (ha:cG a=M n) (hb:cG b=M k) (h0:n<0) (w:World):Kr 25 #[pd (M ⟨P,0,Q⟩),aM x] w (aM ([101,114,114,111,114,32]++cL 1)):=by
 exact ue
theorem gv_read_bad4 (x:List UInt8) (hx:x.length<=4096) (a b:List UInt8) (hn:eT 32 x=[[114,101,97,100],a,b]) (n k:Int) (ha:cG a=M n) (hb:cG b=M k) (h0:¬n<0) (h1:k<0) (w:World):Kr 25 #[pd (M ⟨P,0,Q⟩),aM x] w (aM ([101,114,114,111,114,32]++cL 1)):=by
 exact um
theorem zF (x:List UInt8) (hx:x.length<=4096) (a b:List UInt8) (hn:eT 32 x=[[119,114,105,116,101],a,b]) (ha:cG a=Q) (w:World):Kr 25 #[pd (M ⟨P,0,Q⟩),aM x] w (aM ([101,114,114,111,114,32]++cL 1)):=by
 exact uc
theorem zE (x:List UInt8) (hx:x.length<=4096) (a b:List UInt8) (hn:eT 32 x=[[119,114,105,116,101],a,b]) (n:Int) (ha:cG a=M n) (hb:cG b=Q) (w:World):Kr 25 #[pd (M ⟨P,0,Q⟩),aM x] w (aM ([101,114,114,111,114,32]++cL 1)):=by
 exact ud
theorem zD (x:List UInt8) (hx:x.length<=4096) (a b:List UInt8) (hn:eT 32 x=[[119,114,105,116,101],a,b]) (n k:Int) (ha:cG a=M n) (hb:cG b=M k) (h0:n<0) (w:World):Kr 25 #[pd (M ⟨P,0,Q⟩),aM x] w (aM ([101,114,114,111,114,32]++cL 1)):=by
 exact ue
theorem zC (x:List UInt8) (hx:x.length<=4096) (a b:List UInt8) (hn:eT 32 x=[[119,114,105,116,101],a,b]) (n k:Int) (ha:cG a=M n) (hb:cG b=M k) (h0:¬n<0) (h1:k<0) (w:World):Kr 25 #[pd (M ⟨P,0,Q⟩),aM x] w (aM ([101,114,114,111,114,32]++cL 1)):=by
 exact um
theorem gv_put_range (x:List UInt8) (hx:x.length<=4096) (a b:List UInt8) (hn:eT 32 x=[[112,117,116],a,b]) (n:Nat) (k:Int) (ha:cG a=M (n:Int)) (hb:cG b=M k) (h8:8<=n) (w:World):Kr 25 #[pd (M ⟨P,0,Q⟩),aM x] w (aM ([101,114,114,111,114,32]++cL 3)):=by
 have CK:Hid (∀w,Calls prog 53 #[Y I n] w fun e w'=>e=rt (bo false)/\w'=w):=fun w=>by
  have h1:=kN (n:Int) w
  have e:(decide (0<=(n:Int)) && decide ((n:Int)<=7))=false:=by
   rw[decide_eq_false (by omega:¬(n:Int)<=7),Bool.and_false]
  rw[e]at h1;exact h1
 have i0:¬(n:Int)<0:=om;have hm:=bL 32 x;have la1:=nh (hm a (by rw[hn];simp)) hx;have lb1:=nh (hm b (by rw[hn];simp)) hx;have CS:=aI (gT x hx hn w);have CA:=aI (fC a la1 n ha);have CB:=aI (fC b lb1 k hb);have CF:=aI (bW 3 dc);clear hm la1 lb1 hx hn;unfold aM at *;generalize ByteArray.mk ([101,114,114,111,114,32]++cL 3).toArray=T at *;generalize ByteArray.mk x.toArray=Yy at *;generalize ByteArray.mk a.toArray=A at *;generalize ByteArray.mk b.toArray=B at *;go_enter func25,ntmps25
 go_wp2_with fail
 refine CS.out.mono ?_;rintro e u ⟨sb,off,sc0,rfl,c0,c1,c2,hbu⟩;have BU:=aI hbu;clear hbu CS
 go_wp2_with fail
 refine(CA.out _).mono ?_;rintro e u1 ⟨rfl,hb1⟩;have d0:=aB hb1 c0;have d2:=aB hb1 c2;have BU1:=aI (aC BU.out hb1);clear c0 c1 c2 hb1 BU CA
 go_wp2_with fail
 refine(CB.out _).mono ?_;rintro e u2 ⟨rfl,hb2⟩;have e0:=aB hb2 d0;have BU2:=aI (aC BU1.out hb2);clear d0 d2 hb2 BU1 CB;by_cases hk0:k<0
 all_goals
  go_wp2_with fail
  refine(CK.out _).mono ?_;rintro e u3 ⟨rfl,hu⟩;subst hu;clear CK
  go_wp2_with fail
  refine(CF.out _).mono ?_;rintro e w2 ⟨rfl,hb3⟩;have B2:=aI (aC BU2.out hb3);clear hb3 CF;go_wp2
 ·exact UM
 ·exact UM
end
end
theorem vl (h:p:=by
 by_cases hE0:E=0
 ·have hE:(E != 0)=false:=by simp[hE0]
  have H0:=aI hE0;clear hE0;obtain⟨hc,hg⟩:=H.out.putD (aC BW.out BV.out) (HV.out.sq HLP.out);have HC:=aI hc;have HG:=aI hg;clear hc hg HV;go_wp2;go_ret;exact Or.inl ⟨H0.out,rfl,ba,bc,q2,HC.out,HG.out⟩
 ·have hE:(E != 0)=true:=by simpa using hE0
  have H0:=aI hE0;clear hE0;clear HV k3 k4 k5 k6 zf
  go_wp2_with fail
  refine(CF.out _).mono ?_;rintro e w2 ⟨rfl,hb3⟩;have B2:=aI (aC (aC BW.out BV.out) hb3);clear hb3 CF;go_wp2;go_ret;exact Or.inr ⟨H0.out,rfl,B2.out⟩):p:=h
section
section
variable (P:Nat) (sh:Nat) (la:Option Addr) (lc:Nat) (l:List TxA) (ba:Option Addr) (bc:Nat) (bg:List Int) (q:Q4) (S:SA) (w:World)
theorem gv_do (wd:List UInt8) (kd:Int) (hk:wd=[114,101,97,100]/\kd=1∨wd=[119,114,105,116,101]/\kd=2) (x:List UInt8) (hx:x.length<=4096) (a b:List UInt8) (hn:eT 32 x=[wd,a,b]) (n k:Int) (ha:cG a=M n) (hb:cG b=M k) (h0:¬n<0) (h1:¬k<0) (h:Dek P (sh:Int) la lc l ba bc bg q S w) (hst:cZ (sh:Int) l S=0):Calls prog 25 #[pd (M ⟨P,0,Q⟩),aM x] w fun e w'=>(gM (sh:Int) l S kd n k=0/\oU P (sh:Int) la lc l w ([111,107],bg,lU (sh:Int) l S kd n k) e w')∨(¬gM (sh:Int) l S kd n k=0/\e=rt (aM ([101,114,114,111,114,32]++cL (gM (sh:Int) l S kd n k)))/\Below w.heap.size w w'):=by
 rcases hk with ⟨rfl,hk⟩ | ⟨rfl,hk⟩
 all_goals
  have hm:=bL 32 x;have la1:=nh (hm a (by rw[hn];simp)) hx;have lb1:=nh (hm b (by rw[hn];simp)) hx;have CS:=aI (gT x hx hn w);have CA:=aI (fC a la1 n ha);have CB:=aI (fC b lb1 k hb)
  have CD:Hid (∀w',Below w.heap.size w w'->Calls prog 54 #[ag #[Y I sh,J la l.length lc],ag #[J q.sa q.sn q.sc,J q.ra q.rn q.rc,J q.wa q.wn q.tc,J q.va q.vn q.vc],ag #[Y I kd,Y I n,Y I k]] w' fun e w''=>∃q2:Q4,e=rt (tu #[ag #[J q2.sa q2.sn q2.sc,J q2.ra q2.rn q2.rc,J q2.wa q2.wn q2.tc,J q2.va q2.vn q2.vc],Y I (gM (sh:Int) l S kd n k)])/\StaF w'.heap.size (lU (sh:Int) l S kd n k) q2 w''/\Below w'.heap.size w' w''):=fun w' hb=>by
   obtain⟨e1,e2,e3,e4,hs⟩:=(h.on hb).sta;have h1:=docDo_any la lc l q.sa q.ra q.wa q.va q.sc q.rc q.tc q.vc S (sh:Int) kd n k w' (h.on hb).txs hs;rw[<-e1,<-e2,<-e3,<-e4]at h1;exact h1
  have H:=aI h;have hz:=doE_few hst kd n k;have CF:=aI (bW (gM (sh:Int) l S kd n k) om);have HK:=aI hk;clear h hst hz hk;clear hm la1 lb1 hx hn;unfold aM at *;generalize ByteArray.mk ([101,114,114,111,114,32]++cL (gM (sh:Int) l S kd n k)).toArray=T at *;generalize gM (sh:Int) l S kd n k=E at *;generalize ByteArray.mk x.toArray=Yy at *;generalize ByteArray.mk a.toArray=A at *;generalize ByteArray.mk b.toArray=B at *;go_enter func25,ntmps25
  go_wp2_with fail
  refine CS.out.mono ?_;rintro e u ⟨sb,off,sc0,rfl,c0,c1,c2,hbu⟩;have BU:=aI hbu;clear hbu CS
  go_wp2_with fail
  refine(CA.out _).mono ?_;rintro e u1 ⟨rfl,hb1⟩;have d0:=aB hb1 c0;have d2:=aB hb1 c2;have BU1:=aI (aC BU.out hb1);clear c0 c1 c2 hb1 BU CA
  go_wp2_with fail
  refine(CB.out _).mono ?_;rintro e u2 ⟨rfl,hb2⟩;have e0:=aB hb2 d0;have BU2:=aI (aC BU1.out hb2);clear d0 d2 hb2 BU1 CB;have e0b:=aB (aA (n7 u2.heap.size u2) (U #[Y I 1,Y I n,Y I k] 33)) e0
  go_upto_region 18 with fail
  obtain⟨W,hWe⟩:=nm (u2.alloc (U #[Y I kd,Y I n,Y I k] 33));have BX:Hid (Below u2.heap.size u2 W):=by subst hWe;exact aA br _
  have X3:Hid (W.cell? ⟨u2.heap.size,0,Q⟩=Y I kd/\W.cell? ⟨u2.heap.size,1,Q⟩=Y I n/\W.cell? ⟨u2.heap.size,2,Q⟩=Y I k):=by
   subst hWe;exact⟨aF u2 _ 33 _ 0 _ rfl rfl,aF u2 _ 33 _ 1 _ rfl rfl,aF u2 _ 33 _ 2 _ rfl rfl⟩
  have hPW:=Hi (nd H.out.pl (aC BU2.out BX.out).size);have BW:=Hi (aC BU2.out BX.out);rw[HK.out]at hWe;rw[<-hWe];clear hWe e0 e0b BX BU2;have CD:Hid (∀w',Below W.heap.size W w'->_):=fun w' hb=>CD.out w' (aC BW.out hb)
  have KS:Hid (∀w',Below W.heap.size W w'->w'.cell? ⟨P,0,Q⟩=M _/\w'.cell? ⟨P,1,Q⟩=M _/\w'.cell? _=M _/\w'.cell? ⟨P,3,Q⟩=M _/\w'.cell? _=M _/\w'.cell? ⟨P,5,Q⟩=M _/\w'.cell? ⟨P,6,Q⟩=M _/\w'.cell? _=Y I kd/\w'.cell? _=Y I n/\w'.cell? _=Y I k/\Hid _):=fun w' hb=>by
   obtain⟨k0,k1,k2,k3,k4,k5,k6⟩:=(H.out.on (aC BW.out hb)).cs;exact⟨k0,k1,k2,k3,k4,k5,k6,aB hb X3.out.1,aB hb X3.out.2.1,aB hb X3.out.2.2,hb⟩
  clear X3;refine wp_region_held_drew (S:=(fun w'=>w'.cell? ⟨P,0,Q⟩=Y I sh/\w'.cell? ⟨P,1,Q⟩=J la l.length lc/\w'.cell? ⟨P,2,Q⟩=J ba bg.length bc/\w'.cell? ⟨P,3,Q⟩=J q.sa q.sn q.sc/\w'.cell? ⟨P,4,Q⟩=J q.ra q.rn q.rc/\w'.cell? ⟨P,5,Q⟩=J q.wa q.wn q.tc/\w'.cell? ⟨P,6,Q⟩=J q.va q.vn q.vc/\w'.cell? ⟨u2.heap.size,0,Q⟩=Y I kd/\w'.cell? ⟨u2.heap.size,1,Q⟩=Y I n/\w'.cell? ⟨u2.heap.size,2,Q⟩=Y I k/\Hid (Below W.heap.size W w'))) kr ?_ (fun hHeld=>?_)
  ·exact KS.out _ (aD br)
  refine tk 0 ?_;refine tk 1 ?_;refine tk 2 ?_;refine tk 3 ?_;refine tk 4 ?_;refine tk 5 ?_;refine tk 6 ?_;refine tk 7 ?_;refine tk 8 ?_;refine wpAnyH_ready (rs:=[9,13]) kr sm ?_;refine rq (fun K hK=>?_) (rq (fun K hK=>?_) (AllReadyH.nil))
  ·go_simp;obtain⟨k0,k1,k2,k3,k4,k5,k6,s0,s1,s2,hbx⟩:=hHeld
   go_wp2_with (go_at_call 54;refine(CD.out _ hbx.out).mono ?_;rintro e w1 ⟨q2,rfl,hsf,hb1⟩)
   have B1:=Hi (aC hbx.out hb1);obtain⟨lo,HLO,HSF⟩:∃lo,Hid (W.heap.size<=lo)/\Hid (StaF lo (lU (sh:Int) l S kd n k) q2 w1):=⟨_,hbx.out.size,hsf⟩;clear k0 k1 k2 k3 k4 k5 k6 s0 s1 s2 hbx hb1 hsf;have hHeld:=trivial;clear hHeld;refine hK.out _ _ (KS.out _ B1.out) (fun hHeld=>?_);clear hK K;refine tk 10 ?_;refine tk 11 ?_;refine tk 12 ?_;refine Go.Proofs.YtcgpkonfneofdaaGreatDoor.r1 13 (fun K hK=>?_);go_simp;have r0:((w1.alloc (U #[J Q 0 0,J Q 0 0,J Q 0 0,J Q 0 0] 45))).cell? _=J Q 0 0:=aF w1 _ 45 _ 0 _ rfl rfl;have r1:((w1.alloc (U #[J Q 0 0,J Q 0 0,J Q 0 0,J Q 0 0] 45))).cell? _=J Q 0 0:=aF w1 _ 45 _ 1 _ rfl rfl;have r2:((w1.alloc (U #[J Q 0 0,J Q 0 0,J Q 0 0,J Q 0 0] 45))).cell? _=J Q 0 0:=aF w1 _ 45 _ 2 _ rfl rfl;have r3:((w1.alloc (U #[J Q 0 0,J Q 0 0,J Q 0 0,J Q 0 0] 45))).cell? _=J Q 0 0:=aF w1 _ 45 _ 3 _ rfl rfl;have rf:∀j,((w1.alloc (U #[J Q 0 0,J Q 0 0,J Q 0 0,J Q 0 0] 45))).frozen? _=false:=fun j=>aU w1 _ 45 _ j rfl
   have BB:Hid (Below W.heap.size W ((w1.alloc (U #[J Q 0 0,J Q 0 0,J Q 0 0,J Q 0 0] 45)))):=aA B1.out _;have HOL:Hid (w1.heap.size<((w1.alloc (U #[J Q 0 0,J Q 0 0,J Q 0 0,J Q 0 0] 45))).heap.size):=by show _<_;simp
   have BW1:Hid (Below w1.heap.size w1 ((w1.alloc (U #[J Q 0 0,J Q 0 0,J Q 0 0,J Q 0 0] 45)))):=aA br _;generalize ((w1.alloc (U #[J Q 0 0,J Q 0 0,J Q 0 0,J Q 0 0] 45)))=wB at *;clear hHeld;refine hK.out _ _ (KS.out _ BB.out) (fun hHeld=>?_);clear hK K;refine Go.Proofs.YtcgpkonfneofdaaGreatDoor.r1 14 (fun K hK=>?_);go_simp;have BV:Hid (Below W.heap.size W ((((wB.setCell ⟨w1.heap.size,0,Q⟩ (J q2.sa q2.sn q2.sc)).setCell ⟨w1.heap.size,1,Q⟩ (J q2.ra q2.rn q2.rc)).setCell ⟨w1.heap.size,2,Q⟩ (J q2.wa q2.wn q2.tc)).setCell ⟨w1.heap.size,3,Q⟩ (J q2.va q2.vn q2.vc))):=aG (aG (aG (aG BB.out B1.out.size _) B1.out.size _) B1.out.size _) B1.out.size _;have HV:Hid (StaF lo _ q2 ((((wB.setCell ⟨w1.heap.size,0,Q⟩ (J q2.sa q2.sn q2.sc)).setCell ⟨w1.heap.size,1,Q⟩ (J q2.ra q2.rn q2.rc)).setCell ⟨w1.heap.size,2,Q⟩ (J q2.wa q2.wn q2.tc)).setCell ⟨w1.heap.size,3,Q⟩ (J q2.va q2.vn q2.vc))):=HSF.out.below (aG (aG (aG (aG BW1.out nr _) nr _) nr _) nr _);obtain⟨y0,y1,y2,y3⟩:=nY q2 r0 r1 r2 r3;have HLP:=Hi (nd hPW.out HLO.out);generalize ((((wB.setCell ⟨w1.heap.size,0,Q⟩ (J q2.sa q2.sn q2.sc)).setCell ⟨w1.heap.size,1,Q⟩ (J q2.ra q2.rn q2.rc)).setCell ⟨w1.heap.size,2,Q⟩ (J q2.wa q2.wn q2.tc)).setCell ⟨w1.heap.size,3,Q⟩ (J q2.va q2.vn q2.vc))=V at *;clear hHeld;refine hK.out _ _ (KS.out _ BV.out) (fun hHeld=>?_);clear hK K;refine tk 15 ?_;refine wpAnyH_done kr ?_ _;clear r0 r1 r2 r3 rf BB HOL BW1 HSF HLO B1 hHeld;obtain⟨_,_,_,k3,k4,k5,k6,_,_,_,_⟩:=KS.out _ BV.out;have zf:=(H.out.on (aC BW.out BV.out)).fz;clear KS CD;generalize w1.heap.size=O at *;exact vl
  ·go_simp;have t0:((W.alloc (U #[J Q 0 0,J Q 0 0,J Q 0 0,J Q 0 0] 45)).drew).cell? _=J Q 0 0:=aB (aD br) (aF W _ 45 _ 0 _ rfl rfl);have t1:((W.alloc (U #[J Q 0 0,J Q 0 0,J Q 0 0,J Q 0 0] 45)).drew).cell? _=J Q 0 0:=aB (aD br) (aF W _ 45 _ 1 _ rfl rfl);have t2:((W.alloc (U #[J Q 0 0,J Q 0 0,J Q 0 0,J Q 0 0] 45)).drew).cell? _=J Q 0 0:=aB (aD br) (aF W _ 45 _ 2 _ rfl rfl);have t3:((W.alloc (U #[J Q 0 0,J Q 0 0,J Q 0 0,J Q 0 0] 45)).drew).cell? _=J Q 0 0:=aB (aD br) (aF W _ 45 _ 3 _ rfl rfl);have tf:=fun j=>((aD (n7 _ (W.alloc (U #[J Q 0 0,J Q 0 0,J Q 0 0,J Q 0 0] 45)))).frozen (p:=⟨W.heap.size,j,Q⟩) sm).trans (aU W _ 45 _ j rfl)
   have BB:Hid (Below W.heap.size W ((W.alloc (U #[J Q 0 0,J Q 0 0,J Q 0 0,J Q 0 0] 45)).drew)):=aD (aA br _);have HOL:Hid (W.heap.size<((W.alloc (U #[J Q 0 0,J Q 0 0,J Q 0 0,J Q 0 0] 45)).drew).heap.size):=by show _<_;simp
   generalize ((W.alloc (U #[J Q 0 0,J Q 0 0,J Q 0 0,J Q 0 0] 45)).drew)=wB at *;clear hHeld;refine hK.out _ _ (KS.out _ BB.out) (fun hHeld=>?_);clear hK K;refine Go.Proofs.YtcgpkonfneofdaaGreatDoor.r1 9 (fun K hK=>?_);go_simp;obtain⟨k0,k1,k2,k3,k4,k5,k6,s0,s1,s2,hbx⟩:=hHeld
   go_wp2_with (go_at_call 54;refine(CD.out _ hbx.out).mono ?_;rintro e w1 ⟨q2,rfl,hsf,hb1⟩)
   have B1:=Hi (aC hbx.out hb1);obtain⟨lo,HLO,HSF⟩:∃lo,Hid (W.heap.size<lo)/\Hid (StaF lo (lU (sh:Int) l S kd n k) q2 w1):=⟨_,HOL.out,hsf⟩;have r0:=aB hb1 t0;have r1:=aB hb1 t1;have r2:=aB hb1 t2;have r3:=aB hb1 t3;have rf:=fun j=>(hb1.frozen (p:=⟨W.heap.size,j,Q⟩) HOL.out).trans (tf j)
   clear t0 t1 t2 t3 tf HOL BB;clear k0 k1 k2 k3 k4 k5 k6 s0 s1 s2 hbx hb1 hsf;have hHeld:=trivial;clear hHeld;refine hK.out _ _ (KS.out _ B1.out) (fun hHeld=>?_);clear hK K;refine tk 10 ?_;refine tk 11 ?_;refine tk 12 ?_;refine Go.Proofs.YtcgpkonfneofdaaGreatDoor.r1 14 (fun K hK=>?_);go_simp;have BV:Hid (Below W.heap.size W ((((w1.setCell ⟨W.heap.size,0,Q⟩ (J q2.sa q2.sn q2.sc)).setCell ⟨W.heap.size,1,Q⟩ (J q2.ra q2.rn q2.rc)).setCell ⟨W.heap.size,2,Q⟩ (J q2.wa q2.wn q2.tc)).setCell ⟨W.heap.size,3,Q⟩ (J q2.va q2.vn q2.vc))):=aG (aG (aG (aG B1.out nr _) nr _) nr _) nr _;have HV:Hid (StaF lo _ q2 ((((w1.setCell _ (J q2.sa q2.sn q2.sc)).setCell _ (J q2.ra q2.rn q2.rc)).setCell _ (J q2.wa q2.wn q2.tc)).setCell _ (J q2.va q2.vn q2.vc))):=(((HSF.out.set _ 0 _ HLO.out).set _ 1 _ HLO.out).set _ 2 _ HLO.out).set _ 3 _ HLO.out;obtain⟨y0,y1,y2,y3⟩:=nY q2 r0 r1 r2 r3;have HLP:=Hi (nd hPW.out (wi HLO.out));generalize ((((w1.setCell ⟨W.heap.size,0,Q⟩ (J q2.sa q2.sn q2.sc)).setCell ⟨W.heap.size,1,Q⟩ (J q2.ra q2.rn q2.rc)).setCell ⟨W.heap.size,2,Q⟩ (J q2.wa q2.wn q2.tc)).setCell ⟨W.heap.size,3,Q⟩ (J q2.va q2.vn q2.vc))=V at *;clear hHeld;refine hK.out _ _ (KS.out _ BV.out) (fun hHeld=>?_);clear hK K;refine tk 15 ?_;refine wpAnyH_done kr ?_ _;clear r0 r1 r2 r3 rf HSF HLO B1 hHeld;obtain⟨_,_,_,k3,k4,k5,k6,_,_,_,_⟩:=KS.out _ BV.out;have zf:=(H.out.on (aC BW.out BV.out)).fz;clear KS CD;exact vl
theorem gv_read_ok (x:List UInt8) (hx:x.length<=4096) (a b:List UInt8) (hn:eT 32 x=[[114,101,97,100],a,b]) (n k:Int) (ha:cG a=M n) (hb:cG b=M k) (h0:¬n<0) (h1:¬k<0) (h:Dek P (sh:Int) la lc l ba bc bg q S w) (hst:cZ (sh:Int) l S=0) (hd:gM (sh:Int) l S 1 n k=0):Calls prog 25 #[pd (M ⟨P,0,Q⟩),aM x] w fun e w'=>oU P (sh:Int) la lc l w ([111,107],bg,lU (sh:Int) l S 1 n k) e w':=
 (gv_do P sh la lc l ba bc bg q S w _ 1 (Or.inl ⟨rfl,rfl⟩) x hx a b hn n k ha hb h0 h1 h hst).mono fun _ _ hp=>hp.elim (fun hp=>hp.2) (fun hp=>absurd hd hp.1)
theorem gv_read_err (x:List UInt8) (hx:x.length<=4096) (a b:List UInt8) (hn:eT 32 x=[[114,101,97,100],a,b]) (n k:Int) (ha:cG a=M n) (hb:cG b=M k) (h0:¬n<0) (h1:¬k<0) (h:Dek P (sh:Int) la lc l ba bc bg q S w) (hst:cZ (sh:Int) l S=0) (hd:¬gM (sh:Int) l S 1 n k=0):Kr 25 #[pd (M ⟨P,0,Q⟩),aM x] w (aM ([101,114,114,111,114,32]++cL (gM (sh:Int) l S 1 n k))):=
 (gv_do P sh la lc l ba bc bg q S w _ 1 (Or.inl ⟨rfl,rfl⟩) x hx a b hn n k ha hb h0 h1 h hst).mono fun _ _ hp=>hp.elim (fun hp=>absurd hp.1 hd) (fun hp=>hp.2)
theorem gv_write_ok (x:List UInt8) (hx:x.length<=4096) (a b:List UInt8) (hn:eT 32 x=[[119,114,105,116,101],a,b]) (n k:Int) (ha:cG a=M n) (hb:cG b=M k) (h0:¬n<0) (h1:¬k<0) (h:Dek P (sh:Int) la lc l ba bc bg q S w) (hst:cZ (sh:Int) l S=0) (hd:gM (sh:Int) l S 2 n k=0):Calls prog 25 #[pd (M ⟨P,0,Q⟩),aM x] w fun e w'=>oU P (sh:Int) la lc l w ([111,107],bg,lU (sh:Int) l S 2 n k) e w':=
 (gv_do P sh la lc l ba bc bg q S w _ 2 (Or.inr ⟨rfl,rfl⟩) x hx a b hn n k ha hb h0 h1 h hst).mono fun _ _ hp=>hp.elim (fun hp=>hp.2) (fun hp=>absurd hd hp.1)
theorem gv_write_err (x:List UInt8) (hx:x.length<=4096) (a b:List UInt8) (hn:eT 32 x=[[119,114,105,116,101],a,b]) (n k:Int) (ha:cG a=M n) (hb:cG b=M k) (h0:¬n<0) (h1:¬k<0) (h:Dek P (sh:Int) la lc l ba bc bg q S w) (hst:cZ (sh:Int) l S=0) (hd:¬gM (sh:Int) l S 2 n k=0):Kr 25 #[pd (M ⟨P,0,Q⟩),aM x] w (aM ([101,114,114,111,114,32]++cL (gM (sh:Int) l S 2 n k))):=
 (gv_do P sh la lc l ba bc bg q S w _ 2 (Or.inr ⟨rfl,rfl⟩) x hx a b hn n k ha hb h0 h1 h hst).mono fun _ _ hp=>hp.elim (fun hp=>absurd hp.1 hd) (fun hp=>hp.2)
end
end
section
theorem tC {w:World} {ops:Array Oper} {rest:List Oper} {o:Oper} {a:Act} {Qq:Exit->Act->World->Prop} (hgd:o.guard=Q) (sl x:Operand)
  (ho:o.op=.call {callee:=.builtin .append,args:=#[sl,x],argTypes:=#[41,41]}) (C G0:Nat) (hs:a.eval sl=J (M ⟨G0,0,Q⟩) 0 0) (hown:w.ownsRow C 3 1 (J (M ⟨G0,0,Q⟩) 0 0) 0 [])
  (G:Nat->Value) (ad:Addr) (c:Nat) (hx:a.eval x=J (M ad) 8 c) (hcells:∀k,k<8->∃b off,ad=(⟨b,off,Q⟩:Addr)/\w.cell? ⟨b,off+k,Q⟩=M (G k)) (hone:∀k,k<8->(G k).oneCell'=true) (hbase:C<=w.heap.size)
  (h:∀a' c' g w',NewRow C w' a' c' g 8 G->w.grownBy w' (M G0)->wpList prog ops Qq rest (a.put o.dst (J a' 8 c')) w'):wpList prog ops Qq (o::rest) a w:=by
 obtain⟨i,hi,hz,h1,hb⟩:=info_parts info3;refine wpList_plain hgd fun K hK=>?_
 obtain⟨v',w',hrun,h2,h3,_,_⟩:=run_append_own_at (P:=prog) w C 41 o.type 3 i _ 1 i.bytes underlying41 hi hz h1 rfl rfl dc _ 0 [] hown ad 8 c ((List.range 8).map G) sm (fun j u hj=>by
  have hlt:j<8:=by
   exact xg
  obtain⟨b,off,e,d⟩:=hcells j hlt;subst e;rw[bZ,d,<-hj];simp[hlt]) (fun u hu=>by
  obtain⟨k,hk,rfl⟩:=List.mem_map.1 hu;exact hone k (List.mem_range.1 hk)) (by unfold maxLen;omega) (by rw[hb];decide) hbase
 rw[List.nil_append,nw]at h2;obtain⟨a',c',g,rfl,hn⟩:=pC h2;unfold Oper.wp execOp;simp only[ho,resolve,invoke,builtin,Sem.run_bind,Sem.run_pure,Result.andThen_ok,List.map_toArray,List.map_cons,List.map_nil,hs,hx,hrun];exact hK _ _ (h a' c' g w' hn h3)
section
variable {P:Nat} {m:Int} {la:Option Addr} {lc:Nat} {l:List TxA} {ba:Option Addr} {bc:Nat} {bg:List Int} {q q2:Q4} {S S2:SA} {w w1 w2:World}
theorem Dek.firstD (h:Dek P m la lc l ba bc bg q S w) (hb:Below w.heap.size w w1) {g k c':Nat} {v:Int} (hg:w.heap.size<=g) (hgl:g<w1.heap.size) (hcs:∀j,j<8->w1.cell? ⟨g,j,Q⟩=Y I (S.st.getD j 0)) (h8:S.st.length=8) (hk:k<8) :
  letI Z:=(w1.setCell ⟨P,2,Q⟩ (J (M ⟨g,0,Q⟩) 8 c')).setCell ⟨g,k,Q⟩ (Y I v);Dek P m la lc l (M ⟨g,0,Q⟩) c' (S.st.set k v) q S Z/\w.grownBy Z (M P):=by
 have hP:=h.pl;obtain⟨k0,k1,k2,k3,k4,k5,k6⟩:=(h.on hb).cs;have hne:g≠P:=om
 have blk:∀b,b≠P->b≠g->((w1.setCell ⟨P,2,Q⟩ (J (M ⟨g,0,Q⟩) 8 c')).setCell ⟨g,k,Q⟩ (Y I v)).heap[b]?=w1.heap[b]?:=fun b h1 h2=>by
  rw[iB _ _ _ _ _ h2,iB _ _ _ _ _ h1]
 have hsz:((w1.setCell ⟨P,2,Q⟩ (J (M ⟨g,0,Q⟩) 8 c')).setCell ⟨g,k,Q⟩ (Y I v)).heap.size=w1.heap.size:=by simp only[World.size_setCell]
 have far:∀j u,(w1.setCell _ _).cell? _=M u->((w1.setCell ⟨P,2,Q⟩ (J (M ⟨g,0,Q⟩) 8 c')).setCell ⟨g,k,Q⟩ (Y I v)).cell? ⟨P,j,Q⟩=M u:=fun j u hu=>by
  rw[nt _ _ _ _ hne];exact hu
 have hgr:w.grownBy ((w1.setCell _ _).setCell _ _) _:=⟨hb.os,hb.tape,hb.output,by rw[hsz];exact hb.size,fun b hl hne=>by
  have hne':b≠P:=fun e=>hne (by rw[e])
  rw[blk b hne' om,hb.block b hl]⟩
 refine⟨⟨⟨?_,?_,?_,?_,?_,?_,?_⟩,fun j=>?_,fun w' h'=>h.tx w' (cN hgr h'),fun w' h1 h2=>?_,fun w' h1 h2=>?_⟩,hgr⟩
 ·exact far _ _ (aE dc k0)
 ·exact far _ _ (aE dc k1)
 ·have:=far _ _ (aK (v:=J (M ⟨g,0,Q⟩) 8 c') k2);rw[we,h8];exact this
 ·exact far _ _ (aE dc k3)
 ·exact far _ _ (aE dc k4)
 ·exact far _ _ (aE dc k5)
 ·exact far _ _ (aE dc k6)
 ·have:=(h.on hb).fz j;exact Xd
 ·rw[hsz]at h1 h2;refine h.st w' (nh hb.size h1) (fun b hl hne=>?_);have:=hb.size;rw[h2 b om hne,blk b hne om,hb.block b hl]
 ·rw[hsz]at h1 h2
  have hI:=ints_set (w:=w1.setCell ⟨P,2,Q⟩ (J (M ⟨g,0,Q⟩) 8 c')) (g:=g) (k:=k) (s:=S.st) (v:=v) (by rw[h8];exact hk) (by rw[n9];exact hgl) (fun j hj=>by
   rw[nt _ _ _ _ (by omega:P≠g)];exact hcs j (by rw[<-h8];exact hj))
  intro j hj;refine⟨g,0,rfl,by omega,?_⟩;rw[nu (a:=⟨g,0+j,Q⟩) (h2 g hgl hne)];exact hI j hj
end
section
variable (P:Nat) (sh:Nat) (la:Option Addr) (lc:Nat) (l:List TxA) (ba:Option Addr) (bc:Nat) (bg:List Int) (q:Q4) (S:SA) (w:World)
theorem gv_put_ok (x:List UInt8) (hx:x.length<=4096) (a b:List UInt8) (hn:eT 32 x=[[112,117,116],a,b]) (n:Nat) (v:Int) (ha:cG a=M (n:Int)) (hb:cG b=M v) (h7:n<8) (h:Dek P (sh:Int) la lc l ba bc bg q S w) (hst:cZ (sh:Int) l S=0) (hp:aN (sh:Int) l=0):Calls prog 25 #[pd (M ⟨P,0,Q⟩),aM x] w fun e w'=>oU P (sh:Int) la lc l w ([111,107],S.st.set n v,cA (sh:Int) l (S.st.set n v)) e w':=by
 have i0:¬(n:Int)<0:=om;have hm:=bL 32 x;have la1:=nh (hm a (by rw[hn];simp)) hx;have lb1:=nh (hm b (by rw[hn];simp)) hx;have CS:=aI (gT x hx hn w);have CA:=aI (fC a la1 n ha);have CB:=aI (fC b lb1 v hb)
 have CK:Hid (∀w,Calls prog 53 #[Y I n] w fun e w'=>e=rt (bo true)/\w'=w):=fun w=>by
  have h1:=kN (n:Int) w
  have e:(decide (0<=(n:Int)) && decide ((n:Int)<=7))=true:=by
   rw[decide_eq_true (by omega:(n:Int)<=7),decide_eq_true (by omega:(0:Int)<=(n:Int))];rfl
  rw[e]at h1;exact h1
 have H8:=aI (kE hst);have HP:=aI hp;have hsn:=Hi (h.sta.1.trans (kE hst));have H:=aI h;have i2:(n:Int)<8:=om;clear h hst hp;clear hm la1 lb1 hx hn;unfold aM at *;generalize ByteArray.mk x.toArray=Yy at *;generalize ByteArray.mk a.toArray=A at *;generalize ByteArray.mk b.toArray=B at *;go_enter func25,ntmps25
 go_wp2_with fail
 refine CS.out.mono ?_;rintro e u ⟨sb,off,sc0,rfl,c0,c1,c2,hbu⟩;have BU:=aI hbu;clear hbu CS
 go_wp2_with fail
 refine(CA.out _).mono ?_;rintro e u1 ⟨rfl,hb1⟩;have d0:=aB hb1 c0;have d2:=aB hb1 c2;have BU1:=aI (aC BU.out hb1);clear c0 c1 c2 hb1 BU CA
 go_wp2_with fail
 refine(CB.out _).mono ?_;rintro e u2 ⟨rfl,hb2⟩;have e0:=aB hb2 d0;have BU2:=aI (aC BU1.out hb2);clear d0 d2 hb2 BU1 CB;by_cases hk0:v<0
 all_goals
  go_wp2_with fail
  refine(CK.out _).mono ?_;rintro e u3 ⟨rfl,hu⟩;subst hu;clear CK e0;obtain⟨k0,k1,k2,k3,k4,k5,k6⟩:=(H.out.on BU2.out).cs;rw[hsn.out]at k3;obtain⟨sb1,off1,eS,hlt1,c0⟩:=(H.out.on BU2.out).sta.2.2.2.2.st 0 (by rw[H8.out];decide)
 rotate_left;rotate_left
 all_goals
  have CELL:Hid (∀j,j<8->u3.cell? ⟨sb1,off1+j,Q⟩=M _):=fun j hj=>by
   obtain⟨sb',off',e',_,c'⟩:=(H.out.on BU2.out).sta.2.2.2.2.st j (by rw[H8.out];exact hj);exact Xg
  rw[eS]at k3;have k3:=aB (aA (n7 u3.heap.size u3) (U #[] 3)) k3;have A1:Hid ((u3.alloc _).ownsRow _ 3 1 _ 0 []):=lv u3 #[] 0 nr dc rfl;clear k0 k1 k2 k4 k5 k6 eS c0 hlt1
  go_wp2_with (first
   | (at_builtin;refine tC rfl _ _ rfl u3.heap.size u3.heap.size rfl A1.out (fun j=>Y I (S.st.getD j 0)) ⟨sb1,off1,Q⟩ q.sc rfl (fun j hj=>⟨sb1,off1,rfl,aB (aA br _) (CELL.out j hj)⟩) (fun j _=>rfl) sm ?_)
   | go_in)
  intro a' c' g u4 hN hgr;obtain⟨rfl,hlo,hgl,hcs,hfz⟩:=hN.e dc;have B4:=Hi ((aA br _).grown hgr sm (fun j e=>by injection e with e;omega));obtain⟨_,_,k2,_,_,_,_⟩:=(H.out.on (aC BU2.out B4.out)).cs;have zf:=(H.out.on (aC BU2.out B4.out)).fz;have k2':=aK (v:=J (M ⟨g,0,Q⟩) 8 c') k2;have hPl:=H.out.pl;have hgP:P≠g:=by have:=BU2.out.size;omega
  have z0:(u4.setCell ⟨P,2,Q⟩ (J (M ⟨g,0,Q⟩) 8 c')).cell? ⟨g,n,Q⟩=Y I (S.st.getD n 0):=by
   rw[nt _ _ _ _ hgP];exact hcs n h7
  have zg:(u4.setCell ⟨P,2,Q⟩ (J (M ⟨g,0,Q⟩) 8 c')).frozen? ⟨g,n,Q⟩=false:=by
   have:=hfz n;exact Xd
  obtain⟨hC3,hG3⟩:=H.out.firstD (aC BU2.out B4.out) (g:=g) (k:=n) (c':=c') (v:=v) (nh BU2.out.size hlo) hgl hcs H8.out h7;have HC3:=aI hC3;have HG3:=aI hG3;clear hC3 hG3 hN hgr hcs hfz CELL A1 k3 hsn
  go_upto_region 13 with fail
  clear z0 zg k2 k2' zf;generalize ((u4.setCell ⟨P,2,Q⟩ (J (M ⟨g,0,Q⟩) 8 c')).setCell ⟨g,n,Q⟩ (Y I v))=W at *
  have KS:Hid (∀w',Below _ W w'->w'.cell? _=M _/\w'.cell? _=M _/\w'.cell? _=M _):=fun w' hb=>by
   obtain⟨k0,k1,k2,_⟩:=(HC3.out.on hb).cs;rw[we,H8.out]at k2;exact⟨k0,k1,k2⟩
  have CBG:Hid (∀w',Below W.heap.size W w'->Calls prog 24 #[ag #[Y I sh,J la l.length lc],J (M ⟨g,0,Q⟩) 8 c'] w' fun e w''=>∃q2:Q4,e=rt (ag #[J q2.sa q2.sn q2.sc,J q2.ra q2.rn q2.rc,J q2.wa q2.wn q2.tc,J q2.va q2.vn q2.vc])/\StaF w'.heap.size (cA (sh:Int) l (S.st.set n v)) q2 w''/\Below w'.heap.size w' w''):=fun w' hb=>by
   have h8:(S.st.set n v).length=8:=by rw[we];exact H8.out
   have h1:=sA la lc l (M ⟨g,0,Q⟩) c' (S.st.set n v) sh w' (HC3.out.on hb).txs (HC3.out.on hb).bgs HP.out h8
   have hb0:jD (sh:Int) l (S.st.set n v)=0:=by
    have hl:cP _=0:=if_pos h8;unfold jD;rw[HP.out,hl];rfl
   have e:cA (sh:Int) l (S.st.set n v)=jW sh l (S.st.set n v):=by
    have e1:cA (sh:Int) l _=jW (sh:Int).toNat l _:=if_pos hb0;rw[e1,lq]
   rw[<-e,h8]at h1;exact h1
  refine wp_region_held_drew (S:=(fun w'=>w'.cell? ⟨P,0,Q⟩=Y I sh/\w'.cell? ⟨P,1,Q⟩=J la l.length lc/\w'.cell? ⟨P,2,Q⟩=M ((J (M ⟨g,0,Q⟩) 8 c')))) kr ?_ (fun hHeld=>?_)
  ·exact KS.out _ (aD br)
  refine tk 0 ?_;refine tk 1 ?_;refine tk 2 ?_;refine tk 3 ?_;refine tk 4 ?_;refine tk 5 ?_;refine tk 6 ?_;refine tk 7 ?_;refine tk 8 ?_;refine r1 9 (fun K hK=>?_);go_simp
  go_wp2_with (go_at_call 24;refine(CBG.out _ (aD br)).mono ?_;rintro e w1 ⟨q2,rfl,hsf,hb1⟩)
  have B1:=Hi (aC (aD br) hb1);obtain⟨lo,HLO,HSF⟩:∃lo,Hid (W.heap.size<=lo)/\Hid (StaF lo (cA (sh:Int) l (S.st.set n v)) q2 w1):=⟨_,(aD (n7 W.heap.size W)).size,hsf⟩;clear hb1 hsf;obtain⟨_,_,_,k3,k4,k5,k6⟩:=(HC3.out.on B1.out).cs;have zf:=(HC3.out.on B1.out).fz
  have PF:Hid (letI Z:=(((w1.setCell ⟨P,3,Q⟩ (J q2.sa q2.sn q2.sc)).setCell ⟨P,4,Q⟩ (J q2.ra q2.rn q2.rc)).setCell ⟨P,5,Q⟩ (J q2.wa q2.wn q2.tc)).setCell ⟨P,6,Q⟩ (J q2.va q2.vn q2.vc);Z.cell? ⟨P,0,Q⟩=Y I sh/\Z.cell? ⟨P,1,Q⟩=J la l.length lc/\Z.cell? ⟨P,2,Q⟩=M ((J (M ⟨g,0,Q⟩) 8 c'))):=by
   obtain⟨k0,k1,k2⟩:=KS.out _ B1.out;exact⟨aE dc (aE dc (aE dc (aE dc k0))),aE dc (aE dc (aE dc (aE dc k1))),aE dc (aE dc (aE dc (aE dc k2)))⟩
  clear hHeld;refine hK.out _ _ (KS.out _ B1.out) (fun hHeld=>?_);clear hK K;refine tk 10 ?_;refine tk 11 ?_;refine r1 12 (fun K hK=>?_);go_simp;skip;clear hHeld;refine hK.out _ _ (PF.out) (fun hHeld=>?_);clear hK K;refine wpAnyH_done kr ?_ _;clear k3 k4 k5 k6 hHeld zf KS CBG PF;obtain⟨hc,hg⟩:=HC3.out.putD B1.out (HSF.out.sq (nd HC3.out.pl HLO.out));have HC:=aI hc;have HG:=aI hg;clear hc hg HSF;go_wp2;go_ret;exact⟨rfl,M ⟨g,0,Q⟩,c',q2,HC.out,cN HG3.out HG.out⟩
end
end
end Go.Proofs.YtcgpkonfneofdaaGreatDoor
