/- Conditions: those that each theorem states. -/
import Derived.Test.YtcgpkonfneofdaaGreatDoorSDkL
import Derived.Test.YtcgpkonfneofdaaGreatDoorSAudB
set_option maxRecDepth 100000
set_option maxHeartbeats 8000000
namespace Go.Proofs.YtcgpkonfneofdaaGreatDoor
open Go.RowKit
section
theorem gotR_ok (a:Option Addr) (k c:Nat) (w:World):Calls Tryz.prog 153 #[.slice a k c,.int .i64 0] w fun e' w'=>e'=.returned (.slice a k c)∧Below w.heap.size w w':=by
 go_enter Tryz.func153,Tryz.ntmps153
 go_wp2_with fail
 refine(aO [0] _ 1 _ (by simp) rfl (cD _ _ _ rfl)).mono ?_
 rintro e w' ⟨rfl,rfl⟩
 go_wp2
 go_ret
 exact⟨rfl,aA (Below.refl _ _) _⟩
theorem gotR_pan (a:Option Addr) (k c:Nat) (x:Int) (hx:¬x=0) (w:World):Calls Tryz.prog 153 #[.slice a k c,.int .i64 x] w fun e' w'=>e'=.panicked [{v:=.iface 22 (.int .i64 x),recovered:=false}]∧Below w.heap.size w w':=by
 go_enter Tryz.func153,Tryz.ntmps153
 go_wp2_with fail
 refine(cF [x] 0 x _ 1 _ (by simp) (by simp) (by simp) rfl hx (cD _ _ _ (by simp))).mono ?_
 rintro e w' ⟨rfl,rfl⟩
 go_wp2
 exact⟨rfl,rfl,aA (Below.refl _ _) _⟩
theorem gotI_ok (v:Int) (w:World):Calls Tryz.prog 155 #[.int .i64 v,.int .i64 0] w fun e' w'=>e'=.returned (.int .i64 v)∧Below w.heap.size w w':=(lK v 0 rfl w).mono fun _ _ ⟨he,hw⟩=>⟨he,by rw[hw];exact aA (Below.refl _ _) _⟩
section
variable (P:Nat) (D:Nat→Prop) (m:Int) (la:Option Addr) (lc:Nat) (l:List TxA) (ba:Option Addr) (bc:Nat) (bg:List Int) (q:Q4) (S:SA) (w:World)
theorem xO (h:Clk P D m la lc l ba bc bg q S w) (hst:¬mG m l S=0):Calls Tryz.prog 119 #[.pointer (some ⟨P,0,none⟩)] w fun e w'=>e=.panicked [{v:=.iface 22 (.int .i64 (mG m l S)),recovered:=false}]∧Below w.heap.size w w':=by
 have H:=aJ h
 have KS:Hid (∀w',Below w.heap.size w w'→w'.cell? ⟨P,0,none⟩=some (.int .i64 m)∧w'.cell? ⟨P,1,none⟩=some (.slice la l.length lc)∧w'.cell? ⟨P,2,none⟩=some (.slice ba bg.length bc)∧w'.cell? ⟨P,3,none⟩=some (.slice q.sa q.sn q.sc)∧w'.cell? ⟨P,4,none⟩=some (.slice q.ra q.rn q.rc)∧w'.cell? ⟨P,5,none⟩=some (.slice q.wa q.wn q.tc)∧w'.cell? ⟨P,6,none⟩=some (.slice q.va q.vn q.vc)∧Hid (Below w.heap.size w w')):=fun w' hb=>by
  obtain⟨k0,k1,k2,k3,k4,k5,k6⟩:=(H.out.on hb).cs
  exact⟨k0,k1,k2,k3,k4,k5,k6,hb⟩
 have CR:Hid (∀w',Below w.heap.size w w'→Calls Tryz.prog 154 #[.agg #[.int .i64 m,.slice la l.length lc],.agg #[.slice q.sa q.sn q.sc,.slice q.ra q.rn q.rc,.slice q.wa q.wn q.tc,.slice q.va q.vn q.vc]] w' fun e w''=>∃xa xc,e=.returned (.tuple #[.slice xa (kN m l S).length xc,.int .i64 (mG m l S)])∧IsRes w'' xa (kN m l S)∧Below w'.heap.size w' w''):=fun w' hb=>by
  have h:=pI la lc l q S m w' (H.out.on hb).txs (H.out.on hb).sta
  exact h
 have HE:=aJ hst
 clear h hst
 go_enter Tryz.func119,Tryz.ntmps119
 go_upto_region 1 with fail
 refine wp_region_held_drew (S:=(fun w'=>w'.cell? ⟨P,0,none⟩=some (.int .i64 m)∧w'.cell? ⟨P,1,none⟩=some (.slice la l.length lc)∧w'.cell? ⟨P,2,none⟩=some (.slice ba bg.length bc)∧w'.cell? ⟨P,3,none⟩=some (.slice q.sa q.sn q.sc)∧w'.cell? ⟨P,4,none⟩=some (.slice q.ra q.rn q.rc)∧w'.cell? ⟨P,5,none⟩=some (.slice q.wa q.wn q.tc)∧w'.cell? ⟨P,6,none⟩=some (.slice q.va q.vn q.vc)∧Hid (Below w.heap.size w w'))) (by kernel_rfl) ?_ (fun hHeld=>?_)
 ·refine KS.out _ ?_
  exact aD (Below.refl _ _)
 refine tk 0 ?_
 refine tk 1 ?_
 refine tk 2 ?_
 refine tk 3 ?_
 refine tk 4 ?_
 refine tk 5 ?_
 refine tk 6 ?_
 refine tk 7 ?_
 refine r1 8 (fun K hK=>?_)
 go_simp
 obtain⟨k0,k1,k2,k3,k4,k5,k6,hbx⟩:=hHeld
 go_wp2_with (go_at_call 154;refine(CR.out _ hbx.out).mono ?_;rintro e w1 ⟨xa,xc,rfl,hR,hb1⟩)
 have B1:Hid (Below w.heap.size w w1):=aC hbx.out hb1
 have HR:=aJ hR
 clear hb1 hR
 clear k0 k1 k2 k3 k4 k5 k6 hbx
 have hHeld:True:=trivial
 clear hHeld
 refine hK.out _ _ (KS.out _ B1.out) (fun hHeld=>?_)
 clear hK K
 refine tk 9 ?_
 refine tk 10 ?_
 refine r1 11 (fun K hK=>?_)
 go_simp
 go_wp2_with (go_at_call 153;refine(gotR_pan _ _ _ _ HE.out _).mono ?_;rintro e w2 ⟨rfl,hb2⟩)
 have B2:Hid (Below w.heap.size w w2):=aC B1.out hb2
 exact⟨rfl,rfl,B2.out⟩
theorem clkAudit_ok (h:Clk P D m la lc l ba bc bg q S w) (hst:mG m l S=0) (ha:mR bg l S.st (kN m l S)=0):Calls Tryz.prog 119 #[.pointer (some ⟨P,0,none⟩)] w fun e w'=>e=.returned (.int .i64 (jD bg l S.st (kN m l S)))∧Below w.heap.size w w':=by
 have H:=aJ h
 have KS:Hid (∀w',Below w.heap.size w w'→w'.cell? ⟨P,0,none⟩=some (.int .i64 m)∧w'.cell? ⟨P,1,none⟩=some (.slice la l.length lc)∧w'.cell? ⟨P,2,none⟩=some (.slice ba bg.length bc)∧w'.cell? ⟨P,3,none⟩=some (.slice q.sa q.sn q.sc)∧w'.cell? ⟨P,4,none⟩=some (.slice q.ra q.rn q.rc)∧w'.cell? ⟨P,5,none⟩=some (.slice q.wa q.wn q.tc)∧w'.cell? ⟨P,6,none⟩=some (.slice q.va q.vn q.vc)∧Hid (Below w.heap.size w w')):=fun w' hb=>by
  obtain⟨k0,k1,k2,k3,k4,k5,k6⟩:=(H.out.on hb).cs
  exact⟨k0,k1,k2,k3,k4,k5,k6,hb⟩
 have CR:Hid (∀w',Below w.heap.size w w'→Calls Tryz.prog 154 #[.agg #[.int .i64 m,.slice la l.length lc],.agg #[.slice q.sa q.sn q.sc,.slice q.ra q.rn q.rc,.slice q.wa q.wn q.tc,.slice q.va q.vn q.vc]] w' fun e w''=>∃xa xc,e=.returned (.tuple #[.slice xa (kN m l S).length xc,.int .i64 0])∧IsRes w'' xa (kN m l S)∧Below w'.heap.size w' w''):=fun w' hb=>by
  have h:=pI la lc l q S m w' (H.out.on hb).txs (H.out.on hb).sta
  rw[hst]at h
  exact h
 have hsn:Hid (q.sn=S.st.length):=h.sta.1
 have CA:Hid (∀w',Below w.heap.size w w'→∀xa xc,IsRes w' xa (kN m l S)→Calls Tryz.prog 156 #[.slice ba bg.length bc,.slice la l.length lc,.slice q.sa q.sn q.sc,.slice xa (kN m l S).length xc] w' fun e w''=>e=.returned (.tuple #[.int .i64 (jD bg l S.st (kN m l S)),.int .i64 0])∧Below w'.heap.size w' w''):=fun w' hb xa xc hR=>by
  have h:=audit_any ba la q.sa xa bc lc q.sc xc bg l S.st (kN m l S) w' (H.out.on hb).bgs (H.out.on hb).txs (H.out.on hb).sta.2.2.2.2.st hR
  rw[ha,←hsn.out]at h
  exact h
 clear h hst ha
 go_enter Tryz.func119,Tryz.ntmps119
 go_upto_region 1 with fail
 refine wp_region_held_drew (S:=(fun w'=>w'.cell? ⟨P,0,none⟩=some (.int .i64 m)∧w'.cell? ⟨P,1,none⟩=some (.slice la l.length lc)∧w'.cell? ⟨P,2,none⟩=some (.slice ba bg.length bc)∧w'.cell? ⟨P,3,none⟩=some (.slice q.sa q.sn q.sc)∧w'.cell? ⟨P,4,none⟩=some (.slice q.ra q.rn q.rc)∧w'.cell? ⟨P,5,none⟩=some (.slice q.wa q.wn q.tc)∧w'.cell? ⟨P,6,none⟩=some (.slice q.va q.vn q.vc)∧Hid (Below w.heap.size w w'))) (by kernel_rfl) ?_ (fun hHeld=>?_)
 ·refine KS.out _ ?_
  exact aD (Below.refl _ _)
 refine tk 0 ?_
 refine tk 1 ?_
 refine tk 2 ?_
 refine tk 3 ?_
 refine tk 4 ?_
 refine tk 5 ?_
 refine tk 6 ?_
 refine tk 7 ?_
 refine r1 8 (fun K hK=>?_)
 go_simp
 obtain⟨k0,k1,k2,k3,k4,k5,k6,hbx⟩:=hHeld
 go_wp2_with (go_at_call 154;refine(CR.out _ hbx.out).mono ?_;rintro e w1 ⟨xa,xc,rfl,hR,hb1⟩)
 have B1:Hid (Below w.heap.size w w1):=aC hbx.out hb1
 have HR:=aJ hR
 clear hb1 hR
 clear k0 k1 k2 k3 k4 k5 k6 hbx
 have hHeld:True:=trivial
 clear hHeld
 refine hK.out _ _ (KS.out _ B1.out) (fun hHeld=>?_)
 clear hK K
 refine tk 9 ?_
 refine tk 10 ?_
 refine r1 11 (fun K hK=>?_)
 go_simp
 obtain⟨k0,k1,k2,k3,k4,k5,k6,hbx⟩:=hHeld
 go_wp2_with (go_at_call 153;refine(gotR_ok _ _ _ _).mono ?_;rintro e w2 ⟨rfl,hb2⟩)
 have B2:Hid (Below w.heap.size w w2):=aC hbx.out hb2
 have HR2:=aJ (HR.out.below hb2)
 clear hb2
 clear k0 k1 k2 k3 k4 k5 k6 hbx
 have hHeld:True:=trivial
 clear hHeld
 refine hK.out _ _ (KS.out _ B2.out) (fun hHeld=>?_)
 clear hK K
 refine tk 12 ?_
 refine wpAnyH_done (by kernel_rfl) ?_ _
 clear hHeld
 go_upto_region 2 with fail
 refine wp_region_held_drew (S:=(fun w'=>w'.cell? ⟨P,0,none⟩=some (.int .i64 m)∧w'.cell? ⟨P,1,none⟩=some (.slice la l.length lc)∧w'.cell? ⟨P,2,none⟩=some (.slice ba bg.length bc)∧w'.cell? ⟨P,3,none⟩=some (.slice q.sa q.sn q.sc)∧w'.cell? ⟨P,4,none⟩=some (.slice q.ra q.rn q.rc)∧w'.cell? ⟨P,5,none⟩=some (.slice q.wa q.wn q.tc)∧w'.cell? ⟨P,6,none⟩=some (.slice q.va q.vn q.vc)∧Hid (Below w.heap.size w w'))) (by kernel_rfl) ?_ (fun hHeld=>?_)
 ·refine KS.out _ ?_
  exact aD B2.out
 refine tk 0 ?_
 refine tk 1 ?_
 refine tk 2 ?_
 refine tk 3 ?_
 refine tk 4 ?_
 refine tk 5 ?_
 refine tk 6 ?_
 refine tk 7 ?_
 refine tk 8 ?_
 refine tk 9 ?_
 refine tk 10 ?_
 refine tk 11 ?_
 refine tk 12 ?_
 refine tk 13 ?_
 refine tk 14 ?_
 refine r1 15 (fun K hK=>?_)
 go_simp
 obtain⟨k0,k1,k2,k3,k4,k5,k6,hbx⟩:=hHeld
 go_wp2_with (go_at_call 156;refine(CA.out _ hbx.out xa xc (HR2.out.below (aD (Below.refl _ _)))).mono ?_;rintro e w3 ⟨rfl,hb3⟩)
 have B3:Hid (Below w.heap.size w w3):=aC hbx.out hb3
 clear hb3
 clear k0 k1 k2 k3 k4 k5 k6 hbx
 have hHeld:True:=trivial
 clear hHeld
 refine hK.out _ _ (KS.out _ B3.out) (fun hHeld=>?_)
 clear hK K
 refine tk 16 ?_
 refine tk 17 ?_
 refine r1 18 (fun K hK=>?_)
 go_simp
 obtain⟨k0,k1,k2,k3,k4,k5,k6,hbx⟩:=hHeld
 go_wp2_with (go_at_call 155;refine(gotI_ok _ _).mono ?_;rintro e w4 ⟨rfl,hb4⟩)
 have B4:Hid (Below w.heap.size w w4):=aC hbx.out hb4
 clear hb4
 clear k0 k1 k2 k3 k4 k5 k6 hbx
 have hHeld:True:=trivial
 clear hHeld
 refine hK.out _ _ (KS.out _ B4.out) (fun hHeld=>?_)
 clear hK K
 refine tk 19 ?_
 refine wpAnyH_done (by kernel_rfl) ?_ _
 clear hHeld
 go_wp2
 go_ret
 exact⟨rfl,B4.out⟩
end
end
section
structure RX (m:Int) (l:List TxA) (X:Nat→SA) (K:Nat):Prop where
 st:∀i,i≤K→dB m l (X i)=0
 ov:∀i,i≤K→jW m l (X i)=decide (i=K)
 can:∀i,i<K→0<(bE m l (X i)).length
 dz:∀i,i<K→kX m l (X i) (((bE m l (X i)).getD 0 (0,0,0)).1:Nat) (((bE m l (X i)).getD 0 (0,0,0)).2.1:Nat) (((bE m l (X i)).getD 0 (0,0,0)).2.2:Nat)=0
 nx:∀i,i<K→pV m l (X i) (((bE m l (X i)).getD 0 (0,0,0)).1:Nat) (((bE m l (X i)).getD 0 (0,0,0)).2.1:Nat) (((bE m l (X i)).getD 0 (0,0,0)).2.2:Nat)=X (i+1)
 few:K≤64
section
variable (P:Nat) (D:Nat→Prop) (m:Int) (la:Option Addr) (lc:Nat) (l:List TxA) (ba:Option Addr) (bc:Nat) (bg:List Int) (q:Q4) (w:World)
theorem clkRest (X:Nat→SA) (K:Nat) (h:Clk P D m la lc l ba bc bg q (X 0) w) (hX:RX m l X K):Calls Tryz.prog 118 #[.pointer (some ⟨P,0,none⟩)] w fun e w'=>e=.returned (.int .i64 (K:Nat))∧∃(q2:Q4) (D2:Nat→Prop),Clk P D2 m la lc l ba bc bg q2 (X K) w'∧(∀b,D2 b→D b∨w.heap.size≤b)∧w.grownBy w' (some P):=by
 have HX:=aJ hX
 have hK:=hX.few
 have H0:=aJ h
 clear h hX
 go_enter Tryz.func118,Tryz.ntmps118
 go_wp2
 go_loopw [3] (fun c wr=>∃(i:Nat) (q2:Q4) (D2:Nat→Prop),i≤K∧c=.int .i64 (i:Nat)∧Hid (Clk P D2 m la lc l ba bc bg q2 (X i) wr)∧Hid (∀b,D2 b→D b∨w.heap.size≤b)∧Hid (w.grownBy wr (some P))) (fun c _=>K - (intOf c).toNat)
 case atStart=>exact⟨0,q,D,Nat.zero_le _,rfl,H0,fun b h=>.inl h,aX (Below.refl _ _)⟩
 case round=>
  clear H0
  obtain⟨i,q2,D2,hi,rfl,HC,HD,HG⟩:=hrel
  have CV:Hid (Calls Tryz.prog 149 #[.pointer (some ⟨P,0,none⟩)] wr fun e w'=>e=.returned (.bool (decide (i=K)))∧Below wr.heap.size wr w'):=by
   have:=xM P D2 m la lc l ba bc bg q2 (X i) wr HC.out (HX.out.st i hi)
   rw[HX.out.ov i hi]at this
   exact this
  go_wp2_with fail
  refine CV.out.mono ?_
  rintro e w1 ⟨rfl,hb1⟩
  have HC1:=aJ (HC.out.on hb1)
  have HG1:Hid (w.grownBy w1 (some P)):=cR HG.out (aX hb1)
  clear hb1 HC HG CV
  by_cases hK1:i=K
  ·rw[decide_eq_true hK1]
   have HC2:Hid (Clk P D2 m la lc l ba bc bg q2 (X K) w1):=by
    show Clk _ _ _ _ _ _ _ _ _ _ _ _
    rw[←hK1];exact HC1.out
   have HK1:=aJ hK1
   clear hK1 HC1
   go_wp2
   go_ret
   exact⟨by rw[HK1.out];rfl,q2,D2,HC2.out,HD.out,HG1.out⟩
  ·rw[decide_eq_false hK1]
   have hlt:i<K:=by omega
   have CN:=aJ (clkOpen P D2 m la lc l ba bc bg q2 (X i) w1 HC1.out (HX.out.st i hi))
   have h0:=HX.out.can i hlt
   have HZ:=aJ (HX.out.dz i hlt)
   have HN:=aJ (HX.out.nx i hlt)
   go_wp2_with fail
   refine CN.out.mono ?_
   rintro e w2 ⟨xa,xc,rfl,hs,hb2⟩
   obtain⟨b,off,rfl,_,c0,c1,c2⟩:=hs 0 h0
   rw[Nat.zero_mul,Nat.add_zero]at c0 c1 c2
   have HC2:=aJ (HC1.out.on hb2)
   have HG2:Hid (w.grownBy w2 (some P)):=cR HG1.out (aX hb2)
   have CD:=aJ (tG P D2 m la lc l ba bc bg q2 (X i) w2 _ _ _ HC2.out HZ.out)
   rw[HN.out]at CD
   have h0':(0:Int)<((bE m l (X i)).length:Int):=by omega
   clear hs hb2 HC1 HG1 CN HZ HN
   generalize ((bE m l (X i)).getD 0 (0,0,0)).1=x1 at *
   generalize ((bE m l (X i)).getD 0 (0,0,0)).2.1=x2 at *
   generalize ((bE m l (X i)).getD 0 (0,0,0)).2.2=x3 at *
   generalize (bE m l (X i)).length=N at *
   go_wp2_with fail
   refine CD.out.mono ?_
   rintro e w3 ⟨rfl,q3,D3,hc,hd,hg⟩
   have HC3:=aJ hc
   have HD3:Hid (∀b,D3 b→D b∨w.heap.size≤b):=fun b h=>(hd b h).elim (HD.out b) (fun h=>.inr (Nat.le_trans HG2.out.size h))
   have HG3:Hid (w.grownBy w3 (some P)):=cR HG2.out hg
   clear hc hd hg CD HC2 HG2 HD c0 c1 c2
   go_wp2
   go_roundw
   case rel=>exact⟨i+1,q3,D3,by omega,by go_num,HC3,HD3,HG3⟩
   case measure=>simp[intOf];omega
end
end
end Go.Proofs.YtcgpkonfneofdaaGreatDoor
