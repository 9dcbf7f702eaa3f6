/- Conditions: those that each theorem states. -/
import Derived.Test.YtcgpkonfneofdaaGreatDoorSDkH
import Derived.Test.YtcgpkonfneofdaaGreatDoorSPlayF
set_option maxRecDepth 100000
set_option maxHeartbeats 8000000
namespace Go.Proofs.YtcgpkonfneofdaaGreatDoor
open Go.RowKit
section
theorem gotB_b (b:Bool) (w:World):Calls Tryz.prog 177 #[.bool b,.int .i64 0] w fun e' w'=>e'=.returned (.bool b)∧Below w.heap.size w w':=(xH b w).mono fun _ _ ⟨he,hw⟩=>⟨he,by rw[hw];exact aA (Below.refl _ _) _⟩
theorem gotSteps_b (a:Option Addr) (k c:Nat) (w:World):Calls Tryz.prog 179 #[.slice a k c,.int .i64 0] w fun e' w'=>e'=.returned (.slice a k c)∧Below w.heap.size w w':=(gotSteps_ok a k c w).mono fun _ _ ⟨he,hw⟩=>⟨he,by rw[hw];exact aA (Below.refl _ _) _⟩
structure Clk (P:Nat) (D:Nat→Prop) (m:Int) (la:Option Addr) (lc:Nat) (l:List TxA) (ba:Option Addr) (bc:Nat) (bg:List Int) (q:Q4) (S:SA) (w:World):Prop where
 cs:w.cell? ⟨P,0,none⟩=some (.int .i64 m)∧w.cell? ⟨P,1,none⟩=some (.slice la l.length lc)∧w.cell? ⟨P,2,none⟩=some (.slice ba bg.length bc)∧w.cell? ⟨P,3,none⟩=some (.slice q.sa q.sn q.sc)∧w.cell? ⟨P,4,none⟩=some (.slice q.ra q.rn q.rc)∧w.cell? ⟨P,5,none⟩=some (.slice q.wa q.wn q.tc)∧w.cell? ⟨P,6,none⟩=some (.slice q.va q.vn q.vc)
 fz:∀j,w.frozen? ⟨P,j,none⟩=false
 tx:∀w',Below P w w'→IsTxs w' la l
 dl:∀b,D b→P<b∧b<w.heap.size
 keep:∀w',w.heap.size≤w'.heap.size→(∀b,D b→w'.heap[b]?=w.heap[b]?)→StaQ S q w'∧IsInts w' ba bg
section
variable {P:Nat} {D:Nat→Prop} {m:Int} {la:Option Addr} {lc:Nat} {l:List TxA} {ba:Option Addr} {bc:Nat} {bg:List Int} {q:Q4} {S:SA} {w w':World}
theorem Clk.pl (h:Clk P D m la lc l ba bc bg q S w):P<w.heap.size:=World.block_lt_of_cell? w ⟨P,0,none⟩ h.cs.1
theorem Clk.frame (h:Clk P D m la lc l ba bc bg q S w) (hP:w'.heap[P]?=w.heap[P]?) (hb:Below P w w') (hD:∀b,D b→w'.heap[b]?=w.heap[b]?):Clk P D m la lc l ba bc bg q S w':=by
 have e:∀j,w'.cell? ⟨P,j,none⟩=w.cell? ⟨P,j,none⟩:=fun j=>World.cell?_of_block hP
 refine⟨?_,fun j=>?_,fun w2 h2=>h.tx w2 (hb.trans h2),fun b hd=>⟨(h.dl b hd).1,Nat.lt_of_lt_of_le (h.dl b hd).2 hb.size⟩,fun w2 h2 h3=>h.keep w2 (Nat.le_trans hb.size h2) (fun b hd=>(h3 b hd).trans (hD b hd))⟩
 ·simp only[e];exact h.cs
 ·rw[World.frozen?_of_block hP];exact h.fz j
theorem Clk.on (h:Clk P D m la lc l ba bc bg q S w) (hb:Below w.heap.size w w'):Clk P D m la lc l ba bc bg q S w':=
 h.frame (hb.block P h.pl) (hb.mono (Nat.le_of_lt h.pl)) (fun b hd=>hb.block b (h.dl b hd).2)
theorem Clk.txs (h:Clk P D m la lc l ba bc bg q S w):IsTxs w la l:=h.tx w (Below.refl _ _)
theorem Clk.sta (h:Clk P D m la lc l ba bc bg q S w):StaQ S q w:=(h.keep w (Nat.le_refl _) (fun _ _=>rfl)).1
theorem Clk.bgs (h:Clk P D m la lc l ba bc bg q S w):IsInts w ba bg:=(h.keep w (Nat.le_refl _) (fun _ _=>rfl)).2
end
section
variable (P:Nat) (D:Nat→Prop) (m:Int) (la:Option Addr) (lc:Nat) (l:List TxA) (ba:Option Addr) (bc:Nat) (bg:List Int) (q:Q4) (S:SA) (w:World)
theorem xM (h:Clk P D m la lc l ba bc bg q S w) (hst:dB m l S=0):Calls Tryz.prog 149 #[.pointer (some ⟨P,0,none⟩)] w fun e w'=>e=.returned (.bool (jW m l S))∧Below w.heap.size w w':=by
 have H:=aJ h
 have KS:Hid (∀w',Below w.heap.size w w'→w'.cell? ⟨P,0,none⟩=some (.int .i64 m)∧w'.cell? ⟨P,1,none⟩=some (.slice la l.length lc)∧w'.cell? ⟨P,2,none⟩=some (.slice ba bg.length bc)∧w'.cell? ⟨P,3,none⟩=some (.slice q.sa q.sn q.sc)∧w'.cell? ⟨P,4,none⟩=some (.slice q.ra q.rn q.rc)∧w'.cell? ⟨P,5,none⟩=some (.slice q.wa q.wn q.tc)∧w'.cell? ⟨P,6,none⟩=some (.slice q.va q.vn q.vc)∧Hid (Below w.heap.size w w')):=fun w' hb=>by
  obtain⟨k0,k1,k2,k3,k4,k5,k6⟩:=(H.out.on hb).cs
  exact⟨k0,k1,k2,k3,k4,k5,k6,hb⟩
 have CO:Hid (∀w',Below w.heap.size w w'→Calls Tryz.prog 178 #[.agg #[.int .i64 m,.slice la l.length lc],.agg #[.slice q.sa q.sn q.sc,.slice q.ra q.rn q.rc,.slice q.wa q.wn q.tc,.slice q.va q.vn q.vc]] w' fun e w''=>e=.returned (.tuple #[.bool (jW m l S),.int .i64 0])∧Below w'.heap.size w' w''):=fun w' hb=>by
  have h:=over_q (c:=lc) (m:=m) (H.out.on hb).txs (H.out.on hb).sta
  rw[hst]at h
  exact h
 clear h hst H
 go_enter Tryz.func149,Tryz.ntmps149
 go_upto_region 1 with fail
 refine wp_region_held_drew (S:=(fun w'=>w'.cell? ⟨P,0,none⟩=some (.int .i64 m)∧w'.cell? ⟨P,1,none⟩=some (.slice la l.length lc)∧w'.cell? ⟨P,2,none⟩=some (.slice ba bg.length bc)∧w'.cell? ⟨P,3,none⟩=some (.slice q.sa q.sn q.sc)∧w'.cell? ⟨P,4,none⟩=some (.slice q.ra q.rn q.rc)∧w'.cell? ⟨P,5,none⟩=some (.slice q.wa q.wn q.tc)∧w'.cell? ⟨P,6,none⟩=some (.slice q.va q.vn q.vc)∧Hid (Below w.heap.size w w'))) (by kernel_rfl) ?_ (fun hHeld=>?_)
 ·exact KS.out _ (aD (Below.refl _ _))
 refine tk 0 ?_
 refine tk 1 ?_
 refine tk 2 ?_
 refine tk 3 ?_
 refine tk 4 ?_
 refine tk 5 ?_
 refine tk 6 ?_
 refine tk 7 ?_
 refine r1 8 (fun K hK=>?_)
 go_simp
 obtain⟨k0,k1,k2,k3,k4,k5,k6,hbx⟩:=hHeld
 go_wp2_with (go_at_call 178;refine(CO.out _ hbx.out).mono ?_;rintro e w1 ⟨rfl,hb1⟩)
 have B1:Hid (Below w.heap.size w w1):=aC hbx.out hb1
 clear k0 k1 k2 k3 k4 k5 k6 hbx hb1
 have hHeld:True:=trivial
 clear hHeld
 refine hK.out _ _ (KS.out _ B1.out) (fun hHeld=>?_)
 clear hK K
 refine tk 9 ?_
 refine tk 10 ?_
 refine r1 11 (fun K hK=>?_)
 go_simp
 obtain⟨k0,k1,k2,k3,k4,k5,k6,hbx⟩:=hHeld
 go_wp2_with (go_at_call 177;refine(gotB_b _ _).mono ?_;rintro e w2 ⟨rfl,hb2⟩)
 have B2:Hid (Below w.heap.size w w2):=aC hbx.out hb2
 clear hb2
 clear k0 k1 k2 k3 k4 k5 k6 hbx
 have hHeld:True:=trivial
 clear hHeld
 refine hK.out _ _ (KS.out _ B2.out) (fun hHeld=>?_)
 clear hK K
 refine tk 12 ?_
 refine wpAnyH_done (by kernel_rfl) ?_ _
 go_wp2
 go_ret
 exact⟨rfl,B2.out⟩
theorem clkOpen (h:Clk P D m la lc l ba bc bg q S w) (hst:dB m l S=0):Calls Tryz.prog 150 #[.pointer (some ⟨P,0,none⟩)] w fun e w'=>∃xa xc,e=.returned (.slice xa (bE m l S).length xc)∧IsSteps w' xa (bE m l S)∧Below w.heap.size w w':=by
 have H:=aJ h
 have KS:Hid (∀w',Below w.heap.size w w'→w'.cell? ⟨P,0,none⟩=some (.int .i64 m)∧w'.cell? ⟨P,1,none⟩=some (.slice la l.length lc)∧w'.cell? ⟨P,2,none⟩=some (.slice ba bg.length bc)∧w'.cell? ⟨P,3,none⟩=some (.slice q.sa q.sn q.sc)∧w'.cell? ⟨P,4,none⟩=some (.slice q.ra q.rn q.rc)∧w'.cell? ⟨P,5,none⟩=some (.slice q.wa q.wn q.tc)∧w'.cell? ⟨P,6,none⟩=some (.slice q.va q.vn q.vc)∧Hid (Below w.heap.size w w')):=fun w' hb=>by
  obtain⟨k0,k1,k2,k3,k4,k5,k6⟩:=(H.out.on hb).cs
  exact⟨k0,k1,k2,k3,k4,k5,k6,hb⟩
 have CO:Hid (∀w',Below w.heap.size w w'→Calls Tryz.prog 180 #[.agg #[.int .i64 m,.slice la l.length lc],.agg #[.slice q.sa q.sn q.sc,.slice q.ra q.rn q.rc,.slice q.wa q.wn q.tc,.slice q.va q.vn q.vc]] w' fun e w''=>∃xa xc,e=.returned (.tuple #[.slice xa (bE m l S).length xc,.int .i64 0])∧IsSteps w'' xa (bE m l S)∧Below w'.heap.size w' w''):=fun w' hb=>by
  have h:=can_q (c:=lc) (m:=m) (H.out.on hb).txs (H.out.on hb).sta
  rw[hst]at h
  exact h
 clear h hst H
 go_enter Tryz.func150,Tryz.ntmps150
 go_upto_region 1 with fail
 refine wp_region_held_drew (S:=(fun w'=>w'.cell? ⟨P,0,none⟩=some (.int .i64 m)∧w'.cell? ⟨P,1,none⟩=some (.slice la l.length lc)∧w'.cell? ⟨P,2,none⟩=some (.slice ba bg.length bc)∧w'.cell? ⟨P,3,none⟩=some (.slice q.sa q.sn q.sc)∧w'.cell? ⟨P,4,none⟩=some (.slice q.ra q.rn q.rc)∧w'.cell? ⟨P,5,none⟩=some (.slice q.wa q.wn q.tc)∧w'.cell? ⟨P,6,none⟩=some (.slice q.va q.vn q.vc)∧Hid (Below w.heap.size w w'))) (by kernel_rfl) ?_ (fun hHeld=>?_)
 ·exact KS.out _ (aD (Below.refl _ _))
 refine tk 0 ?_
 refine tk 1 ?_
 refine tk 2 ?_
 refine tk 3 ?_
 refine tk 4 ?_
 refine tk 5 ?_
 refine tk 6 ?_
 refine tk 7 ?_
 refine r1 8 (fun K hK=>?_)
 go_simp
 obtain⟨k0,k1,k2,k3,k4,k5,k6,hbx⟩:=hHeld
 go_wp2_with (go_at_call 180;refine(CO.out _ hbx.out).mono ?_;rintro e w1 ⟨xa,xc,rfl,hX,hb1⟩;have HX:=aJ hX;clear hX)
 have B1:Hid (Below w.heap.size w w1):=aC hbx.out hb1
 clear k0 k1 k2 k3 k4 k5 k6 hbx hb1
 have hHeld:True:=trivial
 clear hHeld
 refine hK.out _ _ (KS.out _ B1.out) (fun hHeld=>?_)
 clear hK K
 refine tk 9 ?_
 refine tk 10 ?_
 refine r1 11 (fun K hK=>?_)
 go_simp
 obtain⟨k0,k1,k2,k3,k4,k5,k6,hbx⟩:=hHeld
 go_wp2_with (go_at_call 179;refine(gotSteps_b _ _ _ _).mono ?_;rintro e w2 ⟨rfl,hb2⟩)
 have B2:Hid (Below w.heap.size w w2):=aC hbx.out hb2
 have HX2:Hid (IsSteps w2 xa (bE m l S)):=HX.out.below hb2
 clear hb2
 clear k0 k1 k2 k3 k4 k5 k6 hbx
 have hHeld:True:=trivial
 clear hHeld
 refine hK.out _ _ (KS.out _ B2.out) (fun hHeld=>?_)
 clear hK K
 refine tk 12 ?_
 refine wpAnyH_done (by kernel_rfl) ?_ _
 go_wp2
 go_ret
 exact⟨xa,xc,rfl,HX2.out,B2.out⟩
end
end
section
section
variable {P:Nat} {D:Nat→Prop} {m:Int} {la:Option Addr} {lc:Nat} {l:List TxA} {ba:Option Addr} {bc:Nat} {bg:List Int} {q q2:Q4} {S S2:SA} {w w1 w2:World}
theorem iL (w:World) (P j:Nat) (u:Value) (b:Nat) (h:b≠P):(w.setCell ⟨P,j,none⟩ u).heap[b]?=w.heap[b]?:=dR w P j u b h
theorem Clk.put (h:Clk P D m la lc l ba bc bg q S w) (hb1:Below w.heap.size w w1) {a:Nat} (ha:w.heap.size≤a) (hs:StaF a S2 q2 w1) (hb2:Below w1.heap.size w1 w2) :
  Clk P (fun b=>D b∨(a≤b∧b<w1.heap.size)) m la lc l ba bc bg q2 S2 ((((w2.setCell ⟨P,3,none⟩ (.slice q2.sa q2.sn q2.sc)).setCell ⟨P,4,none⟩ (.slice q2.ra q2.rn q2.rc)).setCell ⟨P,5,none⟩ (.slice q2.wa q2.wn q2.tc)).setCell ⟨P,6,none⟩ (.slice q2.va q2.vn q2.vc))∧w.grownBy ((((w2.setCell ⟨P,3,none⟩ (.slice q2.sa q2.sn q2.sc)).setCell ⟨P,4,none⟩ (.slice q2.ra q2.rn q2.rc)).setCell ⟨P,5,none⟩ (.slice q2.wa q2.wn q2.tc)).setCell ⟨P,6,none⟩ (.slice q2.va q2.vn q2.vc)) (some P):=by
 have hP:=h.pl
 have hb:=aC hb1 hb2
 obtain⟨k0,k1,k2,k3,k4,k5,k6⟩:=(h.on hb).cs
 have blk:∀b,b≠P→((((w2.setCell ⟨P,3,none⟩ (.slice q2.sa q2.sn q2.sc)).setCell ⟨P,4,none⟩ (.slice q2.ra q2.rn q2.rc)).setCell ⟨P,5,none⟩ (.slice q2.wa q2.wn q2.tc)).setCell ⟨P,6,none⟩ (.slice q2.va q2.vn q2.vc)).heap[b]?=w2.heap[b]?:=fun b hne=>by
  rw[iL _ _ _ _ _ hne,iL _ _ _ _ _ hne,iL _ _ _ _ _ hne,iL _ _ _ _ _ hne]
 have hsz:((((w2.setCell ⟨P,3,none⟩ (.slice q2.sa q2.sn q2.sc)).setCell ⟨P,4,none⟩ (.slice q2.ra q2.rn q2.rc)).setCell ⟨P,5,none⟩ (.slice q2.wa q2.wn q2.tc)).setCell ⟨P,6,none⟩ (.slice q2.va q2.vn q2.vc)).heap.size=w2.heap.size:=by simp only[World.size_setCell]
 have hg:w.grownBy ((((w2.setCell ⟨P,3,none⟩ (.slice q2.sa q2.sn q2.sc)).setCell ⟨P,4,none⟩ (.slice q2.ra q2.rn q2.rc)).setCell ⟨P,5,none⟩ (.slice q2.wa q2.wn q2.tc)).setCell ⟨P,6,none⟩ (.slice q2.va q2.vn q2.vc)) (some P):=⟨hb.os,hb.tape,hb.output,by rw[hsz];exact hb.size,fun b hl hne=>by
  have hne':b≠P:=fun e=>hne (by rw[e])
  rw[blk b hne',hb.block b hl]⟩
 refine⟨⟨⟨?_,?_,?_,?_,?_,?_,?_⟩,fun j=>?_,fun w' h'=>?_,fun b hd=>?_,fun w' h1 h2=>⟨?_,?_⟩⟩,hg⟩
 ·exact aE (by decide) (aE (by decide) (aE (by decide) (aE (by decide) k0)))
 ·exact aE (by decide) (aE (by decide) (aE (by decide) (aE (by decide) k1)))
 ·exact aE (by decide) (aE (by decide) (aE (by decide) (aE (by decide) k2)))
 ·exact aE (by decide) (aE (by decide) (aE (by decide) (aK k3)))
 ·exact aE (by decide) (aE (by decide) (aK (aE (by decide) k4)))
 ·exact aE (by decide) (aK (aE (by decide) (aE (by decide) k5)))
 ·exact aK (aE (by decide) (aE (by decide) (aE (by decide) k6)))
 ·have:=(h.on hb).fz j
  simpa using this
 ·refine h.tx w' (Below.trans ⟨hg.os,hg.tape,hg.output,hg.size,fun b hl=>?_⟩ h')
  exact hg.block b (by omega) (fun e=>by injection e with e;omega)
 ·rw[hsz]
  rcases hd with hd | ⟨h1,h2⟩
  ·exact⟨(h.dl b hd).1,Nat.lt_of_lt_of_le (h.dl b hd).2 hb.size⟩
  ·exact⟨by omega,Nat.lt_of_lt_of_le h2 hb2.size⟩
 ·refine hs w' (fun b hl hh=>?_) (by rw[hsz]at h1;exact Nat.le_trans hb2.size h1)
  rw[h2 b (.inr ⟨hl,hh⟩),blk b (by omega),hb2.block b hh]
 ·refine(h.keep w' (by rw[hsz]at h1;exact Nat.le_trans hb.size h1) (fun b hd=>?_)).2
  have:=h.dl b hd
  rw[h2 b (.inl hd),blk b (by omega),hb.block b this.2]
end
section
variable (P:Nat) (D:Nat→Prop) (m:Int) (la:Option Addr) (lc:Nat) (l:List TxA) (ba:Option Addr) (bc:Nat) (bg:List Int) (q:Q4) (S:SA) (w:World)
theorem tG (kd n k:Int) (h:Clk P D m la lc l ba bc bg q S w) (hst:kX m l S kd n k=0):Calls Tryz.prog 123 #[.pointer (some ⟨P,0,none⟩),.agg #[.int .i64 kd,.int .i64 n,.int .i64 k]] w fun e w'=>e=.returned (.tuple #[])∧∃(q2:Q4) (D2:Nat→Prop),Clk P D2 m la lc l ba bc bg q2 (pV m l S kd n k) w'∧(∀b,D2 b→D b∨w.heap.size≤b)∧w.grownBy w' (some P):=by
 have H:=aJ h
 obtain⟨W,hWe⟩:∃W:World,W=(w.alloc (.cells #[.int .i64 kd,.int .i64 n,.int .i64 k] 33)):=⟨_,rfl⟩
 have hU:Hid (Below w.heap.size w W):=by subst hWe;exact aA (Below.refl _ _) _
 have s0:W.cell? ⟨w.heap.size,0,none⟩=some (.int .i64 kd):=by subst hWe;exact aG _ _ 33 _ 0 _ rfl rfl
 have s1:W.cell? ⟨w.heap.size,1,none⟩=some (.int .i64 n):=by subst hWe;exact aG _ _ 33 _ 1 _ rfl rfl
 have s2:W.cell? ⟨w.heap.size,2,none⟩=some (.int .i64 k):=by subst hWe;exact aG _ _ 33 _ 2 _ rfl rfl
 have HWe:=aJ hWe
 have hsW:Hid (w.heap.size<W.heap.size):=by show _<_;subst hWe;simp
 clear hWe
 obtain⟨k0,k1,k2,k3,k4,k5,k6⟩:=(H.out.on hU.out).cs
 have KS:Hid (∀w',Below W.heap.size W w'→w'.cell? ⟨P,0,none⟩=some (.int .i64 m)∧w'.cell? ⟨P,1,none⟩=some (.slice la l.length lc)∧w'.cell? ⟨w.heap.size,0,none⟩=some (.int .i64 kd)∧w'.cell? ⟨w.heap.size,1,none⟩=some (.int .i64 n)∧w'.cell? ⟨w.heap.size,2,none⟩=some (.int .i64 k)):=fun w' hb=>by
  obtain⟨k0,k1,k2,k3,k4,k5,k6⟩:=(H.out.on (aC hU.out hb)).cs
  exact⟨k0,k1,aB hb s0,aB hb s1,aB hb s2⟩
 have CD:Hid (∀w',Below W.heap.size W w'→Calls Tryz.prog 158 #[.agg #[.int .i64 m,.slice la l.length lc],.agg #[.slice q.sa q.sn q.sc,.slice q.ra q.rn q.rc,.slice q.wa q.wn q.tc,.slice q.va q.vn q.vc],.agg #[.int .i64 kd,.int .i64 n,.int .i64 k]] w' fun e w''=>∃q2:Q4,e=.returned (.tuple #[.agg #[.slice q2.sa q2.sn q2.sc,.slice q2.ra q2.rn q2.rc,.slice q2.wa q2.wn q2.tc,.slice q2.va q2.vn q2.vc],.int .i64 0])∧StaF w'.heap.size (pV m l S kd n k) q2 w''∧Below w'.heap.size w' w''):=fun w' hb=>by
  have h:=do_q (c:=lc) (m:=m) kd n k (H.out.on (aC hU.out hb)).txs (H.out.on (aC hU.out hb)).sta
  rw[hst]at h
  exact h
 have PF0:Hid (∀(w2:World) (q2:Q4),Below W.heap.size W w2→((((w2.setCell ⟨P,3,none⟩ (.slice q2.sa q2.sn q2.sc)).setCell ⟨P,4,none⟩ (.slice q2.ra q2.rn q2.rc)).setCell ⟨P,5,none⟩ (.slice q2.wa q2.wn q2.tc)).setCell ⟨P,6,none⟩ (.slice q2.va q2.vn q2.vc)).cell? ⟨P,0,none⟩=some (.int .i64 m)∧((((w2.setCell ⟨P,3,none⟩ (.slice q2.sa q2.sn q2.sc)).setCell ⟨P,4,none⟩ (.slice q2.ra q2.rn q2.rc)).setCell ⟨P,5,none⟩ (.slice q2.wa q2.wn q2.tc)).setCell ⟨P,6,none⟩ (.slice q2.va q2.vn q2.vc)).cell? ⟨P,1,none⟩=some (.slice la l.length lc)∧((((w2.setCell ⟨P,3,none⟩ (.slice q2.sa q2.sn q2.sc)).setCell ⟨P,4,none⟩ (.slice q2.ra q2.rn q2.rc)).setCell ⟨P,5,none⟩ (.slice q2.wa q2.wn q2.tc)).setCell ⟨P,6,none⟩ (.slice q2.va q2.vn q2.vc)).cell? ⟨w.heap.size,0,none⟩=some (.int .i64 kd)∧((((w2.setCell ⟨P,3,none⟩ (.slice q2.sa q2.sn q2.sc)).setCell ⟨P,4,none⟩ (.slice q2.ra q2.rn q2.rc)).setCell ⟨P,5,none⟩ (.slice q2.wa q2.wn q2.tc)).setCell ⟨P,6,none⟩ (.slice q2.va q2.vn q2.vc)).cell? ⟨w.heap.size,1,none⟩=some (.int .i64 n)∧((((w2.setCell ⟨P,3,none⟩ (.slice q2.sa q2.sn q2.sc)).setCell ⟨P,4,none⟩ (.slice q2.ra q2.rn q2.rc)).setCell ⟨P,5,none⟩ (.slice q2.wa q2.wn q2.tc)).setCell ⟨P,6,none⟩ (.slice q2.va q2.vn q2.vc)).cell? ⟨w.heap.size,2,none⟩=some (.int .i64 k)):=fun w2 q2 hb=>by
  obtain⟨k0,k1,k2,k3,k4,k5,k6⟩:=(H.out.on (aC hU.out hb)).cs
  have hne:P≠w.heap.size:=Nat.ne_of_lt H.out.pl
  refine⟨aE (by decide) (aE (by decide) (aE (by decide) (aE (by decide) k0))),aE (by decide) (aE (by decide) (aE (by decide) (aE (by decide) k1))),?_,?_,?_⟩
  ·rw[World.cell?_setCell_far _ _ _ _ hne,World.cell?_setCell_far _ _ _ _ hne,World.cell?_setCell_far _ _ _ _ hne,World.cell?_setCell_far _ _ _ _ hne];exact aB hb s0
  ·rw[World.cell?_setCell_far _ _ _ _ hne,World.cell?_setCell_far _ _ _ _ hne,World.cell?_setCell_far _ _ _ _ hne,World.cell?_setCell_far _ _ _ _ hne];exact aB hb s1
  ·rw[World.cell?_setCell_far _ _ _ _ hne,World.cell?_setCell_far _ _ _ _ hne,World.cell?_setCell_far _ _ _ _ hne,World.cell?_setCell_far _ _ _ _ hne];exact aB hb s2
 clear h hst
 go_enter Tryz.func123,Tryz.ntmps123
 go_upto_region 1 with fail
 rw[←HWe.out]
 clear HWe
 refine wp_region_held_drew (S:=(fun w'=>w'.cell? ⟨P,0,none⟩=some (.int .i64 m)∧w'.cell? ⟨P,1,none⟩=some (.slice la l.length lc)∧w'.cell? ⟨w.heap.size,0,none⟩=some (.int .i64 kd)∧w'.cell? ⟨w.heap.size,1,none⟩=some (.int .i64 n)∧w'.cell? ⟨w.heap.size,2,none⟩=some (.int .i64 k))) (by kernel_rfl) ?_ (fun hHeld=>?_)
 ·refine KS.out _ ?_
  exact aD (Below.refl _ _)
 refine tk 0 ?_
 refine tk 1 ?_
 refine tk 2 ?_
 refine tk 3 ?_
 refine tk 4 ?_
 refine tk 5 ?_
 refine tk 6 ?_
 refine tk 7 ?_
 refine tk 9 ?_
 refine r1 8 (fun K hK=>?_)
 go_simp
 skip
 clear hHeld
 refine hK.out _ _ (KS.out _ (aD (Below.refl _ _))) (fun hHeld=>?_)
 clear hK K
 refine r1 10 (fun K hK=>?_)
 go_simp
 go_wp2_with (go_at_call 158;refine(CD.out _ (aD (Below.refl _ _))).mono ?_;rintro e w1 ⟨q2,rfl,hsf,hb1⟩)
 have B1:Hid (Below W.heap.size W w1):=aC (aD (Below.refl _ _)) hb1
 have HSF:=aJ hsf
 clear hb1 hsf
 clear hHeld
 refine hK.out _ _ (KS.out _ B1.out) (fun hHeld=>?_)
 clear hK K
 refine tk 11 ?_
 refine tk 12 ?_
 refine r1 13 (fun K hK=>?_)
 go_simp
 go_wp2_with (go_at_call 39;refine(pR q2 _).mono ?_;rintro e w2 ⟨rfl,hb2⟩)
 have B2:Hid (Below W.heap.size W w2):=aC B1.out hb2
 have HB2:=aJ hb2
 clear hb2
 clear k3 k4 k5 k6
 obtain⟨_,_,_,k3,k4,k5,k6⟩:=(H.out.on (aC hU.out B2.out)).cs
 have zf:∀j,w2.frozen? ⟨P,j,none⟩=false:=(H.out.on (aC hU.out B2.out)).fz
 have PF:Hid (((((w2.setCell ⟨P,3,none⟩ (.slice q2.sa q2.sn q2.sc)).setCell ⟨P,4,none⟩ (.slice q2.ra q2.rn q2.rc)).setCell ⟨P,5,none⟩ (.slice q2.wa q2.wn q2.tc)).setCell ⟨P,6,none⟩ (.slice q2.va q2.vn q2.vc)).cell? ⟨P,0,none⟩=some (.int .i64 m)∧((((w2.setCell ⟨P,3,none⟩ (.slice q2.sa q2.sn q2.sc)).setCell ⟨P,4,none⟩ (.slice q2.ra q2.rn q2.rc)).setCell ⟨P,5,none⟩ (.slice q2.wa q2.wn q2.tc)).setCell ⟨P,6,none⟩ (.slice q2.va q2.vn q2.vc)).cell? ⟨P,1,none⟩=some (.slice la l.length lc)∧((((w2.setCell ⟨P,3,none⟩ (.slice q2.sa q2.sn q2.sc)).setCell ⟨P,4,none⟩ (.slice q2.ra q2.rn q2.rc)).setCell ⟨P,5,none⟩ (.slice q2.wa q2.wn q2.tc)).setCell ⟨P,6,none⟩ (.slice q2.va q2.vn q2.vc)).cell? ⟨w.heap.size,0,none⟩=some (.int .i64 kd)∧((((w2.setCell ⟨P,3,none⟩ (.slice q2.sa q2.sn q2.sc)).setCell ⟨P,4,none⟩ (.slice q2.ra q2.rn q2.rc)).setCell ⟨P,5,none⟩ (.slice q2.wa q2.wn q2.tc)).setCell ⟨P,6,none⟩ (.slice q2.va q2.vn q2.vc)).cell? ⟨w.heap.size,1,none⟩=some (.int .i64 n)∧((((w2.setCell ⟨P,3,none⟩ (.slice q2.sa q2.sn q2.sc)).setCell ⟨P,4,none⟩ (.slice q2.ra q2.rn q2.rc)).setCell ⟨P,5,none⟩ (.slice q2.wa q2.wn q2.tc)).setCell ⟨P,6,none⟩ (.slice q2.va q2.vn q2.vc)).cell? ⟨w.heap.size,2,none⟩=some (.int .i64 k)):=PF0.out w2 q2 B2.out
 clear hHeld
 refine hK.out _ _ (KS.out _ B2.out) (fun hHeld=>?_)
 clear hK K
 refine tk 14 ?_
 refine tk 15 ?_
 refine r1 16 (fun K hK=>?_)
 go_simp
 skip
 clear hHeld
 refine hK.out _ _ (PF.out) (fun hHeld=>?_)
 clear hK K
 refine wpAnyH_done (by kernel_rfl) ?_ _
 clear k0 k1 k2 k3 k4 k5 k6 hHeld zf
 go_wp2
 go_end0
 obtain⟨hc,hg⟩:=H.out.put (aC hU.out B1.out) (a:=W.heap.size) hU.out.size HSF.out HB2.out
 exact⟨rfl,q2,_,hc,fun b hd=>hd.elim .inl (fun h=>.inr (Nat.le_trans hU.out.size h.1)),hg⟩
theorem vN (kd n k:Int) (h:Clk P D m la lc l ba bc bg q S w) (hst:¬kX m l S kd n k=0):Calls Tryz.prog 123 #[.pointer (some ⟨P,0,none⟩),.agg #[.int .i64 kd,.int .i64 n,.int .i64 k]] w fun e w'=>e=.panicked [{v:=.iface 22 (.int .i64 (kX m l S kd n k)),recovered:=false}]∧Below w.heap.size w w':=by
 have H:=aJ h
 obtain⟨W,hWe⟩:∃W:World,W=(w.alloc (.cells #[.int .i64 kd,.int .i64 n,.int .i64 k] 33)):=⟨_,rfl⟩
 have hU:Hid (Below w.heap.size w W):=by subst hWe;exact aA (Below.refl _ _) _
 have s0:W.cell? ⟨w.heap.size,0,none⟩=some (.int .i64 kd):=by subst hWe;exact aG _ _ 33 _ 0 _ rfl rfl
 have s1:W.cell? ⟨w.heap.size,1,none⟩=some (.int .i64 n):=by subst hWe;exact aG _ _ 33 _ 1 _ rfl rfl
 have s2:W.cell? ⟨w.heap.size,2,none⟩=some (.int .i64 k):=by subst hWe;exact aG _ _ 33 _ 2 _ rfl rfl
 have HWe:=aJ hWe
 have hsW:Hid (w.heap.size<W.heap.size):=by show _<_;subst hWe;simp
 clear hWe
 obtain⟨k0,k1,k2,k3,k4,k5,k6⟩:=(H.out.on hU.out).cs
 have KS:Hid (∀w',Below W.heap.size W w'→w'.cell? ⟨P,0,none⟩=some (.int .i64 m)∧w'.cell? ⟨P,1,none⟩=some (.slice la l.length lc)∧w'.cell? ⟨w.heap.size,0,none⟩=some (.int .i64 kd)∧w'.cell? ⟨w.heap.size,1,none⟩=some (.int .i64 n)∧w'.cell? ⟨w.heap.size,2,none⟩=some (.int .i64 k)):=fun w' hb=>by
  obtain⟨k0,k1,k2,k3,k4,k5,k6⟩:=(H.out.on (aC hU.out hb)).cs
  exact⟨k0,k1,aB hb s0,aB hb s1,aB hb s2⟩
 have CD:Hid (∀w',Below W.heap.size W w'→Calls Tryz.prog 158 #[.agg #[.int .i64 m,.slice la l.length lc],.agg #[.slice q.sa q.sn q.sc,.slice q.ra q.rn q.rc,.slice q.wa q.wn q.tc,.slice q.va q.vn q.vc],.agg #[.int .i64 kd,.int .i64 n,.int .i64 k]] w' fun e w''=>∃q2:Q4,e=.returned (.tuple #[.agg #[.slice q2.sa q2.sn q2.sc,.slice q2.ra q2.rn q2.rc,.slice q2.wa q2.wn q2.tc,.slice q2.va q2.vn q2.vc],.int .i64 (kX m l S kd n k)])∧StaF w'.heap.size (pV m l S kd n k) q2 w''∧Below w'.heap.size w' w''):=fun w' hb=>by
  exact do_q (c:=lc) (m:=m) kd n k (H.out.on (aC hU.out hb)).txs (H.out.on (aC hU.out hb)).sta
 clear h
 have HE:=aJ hst
 clear hst
 go_enter Tryz.func123,Tryz.ntmps123
 go_upto_region 1 with fail
 rw[←HWe.out]
 clear HWe
 refine wp_region_held_drew (S:=(fun w'=>w'.cell? ⟨P,0,none⟩=some (.int .i64 m)∧w'.cell? ⟨P,1,none⟩=some (.slice la l.length lc)∧w'.cell? ⟨w.heap.size,0,none⟩=some (.int .i64 kd)∧w'.cell? ⟨w.heap.size,1,none⟩=some (.int .i64 n)∧w'.cell? ⟨w.heap.size,2,none⟩=some (.int .i64 k))) (by kernel_rfl) ?_ (fun hHeld=>?_)
 ·refine KS.out _ ?_
  exact aD (Below.refl _ _)
 refine tk 0 ?_
 refine tk 1 ?_
 refine tk 2 ?_
 refine tk 3 ?_
 refine tk 4 ?_
 refine tk 5 ?_
 refine tk 6 ?_
 refine tk 7 ?_
 refine tk 9 ?_
 refine r1 8 (fun K hK=>?_)
 go_simp
 skip
 clear hHeld
 refine hK.out _ _ (KS.out _ (aD (Below.refl _ _))) (fun hHeld=>?_)
 clear hK K
 refine r1 10 (fun K hK=>?_)
 go_simp
 go_wp2_with (go_at_call 158;refine(CD.out _ (aD (Below.refl _ _))).mono ?_;rintro e w1 ⟨q2,rfl,hsf,hb1⟩)
 have B1:Hid (Below W.heap.size W w1):=aC (aD (Below.refl _ _)) hb1
 have HSF:=aJ hsf
 clear hb1 hsf
 clear hHeld
 refine hK.out _ _ (KS.out _ B1.out) (fun hHeld=>?_)
 clear hK K
 refine tk 11 ?_
 refine tk 12 ?_
 refine r1 13 (fun K hK=>?_)
 go_simp
 go_wp2_with (go_at_call 39;refine(xG q2 _ HE.out _).mono ?_;rintro e w2 ⟨rfl,hb2⟩)
 have B2:Hid (Below w.heap.size w w2):=aC hU.out (aC B1.out hb2)
 exact⟨rfl,rfl,B2.out⟩
end
end
end Go.Proofs.YtcgpkonfneofdaaGreatDoor
