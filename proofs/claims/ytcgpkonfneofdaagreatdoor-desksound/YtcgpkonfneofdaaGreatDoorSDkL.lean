/- Conditions: those that each theorem states. -/
import Derived.Test.YtcgpkonfneofdaaGreatDoorSDkJ
set_option maxRecDepth 100000
set_option maxHeartbeats 8000000
namespace Go.Proofs.YtcgpkonfneofdaaGreatDoor
open Go.RowKit
section
section
variable {P:Nat} {D E:Nat→Prop} {m:Int} {la:Option Addr} {lc:Nat} {l:List TxA} {ba:Option Addr} {bc:Nat} {bg:List Int} {q:Q4} {S:SA} {w:World}
structure Own (P:Nat) (E:Nat→Prop) (sa:Option Addr) (s:List Int) (w:World):Prop where
 dl:∀b,E b→P<b∧b<w.heap.size
 keep:∀w',w.heap.size≤w'.heap.size→(∀b,E b→w'.heap[b]?=w.heap[b]?)→IsInts w' sa s
theorem Own.ints {sa:Option Addr} {s:List Int} (h:Own P E sa s w):IsInts w sa s:=h.keep w (Nat.le_refl _) (fun _ _=>rfl)
theorem Own.on {sa:Option Addr} {s:List Int} {w':World} (h:Own P E sa s w) (hg:w.grownBy w' (some P)):Own P E sa s w':=
 ⟨fun b hd=>⟨(h.dl b hd).1,Nat.lt_of_lt_of_le (h.dl b hd).2 hg.size⟩,fun w2 h1 h2=>h.keep w2 (Nat.le_trans hg.size h1) (fun b hd=>(h2 b hd).trans (hg.block b (h.dl b hd).2 (fun e=>by injection e with e;have:=(h.dl b hd).1;omega)))⟩
theorem Clk.begun {sa:Option Addr} {sc:Nat} {s:List Int} (h:Clk P D m la lc l ba bc bg q S w) (hs:Own P E sa s w) :
  Clk P (fun b=>D b∨E b) m la lc l sa sc s q S (w.setCell ⟨P,2,none⟩ (.slice sa s.length sc))∧w.grownBy (w.setCell ⟨P,2,none⟩ (.slice sa s.length sc)) (some P):=by
 have hP:=h.pl
 have hg:=aP w P 2 (.slice sa s.length sc)
 obtain⟨k0,k1,k2,k3,k4,k5,k6⟩:=h.cs
 have hsz:(w.setCell ⟨P,2,none⟩ (.slice sa s.length sc)).heap.size=w.heap.size:=World.size_setCell _ _ _
 refine⟨⟨⟨aE (by decide) k0,aE (by decide) k1,aK k2,aE (by decide) k3,aE (by decide) k4,aE (by decide) k5,aE (by decide) k6⟩,fun j=>?_,fun w' h'=>?_,fun b hd=>?_,fun w' h1 h2=>⟨?_,?_⟩⟩,hg⟩
 ·have:=h.fz j
  simpa using this
 ·refine h.tx w' (Below.trans ⟨hg.os,hg.tape,hg.output,hg.size,fun b hl=>?_⟩ h')
  exact hg.block b (by omega) (fun e=>by injection e with e;omega)
 ·rw[hsz]
  exact hd.elim (h.dl b) (hs.dl b)
 ·refine(h.keep w' (by rw[hsz]at h1;exact h1) (fun b hd=>?_)).1
  have:=h.dl b hd
  rw[h2 b (.inl hd),iL _ _ _ _ _ (by omega)]
 ·refine hs.keep w' (by rw[hsz]at h1;exact h1) (fun b hd=>?_)
  have:=hs.dl b hd
  rw[h2 b (.inr hd),iL _ _ _ _ _ (by omega)]
theorem cR {a b c:World} (h1:a.grownBy b (some P)) (h2:b.grownBy c (some P)):a.grownBy c (some P):=
 ⟨h2.os.trans h1.os,h2.tape.trans h1.tape,h2.output.trans h1.output,Nat.le_trans h1.size h2.size,fun k hk hne=>(h2.block k (Nat.lt_of_lt_of_le hk h1.size) hne).trans (h1.block k hk hne)⟩
theorem aX {a b:World} (h:Below a.heap.size a b):a.grownBy b (some P):=⟨h.os,h.tape,h.output,h.size,fun k hk _=>h.block k hk⟩
end
section
variable (P:Nat) (D E:Nat→Prop) (m:Int) (la:Option Addr) (lc:Nat) (l:List TxA) (ba:Option Addr) (bc:Nat) (bg:List Int) (q:Q4) (S:SA) (w:World)
theorem pY (sa:Option Addr) (sc:Nat) (s:List Int) (h:Clk P D m la lc l ba bc bg q S w) (hs:Own P E sa s w) (hst:iI m l s=0):Calls Tryz.prog 18 #[.pointer (some ⟨P,0,none⟩),.slice sa s.length sc] w fun e w'=>e=.returned (.tuple #[])∧∃(q2:Q4) (D2:Nat→Prop),Clk P D2 m la lc l sa sc s q2 (cA m l s) w'∧(∀b,D2 b→D b∨E b∨w.heap.size≤b)∧w.grownBy w' (some P):=by
 have H:=aJ h
 have HO:=aJ hs
 have CD:Hid (∀w',Below w.heap.size w w'→Calls Tryz.prog 40 #[.agg #[.int .i64 m,.slice la l.length lc],.slice sa s.length sc] w' fun e w''=>∃q2:Q4,e=.returned (.tuple #[.agg #[.slice q2.sa q2.sn q2.sc,.slice q2.ra q2.rn q2.rc,.slice q2.wa q2.wn q2.tc,.slice q2.va q2.vn q2.vc],.int .i64 0])∧StaF w'.heap.size (cA m l s) q2 w''∧Below w'.heap.size w' w''):=fun w' hb=>by
  have h:=rH la lc l sa sc s m w' (H.out.on hb).txs ((HO.out.on (aX hb)).ints)
  rw[hst]at h
  exact h
 clear h hst hs
 go_enter Tryz.func18,Tryz.ntmps18
 obtain⟨k0,k1,k2,k3,k4,k5,k6⟩:=H.out.cs
 go_wp2_with fail
 refine(CD.out _ (Below.refl _ _)).mono ?_
 rintro e w1 ⟨q2,rfl,hsf,hb1⟩
 have B1:=aJ hb1
 have HSF:=aJ hsf
 clear hb1 hsf
 go_wp2_with fail
 refine(pR q2 _).mono ?_
 rintro e w2 ⟨rfl,hb2⟩
 have B2:Hid (Below w.heap.size w w2):=aC B1.out hb2
 have HB2:=aJ hb2
 clear hb2 k0 k1 k2 k3 k4 k5 k6
 obtain⟨_,_,k2,k3,k4,k5,k6⟩:=(H.out.on B2.out).cs
 have zf:∀j,w2.frozen? ⟨P,j,none⟩=false:=(H.out.on B2.out).fz
 go_upto_region 1 with fail
 clear k2 k3 k4 k5 k6 zf
 obtain⟨hc,hg⟩:=H.out.put B1.out (a:=w.heap.size) (Nat.le_refl _) HSF.out HB2.out
 have HC:=aJ hc
 have HG:=aJ hg
 clear hc hg
 generalize ((((w2.setCell ⟨P,3,none⟩ (.slice q2.sa q2.sn q2.sc)).setCell ⟨P,4,none⟩ (.slice q2.ra q2.rn q2.rc)).setCell ⟨P,5,none⟩ (.slice q2.wa q2.wn q2.tc)).setCell ⟨P,6,none⟩ (.slice q2.va q2.vn q2.vc))=X at *
 obtain⟨_,_,k2,_,_,_,_⟩:=HC.out.cs
 have zf:=HC.out.fz
 go_wp2
 go_end0
 obtain⟨hc,hg⟩:=HC.out.begun (sc:=sc) (HO.out.on HG.out)
 exact⟨rfl,q2,_,hc,fun b hd=>hd.elim (fun h=>h.elim .inl (fun h=>.inr (.inr h.1))) (fun h=>.inr (.inl h)),cR HG.out hg⟩
end
end
section
theorem ints_set {w:World} {g k:Nat} {s:List Int} {v:Int} (hk:k<s.length) (_hg:g<w.heap.size) (hc:∀j,j<s.length→w.cell? ⟨g,j,none⟩=some (.int .i64 (s.getD j 0))):∀j,j<(s.set k v).length→(w.setCell ⟨g,k,none⟩ (.int .i64 v)).cell? ⟨g,0+j,none⟩=some (.int .i64 ((s.set k v).getD j 0)):=by
 intro j hj
 rw[List.length_set]at hj
 rw[Nat.zero_add]
 by_cases e:j=k
 ·subst e
  rw[aK (hc j hj)]
  simp[List.getD,hk]
 ·rw[aE e (hc j hj)]
  simp[List.getD,Ne.symm e]
theorem wU {P g:Nat} {w:World} {s:List Int} (hP:P<g) (hg:g<w.heap.size) (hc:∀j,j<s.length→w.cell? ⟨g,0+j,none⟩=some (.int .i64 (s.getD j 0))):Own P (fun b=>b=g) (some ⟨g,0,none⟩) s w:=
 ⟨fun b e=>by subst e;exact⟨hP,hg⟩,fun w' h1 h2 j hj=>⟨g,0,rfl,Nat.lt_of_lt_of_le hg h1,by rw[World.cell?_of_block (a:=⟨g,0+j,none⟩) (h2 g rfl)];exact hc j hj⟩⟩
section
variable (P:Nat) (D:Nat→Prop) (m:Int) (la:Option Addr) (lc:Nat) (l:List TxA) (ba:Option Addr) (bc:Nat) (bg:List Int) (q:Q4) (S:SA) (w:World)
theorem clkPut_ok (k:Nat) (v:Int) (hk:k<8) (h8:S.st.length=8) (h:Clk P D m la lc l ba bc bg q S w) (hst:iI m l (S.st.set k v)=0):Calls Tryz.prog 120 #[.pointer (some ⟨P,0,none⟩),.int .i64 (k:Int),.int .i64 v] w fun e w'=>e=.returned (.tuple #[])∧∃(sa:Option Addr) (sc:Nat) (q2:Q4) (D2:Nat→Prop),Clk P D2 m la lc l sa sc (S.st.set k v) q2 (cA m l (S.st.set k v)) w'∧(∀b,D2 b→D b∨w.heap.size≤b)∧w.grownBy w' (some P):=by
 have H:=aJ h
 have hPl:=h.pl
 obtain⟨k0,k1,k2,k3,k4,k5,k6⟩:=h.cs
 have hsn:q.sn=8:=h.sta.1.trans h8
 rw[hsn]at k3
 have CL:Hid (Calls Tryz.prog 79 #[.slice q.sa 8 q.sc] w fun e w'=>∃a' c' g,e=.returned (.slice a' 8 c')∧NewRow w.heap.size w' a' c' g 8 (fun k=>.int .i64 (S.st.getD k 0))∧Below w.heap.size w w'):=kE 8 (fun k=>.int .i64 (S.st.getD k 0)) (fun k _=>⟨_,rfl⟩) q.sa q.sc w (by decide) (fun k hk=>h.sta.2.2.2.2.st k (by omega))
 have H8:=aJ h8
 have HE:=aJ hst
 have i1:¬(8:Int)≤(k:Int):=by omega
 have i2:(k:Int)<8:=by omega
 clear h h8 hst k0 k1 k2 k4 k5 k6 hsn
 go_enter Tryz.func120,Tryz.ntmps120
 go_wp2_with fail
 refine CL.out.mono ?_
 rintro e w1 ⟨a',c',g,rfl,hN,hb1⟩
 obtain⟨rfl,hlo,hg,hcs,hfz⟩:=hN.e (by decide)
 have B1:=aJ hb1
 have HC:=aJ hcs
 have z0:=hcs k hk
 have zf:=hfz k
 have hO:=wU (P:=P) (g:=g) (w:=w1.setCell ⟨g,k,none⟩ (.int .i64 v)) (s:=S.st.set k v) (by omega) (by rw[World.size_setCell];exact hg) (ints_set (by rw[H8.out];exact hk) hg (fun j hj=>HC.out j (by rw[←H8.out];exact hj)))
 have hK:=(H.out.on hb1).frame (w':=w1.setCell ⟨g,k,none⟩ (.int .i64 v)) (iL _ _ _ _ _ (by omega)) ⟨rfl,rfl,rfl,by rw[World.size_setCell];exact Nat.le_refl _,fun b hb=>iL _ _ _ _ _ (by omega)⟩ (fun b hd=>iL _ _ _ _ _ (by have:=(H.out.dl b hd).2;omega))
 have CB:=pY P D (fun b=>b=g) m la lc l ba bc bg q S _ (some ⟨g,0,none⟩) c' (S.st.set k v) hK hO HE.out
 rw[List.length_set,H8.out]at CB
 have HCB:=aJ CB
 have HLO:=aJ hlo
 clear hN hb1 hcs hfz hO hK CB HC CL k3 hlo
 go_wp2_with fail
 refine HCB.out.mono ?_
 rintro e w2 ⟨rfl,q2,D2,hc,hd,hgr⟩
 have R1:=aJ hc
 have R2:=aJ hd
 have R3:=aJ hgr
 clear hc hd hgr HCB
 go_wp2
 go_end0
 have hsz:(w1.setCell ⟨g,k,none⟩ (.int .i64 v)).heap.size=w1.heap.size:=World.size_setCell _ _ _
 have hgr:=R3.out
 have hb:=B1.out
 refine⟨rfl,some ⟨g,0,none⟩,c',q2,D2,R1.out,fun b h=>?_,⟨hgr.os.trans hb.os,hgr.tape.trans hb.tape,hgr.output.trans hb.output,Nat.le_trans hb.size (by have:=hgr.size;rw[hsz]at this;exact this),fun b h1 h2=>?_⟩⟩
 ·rcases R2.out b h with h | h | h
  ·exact .inl h
  ·rw[h];exact .inr HLO.out
  ·rw[hsz]at h;exact .inr (Nat.le_trans hb.size h)
 ·have:=HLO.out
  rw[hgr.block b (by rw[hsz];exact Nat.lt_of_lt_of_le h1 hb.size) h2,iL _ _ _ _ _ (by omega),hb.block b h1]
theorem clkPut_bad (k:Nat) (v:Int) (hk:8≤k):Calls Tryz.prog 120 #[.pointer (some ⟨P,0,none⟩),.int .i64 (k:Int),.int .i64 v] w fun e w'=>e=.panicked [{v:=.iface 22 (.int .i64 3),recovered:=false}]∧Below w.heap.size w w':=by
 have i1:(8:Int)≤(k:Int):=by omega
 go_enter Tryz.func120,Tryz.ntmps120
 go_wp2_with fail
 refine(cH [3] _ _ _ (by decide) (by decide) (fun j hj=>by
  have:j=0:=by simpa using hj
  subst this;exact aG _ _ 22 _ 0 _ rfl rfl)).mono ?_
 rintro e w2 ⟨rfl,rfl⟩
 go_wp2
 exact⟨rfl,rfl,aA (Below.refl _ _) _⟩
end
end
end Go.Proofs.YtcgpkonfneofdaaGreatDoor
