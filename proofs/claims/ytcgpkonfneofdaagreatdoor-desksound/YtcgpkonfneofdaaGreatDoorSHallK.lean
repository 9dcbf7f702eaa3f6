/- Conditions: those that each theorem states. -/
import Derived.Test.YtcgpkonfneofdaaGreatDoorSHallJ
set_option maxRecDepth 100000
set_option maxHeartbeats 8000000
namespace Go.Proofs.YtcgpkonfneofdaaGreatDoor
open Go.RowKit
section
variable (ra ga sa:Option Addr) (rc gc sc:Nat) (rs:List Int) (gs:List Gd) (ss:List St)
theorem locks_okA (w:World) (ht:IsTx w ra ga sa rs gs ss) (hc:bA rs gs ss=0) (h3:ss.length≤3) :
  Calls Tryz.prog 235 #[.agg #[.slice ra rs.length rc,.slice ga gs.length gc,.slice sa ss.length sc]] w fun e w'=>∃a cap,e=.returned (.tuple #[.slice a (bR rs (aH ss) 8).length cap,.int .i64 0])∧(IsLks w' a (bR rs (aH ss) 8)∧∀ad,a=some ad→w.heap.size≤ad.block)∧Below w.heap.size w w':=by
 obtain⟨i0,hi,hz0,hz1,hz2⟩:=info_parts Tryz.info286
 have HT:Hid (IsTx w ra ga sa rs gs ss):=ht
 have HC:Hid (bA rs gs ss=0):=hc
 have hkl:Hid ((aH ss).length≤maxLen):=by rw[dO];exact ht.ls
 clear ht hc
 go_enter Tryz.func235,Tryz.ntmps235
 go_wp2_with fail
 refine(cZ ra ga sa rc gc sc rs gs ss _ (HT.out.below (aA (Below.refl _ _) _))).mono ?_
 rintro e w1 ⟨rfl,hb1⟩
 rw[HC.out]
 have x0:w1.cell? ⟨w.heap.size,0,none⟩=some (.slice ra rs.length rc):=(hb1.cell (by simp)).trans (by simp)
 have x1:w1.cell? ⟨w.heap.size,1,none⟩=some (.slice ga gs.length gc):=(hb1.cell (by simp)).trans (by simp)
 have x2:w1.cell? ⟨w.heap.size,2,none⟩=some (.slice sa ss.length sc):=(hb1.cell (by simp)).trans (by simp)
 have B1:Below w.heap.size w w1:=aC (aA (Below.refl _ _) _) hb1
 clear hb1 HC
 go_wp2_with fail
 refine(iM ra ga sa rc gc sc rs gs ss _ (HT.out.below B1) h3).mono ?_
 rintro e W ⟨ka,kc,rfl,hka,hbW⟩
 have y0:=aB hbW x0
 have hW:Hid (Below w.heap.size w W):=aC B1 hbW
 have hra:Hid (IsInts W ra rs):=HT.out.r.below hW.out
 have hlr:Hid (rs.length≤maxLen):=HT.out.lr
 have HKA:Hid (IsInts W ka (aH ss)):=hka
 have hq:w.heap.size<W.heap.size:=World.block_lt_of_cell? W _ y0
 clear x0 x1 x2 B1 hbW HT hka
 generalize hB:W.heap.size=B at *
 go_wp2_with fail
 go_loopw [5,7,8,16] (fun v _ _ i wr=>∃k:Nat,k≤8∧i=.int .i64 k∧wr.ownsRow B 286 2 v (bR rs (aH ss) k).length (dQ (bR rs (aH ss) k))∧Below B W wr) (fun _ _ _ i _=>8 - (intOf i).toNat)
 case atStart=>exact⟨0,Nat.zero_le _,rfl,World.ownsRow_nil _ _ _ _,Below.refl _ _⟩
 case round=>
  obtain⟨k,hk,rfl,hown,hnx⟩:=hrel
  have hsz:B≤wr.heap.size:=by have:=hnx.size;omega
  have q0:wr.cell? ⟨w.heap.size,0,none⟩=some (.slice ra rs.length rc):=(hnx.cell (p:=⟨w.heap.size,0,none⟩) hq).trans y0
  have hll:=kU rs (aH ss) k
  by_cases hlt:k<8
  ·have hI1:Hid (IsInts wr ka (aH ss)):=HKA.out.below (by rw[hB];exact hnx)
   have hI2:Hid (IsInts wr ra rs):=hra.out.below (by rw[hB];exact hnx)
   by_cases m1:(k:Int)∈aH ss
   ·have HS:Hid (bR rs (aH ss) (k+1)=bR rs (aH ss) k++[((k:Int),true)]):=aAy rs _ k m1
    have HD:Hid (decide ((k:Int)∈aH ss)=true):=decide_eq_true m1
    clear m1
    go_wp2_with fail
    refine(bP k (aH ss) ka kc _ hkl.out hI1.out).mono ?_
    rintro e w' ⟨rfl,rfl⟩
    rw[HD.out]
    go_wp2_with (first | (at_builtin;(refine wpList_append_own _ rfl _ _ 265 rfl B 286 i0 (.agg #[.int .i64 0,.bool false]) 2 16 Tryz.underlying265 hi hz0 hz1 hz2 rfl (by decide) _ _ _ rfl (hown.alloc _) _ 1 1 [.int .i64 k,.bool true] rfl rfl (qU _ _ _ _ (by simp)) (wV _ _) (by unfold maxLen;omega) (by omega) (by simp;omega) ?_);intro v' w1 hown' hgrow _) | go_in)
    have R:w1.ownsRow B 286 2 v' (bR rs (aH ss) (k+1)).length (dQ (bR rs (aH ss) (k+1))):=by
     rw[HS.out,fW,List.length_append];exact hown'
    have RB:=(hnx.alloc hsz _).grown hgrow (by simp;omega) (fun j hj=>(hown.lt j hj).1)
    clear hown' hgrow hown hnx
    go_wp2
    go_roundw
    case rel=>exact⟨k+1,by omega,by go_num,R,RB⟩
    case measure=>simp[intOf];omega
   ·have HD:Hid (decide ((k:Int)∈aH ss)=false):=decide_eq_false m1
    by_cases m2:(k:Int)∈rs
    ·have HS:Hid (bR rs (aH ss) (k+1)=bR rs (aH ss) k++[((k:Int),false)]):=uS rs _ k m1 m2
     have HD2:Hid (decide ((k:Int)∈rs)=true):=decide_eq_true m2
     clear m1 m2
     go_wp2_with fail
     refine(bP k (aH ss) ka kc _ hkl.out hI1.out).mono ?_
     rintro e w' ⟨rfl,rfl⟩
     rw[HD.out]
     go_wp2_with fail
     refine(bP k rs ra rc _ hlr.out hI2.out).mono ?_
     rintro e w' ⟨rfl,rfl⟩
     rw[HD2.out]
     go_wp2_with (first | (at_builtin;(refine wpList_append_own _ rfl _ _ 265 rfl B 286 i0 (.agg #[.int .i64 0,.bool false]) 2 16 Tryz.underlying265 hi hz0 hz1 hz2 rfl (by decide) _ _ _ rfl (hown.alloc _) _ 1 1 [.int .i64 k,.bool false] rfl rfl (qU _ _ _ _ (by simp)) (wV _ _) (by unfold maxLen;omega) (by omega) (by simp;omega) ?_);intro v' w1 hown' hgrow _) | go_in)
     have R:w1.ownsRow B 286 2 v' (bR rs (aH ss) (k+1)).length (dQ (bR rs (aH ss) (k+1))):=by
      rw[HS.out,fW,List.length_append];exact hown'
     have RB:=(hnx.alloc hsz _).grown hgrow (by simp;omega) (fun j hj=>(hown.lt j hj).1)
     clear hown' hgrow hown hnx
     go_wp2
     go_roundw
     case rel=>exact⟨k+1,by omega,by go_num,R,RB⟩
     case measure=>simp[intOf];omega
    ·have HS:Hid (bR rs (aH ss) (k+1)=bR rs (aH ss) k):=uT rs _ k m1 m2
     have HD2:Hid (decide ((k:Int)∈rs)=false):=decide_eq_false m2
     clear m1 m2
     go_wp2_with fail
     refine(bP k (aH ss) ka kc _ hkl.out hI1.out).mono ?_
     rintro e w' ⟨rfl,rfl⟩
     rw[HD.out]
     go_wp2_with fail
     refine(bP k rs ra rc _ hlr.out hI2.out).mono ?_
     rintro e w' ⟨rfl,rfl⟩
     rw[HD2.out]
     go_wp2
     go_roundw
     case rel=>exact⟨k+1,by omega,by go_num,by rw[HS.out];exact hown,hnx⟩
     case measure=>simp[intOf];omega
  ·have hk8:k=8:=by omega
   subst hk8
   obtain⟨a,cap,hv,hL⟩:=pP hown rfl
   have hlow:Hid (∀ad,a=some ad→w.heap.size≤ad.block):=fun ad e=>by
    have h:=(hown.lt ad.block (by rw[hv,e];rfl)).1
    omega
   have RB:Below w.heap.size w wr:=hW.out.trans (hnx.mono (by omega))
   rw[hv]
   clear hown hnx hv
   go_wp2
   go_ret2
   exact⟨a,cap,rfl,⟨hL,hlow.out⟩,RB⟩
end
structure HL (w0 w:World) (H p sh:Nat) (l:List TxA) (la:Option Addr) (lc:Nat) (s1 s2 s3 s4 v5 v6 v7:Value) (L5 L6:List (Nat×Nat)) (L7:List (Option Addr×Nat×Nat)):Prop where
 c0:w.cell? ⟨H,0,none⟩=some (.pointer (some ⟨p,0,none⟩))
 c1:w.cell? ⟨H,1,none⟩=some s1
 c2:w.cell? ⟨H,2,none⟩=some s2
 c3:w.cell? ⟨H,3,none⟩=some s3
 c4:w.cell? ⟨H,4,none⟩=some s4
 c5:w.cell? ⟨H,5,none⟩=some v5
 c6:w.cell? ⟨H,6,none⟩=some v6
 c7:w.cell? ⟨H,7,none⟩=some v7
 fz:∀j,w.frozen? ⟨H,j,none⟩=false
 p0:w.cell? ⟨p,0,none⟩=some (.int .i64 sh)
 p1:w.cell? ⟨p,1,none⟩=some (.slice la l.length lc)
 tri:Tri (H+1) w v5 v6 v7 sh l L5 L6 L7
 bl:Below w0.heap.size w0 w
 hw:w0.heap.size≤H
 hp:p<H
 hs:H<w.heap.size
theorem HL.below {w0 w w':World} {H p sh:Nat} {l:List TxA} {la:Option Addr} {lc:Nat} {s1 s2 s3 s4 v5 v6 v7:Value} {L5 L6:List (Nat×Nat)} {L7:List (Option Addr×Nat×Nat)} (h:HL w0 w H p sh l la lc s1 s2 s3 s4 v5 v6 v7 L5 L6 L7) (hb:Below w.heap.size w w'):HL w0 w' H p sh l la lc s1 s2 s3 s4 v5 v6 v7 L5 L6 L7:=
 ⟨aB hb h.c0,aB hb h.c1,aB hb h.c2,aB hb h.c3,aB hb h.c4,aB hb h.c5,aB hb h.c6,aB hb h.c7,fun j=>(hb.frozen (p:=⟨H,j,none⟩) h.hs).trans (h.fz j),aB hb h.p0,aB hb h.p1,h.tri.below hb,aC h.bl hb,h.hw,h.hp,Nat.lt_of_lt_of_le h.hs hb.size⟩
theorem HL.push5 {w0 V wc w3:World} {H p sh:Nat} {l:List TxA} {la:Option Addr} {lc:Nat} {s1 s2 s3 s4 v5 v6 v7 v5':Value} {L5 L6:List (Nat×Nat)} {L7:List (Option Addr×Nat×Nat)} (hV:HL w0 V H p sh l la lc s1 s2 s3 s4 v5 v6 v7 L5 L6 L7) (hb:Below V.heap.size V wc) (g c:Nat)
  (ho:w3.ownsRow (H+1) 104 1 v5' (L5.length+1) ((L5.map fun p=>Value.slice (some ⟨p.1,0,none⟩) sh p.2)++[.slice (some ⟨g,0,none⟩) sh c])) (hg:wc.grownBy w3 v5.ownBlock) (hv:v5'.ownBlock=v5.ownBlock∨v5'.ownBlock=some wc.heap.size)
  (h1:H+1≤g) (h2:g<wc.heap.size) (h3:V.heap.size≤g) (h4:∀j,j<sh→wc.cell? ⟨g,j,none⟩=some (.bool (jS sh (gX l L5.length) j))) :
  HL w0 (w3.setCell ⟨H,5,none⟩ v5') H p sh l la lc s1 s2 s3 s4 v5' v6 v7 (L5++[(g,c)]) L6 L7:=by
 have hc:=hV.below hb
 have hn:some H≠v5.ownBlock:=fun e=>by have:=(hc.tri.o5.lt H e.symm).1;omega
 have hp:some p≠v5.ownBlock:=fun e=>by have:=(hc.tri.o5.lt p e.symm).1;have:=hc.hp;omega
 have far:∀b,V.heap.size≤b→gK v5 v6 v7 b:=fun b hb'=>⟨fun e=>by have:=(hV.tri.o5.lt b e).2;omega,fun e=>by have:=(hV.tri.o6.lt b e).2;omega,fun e=>by have:=(hV.tri.o7.lt b e).2;omega⟩
 have T:=hc.tri.push5 g c ho hg hv h1 h2 (far g h3) h4
 have hHp:H≠p:=by have:=hc.hp;omega
 have hbl:Below w0.heap.size w0 w3:=hc.bl.grown hg hc.bl.size (fun j e=>by have:=(hc.tri.o5.lt j e).1;have:=hc.hw;omega)
 refine⟨(aE (by decide) (hg.cell hc.c0 hn)),(aE (by decide) (hg.cell hc.c1 hn)),(aE (by decide) (hg.cell hc.c2 hn)),(aE (by decide) (hg.cell hc.c3 hn)),(aE (by decide) (hg.cell hc.c4 hn)),(aK (hg.cell hc.c5 hn)),(aE (by decide) (hg.cell hc.c6 hn)),(aE (by decide) (hg.cell hc.c7 hn)),fun j=>?_,?_,?_,T.on (aP w3 H 5 _) (fun j e=>by injection e with e;omega),aI hbl hc.hw _,hc.hw,hc.hp,?_⟩
 ·simp only[World.frozen?_setCell]
  exact(World.frozen?_of_block (a:=⟨H,j,none⟩) (hg.block H hc.hs hn)).trans (hc.fz j)
 ·rw[World.cell?_setCell_far _ _ _ _ (by simpa using hHp)];exact hg.cell hc.p0 hp
 ·rw[World.cell?_setCell_far _ _ _ _ (by simpa using hHp)];exact hg.cell hc.p1 hp
 ·simp only[World.size_setCell];exact Nat.lt_of_lt_of_le hc.hs hg.size
theorem HL.push6 {w0 V wc w3:World} {H p sh:Nat} {l:List TxA} {la:Option Addr} {lc:Nat} {s1 s2 s3 s4 v5 v6 v7 v6':Value} {L5 L6:List (Nat×Nat)} {L7:List (Option Addr×Nat×Nat)} (hV:HL w0 V H p sh l la lc s1 s2 s3 s4 v5 v6 v7 L5 L6 L7) (hb:Below V.heap.size V wc) (g c:Nat)
  (ho:w3.ownsRow (H+1) 104 1 v6' (L6.length+1) ((L6.map fun p=>Value.slice (some ⟨p.1,0,none⟩) sh p.2)++[.slice (some ⟨g,0,none⟩) sh c])) (hg:wc.grownBy w3 v6.ownBlock) (hv:v6'.ownBlock=v6.ownBlock∨v6'.ownBlock=some wc.heap.size)
  (h1:H+1≤g) (h2:g<wc.heap.size) (h3:V.heap.size≤g) (h4:∀j,j<sh→wc.cell? ⟨g,j,none⟩=some (.bool (oL sh (gX l L6.length) j))) :
  HL w0 (w3.setCell ⟨H,6,none⟩ v6') H p sh l la lc s1 s2 s3 s4 v5 v6' v7 L5 (L6++[(g,c)]) L7:=by
 have hc:=hV.below hb
 have hn:some H≠v6.ownBlock:=fun e=>by have:=(hc.tri.o6.lt H e.symm).1;omega
 have hp:some p≠v6.ownBlock:=fun e=>by have:=(hc.tri.o6.lt p e.symm).1;have:=hc.hp;omega
 have far:∀b,V.heap.size≤b→gK v5 v6 v7 b:=fun b hb'=>⟨fun e=>by have:=(hV.tri.o5.lt b e).2;omega,fun e=>by have:=(hV.tri.o6.lt b e).2;omega,fun e=>by have:=(hV.tri.o7.lt b e).2;omega⟩
 have T:=hc.tri.push6 g c ho hg hv h1 h2 (far g h3) h4
 have hHp:H≠p:=by have:=hc.hp;omega
 have hbl:Below w0.heap.size w0 w3:=hc.bl.grown hg hc.bl.size (fun j e=>by have:=(hc.tri.o6.lt j e).1;have:=hc.hw;omega)
 refine⟨(aE (by decide) (hg.cell hc.c0 hn)),(aE (by decide) (hg.cell hc.c1 hn)),(aE (by decide) (hg.cell hc.c2 hn)),(aE (by decide) (hg.cell hc.c3 hn)),(aE (by decide) (hg.cell hc.c4 hn)),(aE (by decide) (hg.cell hc.c5 hn)),(aK (hg.cell hc.c6 hn)),(aE (by decide) (hg.cell hc.c7 hn)),fun j=>?_,?_,?_,T.on (aP w3 H 6 _) (fun j e=>by injection e with e;omega),aI hbl hc.hw _,hc.hw,hc.hp,?_⟩
 ·simp only[World.frozen?_setCell]
  exact(World.frozen?_of_block (a:=⟨H,j,none⟩) (hg.block H hc.hs hn)).trans (hc.fz j)
 ·rw[World.cell?_setCell_far _ _ _ _ (by simpa using hHp)];exact hg.cell hc.p0 hp
 ·rw[World.cell?_setCell_far _ _ _ _ (by simpa using hHp)];exact hg.cell hc.p1 hp
 ·simp only[World.size_setCell];exact Nat.lt_of_lt_of_le hc.hs hg.size
theorem HL.push7 {w0 V wc w3:World} {H p sh:Nat} {l:List TxA} {la:Option Addr} {lc:Nat} {s1 s2 s3 s4 v5 v6 v7 v7':Value} {L5 L6:List (Nat×Nat)} {L7:List (Option Addr×Nat×Nat)} (hV:HL w0 V H p sh l la lc s1 s2 s3 s4 v5 v6 v7 L5 L6 L7) (hb:Below V.heap.size V wc) (a:Option Addr) (c:Nat)
  (ho:w3.ownsRow (H+1) 265 1 v7' (L7.length+1) ((L7.map fun p=>Value.slice p.1 p.2.1 p.2.2)++[.slice a (jM (gX l L7.length)).length c])) (hg:wc.grownBy w3 v7.ownBlock) (hv:v7'.ownBlock=v7.ownBlock∨v7'.ownBlock=some wc.heap.size)
  (h1:IsLks wc a (jM (gX l L7.length))) (h2:∀ad,a=some ad→V.heap.size≤ad.block∧ad.block<wc.heap.size) :
  HL w0 (w3.setCell ⟨H,7,none⟩ v7') H p sh l la lc s1 s2 s3 s4 v5 v6 v7' L5 L6 (L7++[(a,(jM (gX l L7.length)).length,c)]):=by
 have hc:=hV.below hb
 have hn:some H≠v7.ownBlock:=fun e=>by have:=(hc.tri.o7.lt H e.symm).1;omega
 have hp:some p≠v7.ownBlock:=fun e=>by have:=(hc.tri.o7.lt p e.symm).1;have:=hc.hp;omega
 have far:∀b,V.heap.size≤b→gK v5 v6 v7 b:=fun b hb'=>⟨fun e=>by have:=(hV.tri.o5.lt b e).2;omega,fun e=>by have:=(hV.tri.o6.lt b e).2;omega,fun e=>by have:=(hV.tri.o7.lt b e).2;omega⟩
 have T:=hc.tri.push7 a c ho hg hv h1 (fun ad e=>⟨by have:=(h2 ad e).1;have:=hV.hs;omega,(h2 ad e).2,far _ (h2 ad e).1⟩)
 have hHp:H≠p:=by have:=hc.hp;omega
 have hbl:Below w0.heap.size w0 w3:=hc.bl.grown hg hc.bl.size (fun j e=>by have:=(hc.tri.o7.lt j e).1;have:=hc.hw;omega)
 refine⟨(aE (by decide) (hg.cell hc.c0 hn)),(aE (by decide) (hg.cell hc.c1 hn)),(aE (by decide) (hg.cell hc.c2 hn)),(aE (by decide) (hg.cell hc.c3 hn)),(aE (by decide) (hg.cell hc.c4 hn)),(aE (by decide) (hg.cell hc.c5 hn)),(aE (by decide) (hg.cell hc.c6 hn)),(aK (hg.cell hc.c7 hn)),fun j=>?_,?_,?_,T.on (aP w3 H 7 _) (fun j e=>by injection e with e;omega),aI hbl hc.hw _,hc.hw,hc.hp,?_⟩
 ·simp only[World.frozen?_setCell]
  exact(World.frozen?_of_block (a:=⟨H,j,none⟩) (hg.block H hc.hs hn)).trans (hc.fz j)
 ·rw[World.cell?_setCell_far _ _ _ _ (by simpa using hHp)];exact hg.cell hc.p0 hp
 ·rw[World.cell?_setCell_far _ _ _ _ (by simpa using hHp)];exact hg.cell hc.p1 hp
 ·simp only[World.size_setCell];exact Nat.lt_of_lt_of_le hc.hs hg.size
end Go.Proofs.YtcgpkonfneofdaaGreatDoor
