/- Conditions: those that each theorem states. -/
import Derived.Test.YtcgpkonfneofdaaGreatDoorSTxnK
import Derived.Deep.Slices
import Derived.Deep.Strs
import Derived.Laws.AppendOwnNone
set_option maxRecDepth 100000
set_option maxHeartbeats 8000000
namespace Go.Proofs.YtcgpkonfneofdaaGreatDoor
open Go.RowKit
section
def bR (rs ks:List Int):Nat→List (Int×Bool)
 | 0=>[]
 | n+1=>bR rs ks n++(if (n:Int)∈ks∨(n:Int)∈rs then [((n:Int),decide ((n:Int)∈ks))] else [])
def dQ (l:List (Int×Bool)):List Value:=l.flatMap fun p=>[.int .i64 p.1,.bool p.2]
def aAx (rs:List Int) (gs:List Gd) (ss:List St):List (Int×Bool):=if bA rs gs ss=0 then bR rs (aH ss) 8 else []
theorem kU (rs ks:List Int):∀n,(bR rs ks n).length≤n
 | 0=>Nat.le_refl _
 | n+1=>by
  have:=kU rs ks n
  unfold bR
  split <;> simp <;> omega
theorem fW (l m:List (Int×Bool)):dQ (l++m)=dQ l++dQ m:=by simp[dQ]
theorem aAy (rs ks:List Int) (n:Nat) (h:(n:Int)∈ks):bR rs ks (n+1)=bR rs ks n++[((n:Int),true)]:=by
 rw[bR,if_pos (.inl h)];simp[h]
theorem uS (rs ks:List Int) (n:Nat) (h:¬(n:Int)∈ks) (h':(n:Int)∈rs):bR rs ks (n+1)=bR rs ks n++[((n:Int),false)]:=by
 rw[bR,if_pos (.inr h')];simp[h]
theorem uT (rs ks:List Int) (n:Nat) (h:¬(n:Int)∈ks) (h':¬(n:Int)∈rs):bR rs ks (n+1)=bR rs ks n:=by
 rw[bR,if_neg (by simp[h,h'])];simp
def IsLks (w:World) (a:Option Addr) (l:List (Int×Bool)):Prop:=
 ∀i,i<l.length→∃b off,a=some ⟨b,off,none⟩∧b<w.heap.size∧w.cell? ⟨b,off+i*2,none⟩=some (.int .i64 (l.getD i (0,false)).1)∧w.cell? ⟨b,off+i*2+1,none⟩=some (.bool (l.getD i (0,false)).2)
theorem IsLks.below {w w':World} {a:Option Addr} {l:List (Int×Bool)} (h:IsLks w a l) (hb:Below w.heap.size w w'):IsLks w' a l:=by
 intro i hi
 obtain⟨b,off,ha,hlt,h0,h1⟩:=h i hi
 refine⟨b,off,ha,Nat.lt_of_lt_of_le hlt hb.size,?_,?_⟩ <;> (rw[hb.cell hlt];assumption)
theorem mQ:∀(l:List (Int×Bool)) (i:Nat),i<l.length→(dQ l)[i*2]?=some (.int .i64 (l.getD i (0,false)).1)∧(dQ l)[i*2+1]?=some (.bool (l.getD i (0,false)).2)
 | [],i,h=>by simp at h
 | p::t,0,_=>by simp[dQ]
 | p::t,i+1,h=>by
  have:=mQ t i (by simpa using h)
  have e:dQ (p::t)=Value.int .i64 p.1::Value.bool p.2::dQ t:=by simp[dQ]
  rw[e]
  have e1:(i+1)*2=i*2+1+1:=by omega
  rw[e1]
  simpa using this
theorem pP {w:World} {base:Nat} {v:Value} {n:Nat} {l:List (Int×Bool)} (h:w.ownsRow base 286 2 v n (dQ l)) (hn:l.length=n):∃a cap,v=.slice a l.length cap∧IsLks w a l:=by
 rcases h.2 with ⟨rfl,h0⟩ | ⟨g,cap,cur,rfl,hb,hg,hnc,hcm,hcs,htake⟩
 ·refine⟨none,0,by rw[hn,h0],fun i hi=>?_⟩
  omega
 ·refine⟨some ⟨g,0,none⟩,cap,by rw[hn],fun i hi=>⟨g,0,rfl,(Array.getElem?_eq_some_iff.1 hg).1,?_,?_⟩⟩
  ·rw[Nat.zero_add,h.cellAt (i*2) (by omega)]
   exact(mQ l i hi).1
  ·rw[Nat.zero_add,h.cellAt (i*2+1) (by omega)]
   exact(mQ l i hi).2
theorem qU (w:World) (x:Int) (y:Bool) (s:Nat) (hs:s=w.heap.size):∀j u,[Value.int .i64 x,Value.bool y][j]?=some u→(w.alloc (.cells #[.int .i64 x,.bool y] 286)).cell? ((⟨s,0,none⟩:Addr).add j)=some u:=by
 subst hs
 intro j u hj
 match j,hj with
 | 0,hj=>simp at hj;subst hj;simp[Addr.add]
 | 1,hj=>simp at hj;subst hj;simp[Addr.add]
theorem wV (x:Int) (y:Bool):∀u∈[Value.int .i64 x,Value.bool y],u.oneCell'=true:=by
 intro u hu
 simp at hu
 rcases hu with rfl | rfl <;> rfl
theorem Tryz.info286:(Tryz.prog.info? 286).map (fun i=>(i.zero,i.size,i.bytes))=some (some (.agg #[.int .i64 0,.bool false]),2,16):=by kernel_rfl
variable (ra ga sa:Option Addr) (rc gc sc:Nat) (rs:List Int) (gs:List Gd) (ss:List St)
theorem locks_bad (w:World) (ht:IsTx w ra ga sa rs gs ss) (hc:¬bA rs gs ss=0) :
  Calls Tryz.prog 235 #[.agg #[.slice ra rs.length rc,.slice ga gs.length gc,.slice sa ss.length sc]] w fun e w'=>e=.returned (.tuple #[.slice none 0 0,.int .i64 (bA rs gs ss)])∧Below w.heap.size w w':=by
 have hb:(bA rs gs ss != 0)=true:=by simpa using hc
 clear hc
 go_enter Tryz.func235,Tryz.ntmps235
 go_wp2_with fail
 refine(cZ ra ga sa rc gc sc rs gs ss _ (ht.below (aA (Below.refl _ _) _))).mono ?_
 rintro e w1 ⟨rfl,hb1⟩
 have HB:Hid (Below w.heap.size w w1):=aC (aA (Below.refl _ _) _) hb1
 clear hb1 ht
 go_wp2
 go_ret2
 exact⟨rfl,HB.out⟩
theorem locks_ok (w:World) (ht:IsTx w ra ga sa rs gs ss) (hc:bA rs gs ss=0) (h3:ss.length≤3) :
  Calls Tryz.prog 235 #[.agg #[.slice ra rs.length rc,.slice ga gs.length gc,.slice sa ss.length sc]] w fun e w'=>∃a cap,e=.returned (.tuple #[.slice a (bR rs (aH ss) 8).length cap,.int .i64 0])∧IsLks w' a (bR rs (aH ss) 8)∧Below w.heap.size w w':=by
 obtain⟨i0,hi,hz0,hz1,hz2⟩:=info_parts Tryz.info286
 have HT:Hid (IsTx w ra ga sa rs gs ss):=ht
 have HC:Hid (bA rs gs ss=0):=hc
 have hkl:Hid ((aH ss).length≤maxLen):=by rw[dO];exact ht.ls
 clear ht hc
 go_enter Tryz.func235,Tryz.ntmps235
 go_wp2_with fail
 refine(cZ ra ga sa rc gc sc rs gs ss _ (HT.out.below (aA (Below.refl _ _) _))).mono ?_
 rintro e w1 ⟨rfl,hb1⟩
 rw[HC.out]
 have x0:w1.cell? ⟨w.heap.size,0,none⟩=some (.slice ra rs.length rc):=(hb1.cell (by simp)).trans (by simp)
 have x1:w1.cell? ⟨w.heap.size,1,none⟩=some (.slice ga gs.length gc):=(hb1.cell (by simp)).trans (by simp)
 have x2:w1.cell? ⟨w.heap.size,2,none⟩=some (.slice sa ss.length sc):=(hb1.cell (by simp)).trans (by simp)
 have B1:Below w.heap.size w w1:=aC (aA (Below.refl _ _) _) hb1
 clear hb1 HC
 go_wp2_with fail
 refine(iM ra ga sa rc gc sc rs gs ss _ (HT.out.below B1) h3).mono ?_
 rintro e W ⟨ka,kc,rfl,hka,hbW⟩
 have y0:=aB hbW x0
 have hW:Hid (Below w.heap.size w W):=aC B1 hbW
 have hra:Hid (IsInts W ra rs):=HT.out.r.below hW.out
 have hlr:Hid (rs.length≤maxLen):=HT.out.lr
 have HKA:Hid (IsInts W ka (aH ss)):=hka
 have hq:w.heap.size<W.heap.size:=World.block_lt_of_cell? W _ y0
 clear x0 x1 x2 B1 hbW HT hka
 generalize hB:W.heap.size=B at *
 go_wp2_with fail
 go_loopw [5,7,8,16] (fun v _ _ i wr=>∃k:Nat,k≤8∧i=.int .i64 k∧wr.ownsRow B 286 2 v (bR rs (aH ss) k).length (dQ (bR rs (aH ss) k))∧Below B W wr) (fun _ _ _ i _=>8 - (intOf i).toNat)
 case atStart=>exact⟨0,Nat.zero_le _,rfl,World.ownsRow_nil _ _ _ _,Below.refl _ _⟩
 case round=>
  obtain⟨k,hk,rfl,hown,hnx⟩:=hrel
  have hsz:B≤wr.heap.size:=by have:=hnx.size;omega
  have q0:wr.cell? ⟨w.heap.size,0,none⟩=some (.slice ra rs.length rc):=(hnx.cell (p:=⟨w.heap.size,0,none⟩) hq).trans y0
  have hll:=kU rs (aH ss) k
  by_cases hlt:k<8
  ·have hI1:Hid (IsInts wr ka (aH ss)):=HKA.out.below (by rw[hB];exact hnx)
   have hI2:Hid (IsInts wr ra rs):=hra.out.below (by rw[hB];exact hnx)
   by_cases m1:(k:Int)∈aH ss
   ·have HS:Hid (bR rs (aH ss) (k+1)=bR rs (aH ss) k++[((k:Int),true)]):=aAy rs _ k m1
    have HD:Hid (decide ((k:Int)∈aH ss)=true):=decide_eq_true m1
    clear m1
    go_wp2_with fail
    refine(bP k (aH ss) ka kc _ hkl.out hI1.out).mono ?_
    rintro e w' ⟨rfl,rfl⟩
    rw[HD.out]
    go_wp2_with (first | (at_builtin;(refine wpList_append_own _ rfl _ _ 265 rfl B 286 i0 (.agg #[.int .i64 0,.bool false]) 2 16 Tryz.underlying265 hi hz0 hz1 hz2 rfl (by decide) _ _ _ rfl (hown.alloc _) _ 1 1 [.int .i64 k,.bool true] rfl rfl (qU _ _ _ _ (by simp)) (wV _ _) (by unfold maxLen;omega) (by omega) (by simp;omega) ?_);intro v' w1 hown' hgrow _) | go_in)
    have R:w1.ownsRow B 286 2 v' (bR rs (aH ss) (k+1)).length (dQ (bR rs (aH ss) (k+1))):=by
     rw[HS.out,fW,List.length_append];exact hown'
    have RB:=(hnx.alloc hsz _).grown hgrow (by simp;omega) (fun j hj=>(hown.lt j hj).1)
    clear hown' hgrow hown hnx
    go_wp2
    go_roundw
    case rel=>exact⟨k+1,by omega,by go_num,R,RB⟩
    case measure=>simp[intOf];omega
   ·have HD:Hid (decide ((k:Int)∈aH ss)=false):=decide_eq_false m1
    by_cases m2:(k:Int)∈rs
    ·have HS:Hid (bR rs (aH ss) (k+1)=bR rs (aH ss) k++[((k:Int),false)]):=uS rs _ k m1 m2
     have HD2:Hid (decide ((k:Int)∈rs)=true):=decide_eq_true m2
     clear m1 m2
     go_wp2_with fail
     refine(bP k (aH ss) ka kc _ hkl.out hI1.out).mono ?_
     rintro e w' ⟨rfl,rfl⟩
     rw[HD.out]
     go_wp2_with fail
     refine(bP k rs ra rc _ hlr.out hI2.out).mono ?_
     rintro e w' ⟨rfl,rfl⟩
     rw[HD2.out]
     go_wp2_with (first | (at_builtin;(refine wpList_append_own _ rfl _ _ 265 rfl B 286 i0 (.agg #[.int .i64 0,.bool false]) 2 16 Tryz.underlying265 hi hz0 hz1 hz2 rfl (by decide) _ _ _ rfl (hown.alloc _) _ 1 1 [.int .i64 k,.bool false] rfl rfl (qU _ _ _ _ (by simp)) (wV _ _) (by unfold maxLen;omega) (by omega) (by simp;omega) ?_);intro v' w1 hown' hgrow _) | go_in)
     have R:w1.ownsRow B 286 2 v' (bR rs (aH ss) (k+1)).length (dQ (bR rs (aH ss) (k+1))):=by
      rw[HS.out,fW,List.length_append];exact hown'
     have RB:=(hnx.alloc hsz _).grown hgrow (by simp;omega) (fun j hj=>(hown.lt j hj).1)
     clear hown' hgrow hown hnx
     go_wp2
     go_roundw
     case rel=>exact⟨k+1,by omega,by go_num,R,RB⟩
     case measure=>simp[intOf];omega
    ·have HS:Hid (bR rs (aH ss) (k+1)=bR rs (aH ss) k):=uT rs _ k m1 m2
     have HD2:Hid (decide ((k:Int)∈rs)=false):=decide_eq_false m2
     clear m1 m2
     go_wp2_with fail
     refine(bP k (aH ss) ka kc _ hkl.out hI1.out).mono ?_
     rintro e w' ⟨rfl,rfl⟩
     rw[HD.out]
     go_wp2_with fail
     refine(bP k rs ra rc _ hlr.out hI2.out).mono ?_
     rintro e w' ⟨rfl,rfl⟩
     rw[HD2.out]
     go_wp2
     go_roundw
     case rel=>exact⟨k+1,by omega,by go_num,by rw[HS.out];exact hown,hnx⟩
     case measure=>simp[intOf];omega
  ·have hk8:k=8:=by omega
   subst hk8
   obtain⟨a,cap,hv,hL⟩:=pP hown rfl
   have RB:Below w.heap.size w wr:=hW.out.trans (hnx.mono (by omega))
   rw[hv]
   clear hown hnx hv
   go_wp2
   go_ret2
   exact⟨a,cap,rfl,hL,RB⟩
theorem locks_any (w:World) (ht:IsTx w ra ga sa rs gs ss) :
  Calls Tryz.prog 235 #[.agg #[.slice ra rs.length rc,.slice ga gs.length gc,.slice sa ss.length sc]] w fun e w'=>∃a cap,e=.returned (.tuple #[.slice a (aAx rs gs ss).length cap,.int .i64 (bA rs gs ss)])∧IsLks w' a (aAx rs gs ss)∧Below w.heap.size w w':=by
 by_cases hc:bA rs gs ss=0
 ·have hm:bF rs.length gs.length ss.length=0:=by
   by_cases hm:bF rs.length gs.length ss.length=0
   ·exact hm
   ·have:=tH rs gs ss hm
    omega
  have h3:=(bL _ _ _ hm).2.2.1
  have hl:aAx rs gs ss=bR rs (aH ss) 8:=if_pos hc
  rw[hl,hc]
  exact locks_ok ra ga sa rc gc sc rs gs ss w ht hc h3
 ·have hl:aAx rs gs ss=[]:=if_neg hc
  rw[hl]
  exact(locks_bad ra ga sa rc gc sc rs gs ss w ht hc).mono fun _ _ ⟨he,hb⟩=>⟨none,0,he,fun i hi=>absurd hi (by simp),hb⟩
end
def sNote:St:=⟨5,1,2,0,1,0⟩
def gPay (n:Int):Gd:=⟨4,1,n,2,0⟩
def zR (n:Int):St:=⟨0,3,2,0,1,n⟩
def zQ (n:Int):St:=⟨1,2,2,1,1,n⟩
theorem isInts_one (w:World) (s:Nat) (x:Int) (hs:s=w.heap.size):IsInts (w.alloc (.cells #[.int .i64 x] 3)) (some ⟨s,0,none⟩) [x]:=by
 subst hs
 intro i hi
 refine⟨w.heap.size,0,rfl,by simp,?_⟩
 match i,hi with
 | 0,_=>simp
theorem isSs_one (w:World) (s:Nat) (a b c d e f:Int) (hs:s=w.heap.size):IsSs (w.alloc (.cells #[.int .i64 a,.int .i64 b,.int .i64 c,.int .i64 d,.int .i64 e,.int .i64 f] 102)) (some ⟨s,0,none⟩) [⟨a,b,c,d,e,f⟩]:=by
 subst hs
 intro i hi
 refine⟨w.heap.size,0,rfl,by simp,?_⟩
 match i,hi with
 | 0,_=>simp
theorem isSs_two (w:World) (s:Nat) (a b c d e f a' b' c' d' e' f':Int) (hs:s=w.heap.size):IsSs (w.alloc (.cells #[.int .i64 a,.int .i64 b,.int .i64 c,.int .i64 d,.int .i64 e,.int .i64 f,.int .i64 a',.int .i64 b',.int .i64 c',.int .i64 d',.int .i64 e',.int .i64 f'] 102)) (some ⟨s,0,none⟩) [⟨a,b,c,d,e,f⟩,⟨a',b',c',d',e',f'⟩]:=by
 subst hs
 intro i hi
 refine⟨w.heap.size,0,rfl,by simp,?_⟩
 match i,hi with
 | 0,_=>simp
 | 1,_=>simp
theorem isGs_one (w:World) (s:Nat) (a b c d e:Int) (hs:s=w.heap.size):IsGs (w.alloc (.cells #[.int .i64 a,.int .i64 b,.int .i64 c,.int .i64 d,.int .i64 e] 99)) (some ⟨s,0,none⟩) [⟨a,b,c,d,e⟩]:=by
 subst hs
 intro i hi
 refine⟨w.heap.size,0,rfl,by simp,?_⟩
 match i,hi with
 | 0,_=>simp
theorem bV:zU [0,1] [gPay 3] [zR 3,zQ 3] [2,1]=[2,1]:=by decide
section
open Go.ChangeShapes Go.WideShapes Go.ChangeAt Go.RowKit Go.Deep
section
variable {H:Type} {enc:TypeId×Value→H} {w:World} {base:Nat} {spare:Nat→Bool} {held:Bool}
theorem sS {n:Nat} {c:Value} {y:DataW H×List MemPlace} (h:DataW.trod enc Tryz.prog w base spare held n 3 [c]=some y):∃k,c=.int .i64 k:=by
 obtain⟨k,hk,_,_⟩:=DataW.trod_int Tryz.underlying3 h
 exact⟨k,by simpa using hk⟩
theorem qZ (b off i j:Nat):((⟨b,off,none⟩:Addr).add i).add j=⟨b,off+i+j,none⟩:=by rw[bC,bC]
theorem open_rs {n:Nat} {v:Value} {y:DataW H×List MemPlace} (h:DataW.trod enc Tryz.prog w base (fun _=>true) held n 41 [v]=some y):∃(a:Option Addr) (zs:List Int) (cap:Nat),v=.slice a zs.length cap∧zs.length≤maxLen∧IsInts w a zs∧(a=none→cap=0):=by
 rcases open_ints Tryz.underlying41 Tryz.underlying3 (by kernel_rfl) h with ⟨hcs,_⟩ | ⟨x,l,c,zs,hcs,_,hl,hm,hz,_,hcell,hwz⟩
 ·simp at hcs
  exact⟨none,[],0,by simpa using hcs,by simp,fun i hi=>absurd hi (by simp),fun _=>rfl⟩
 ·simp at hcs
  have hzl:(zs.take l).length=l:=by rw[List.length_take];simp at hz;omega
  refine⟨some x,zs.take l,c,by rw[hzl];simpa using hcs,by rw[hzl];omega,fun i hi=>?_,fun h=>by cases h⟩
  have hi':i<l:=by omega
  have hc:=hcell i (by simp at hz;omega)
  obtain⟨b,off,spot⟩:=x
  have hspot:spot=none:=by simpa[Addr.add]using World.cell?_spot (hcell 0 (by simp at hz;omega))
  subst hspot
  have hc0:w.cell? ⟨b,off+i,none⟩=some (.int .i64 (zs.getD i 0)):=by rw[←bC];exact hc
  refine⟨b,off,rfl,World.block_lt_of_cell? w _ hc0,?_⟩
  rw[hc0]
  simp[List.getD,hi']
end
end
section
open Go.ChangeShapes Go.WideShapes Go.ChangeAt Go.RowKit Go.Deep
structure TxA where
 ra:Option Addr
 ga:Option Addr
 sa:Option Addr
 rc:Nat
 gc:Nat
 sc:Nat
 rs:List Int
 gs:List Gd
 ss:List St
def x0:TxA:=⟨none,none,none,0,0,0,[],[],[]⟩
structure IsX (w:World) (x:TxA):Prop where
 t:IsTx w x.ra x.ga x.sa x.rs x.gs x.ss
 rn:x.ra=none→x.rc=0
 gn:x.ga=none→x.gc=0
 sn:x.sa=none→x.sc=0
theorem IsX.below {w w':World} {x:TxA} (h:IsX w x) (hb:Below w.heap.size w w'):IsX w' x:=⟨h.t.below hb,h.rn,h.gn,h.sn⟩
def IsTxs (w:World) (a:Option Addr) (l:List TxA):Prop:=
 ∀i,i<l.length→∃b off,a=some ⟨b,off,none⟩∧b<w.heap.size∧w.cell? ⟨b,off+i*3,none⟩=some (.slice (l.getD i x0).ra (l.getD i x0).rs.length (l.getD i x0).rc)∧w.cell? ⟨b,off+i*3+1,none⟩=some (.slice (l.getD i x0).ga (l.getD i x0).gs.length (l.getD i x0).gc)∧w.cell? ⟨b,off+i*3+2,none⟩=some (.slice (l.getD i x0).sa (l.getD i x0).ss.length (l.getD i x0).sc)∧IsX w (l.getD i x0)
theorem IsTxs.below {w w':World} {a:Option Addr} {l:List TxA} (h:IsTxs w a l) (hb:Below w.heap.size w w'):IsTxs w' a l:=fun i hi=>by
 obtain⟨b,off,ha,hlt,c0,c1,c2,hx⟩:=h i hi
 exact⟨b,off,ha,Nat.lt_of_lt_of_le hlt hb.size,aB hb c0,aB hb c1,aB hb c2,hx.below hb⟩
def eT (x:TxA):Int:=bA x.rs x.gs x.ss
def dD (l:List TxA):Int:=if 8<l.length then 2 else aF (l.map eT)
def pU (s:List Int) (k:Int):Int:=s.getD k.toNat 0
def bY (s:List Int) (rs:List Int):List Int:=rs.map (pU s)
def bQ:List Int→List Int→List Int→List Int
 | s,k::ks,v::vs=>bQ (s.set k.toNat v) ks vs
 | s,_,_=>s
def tN (s:List Int) (x:TxA):Bool:=cW (bY s x.rs) x.gs
def qC (s:List Int) (x:TxA):List Int:=bY s x.rs
def aMade (s:List Int) (x:TxA):List Int:=aZ (bY s x.rs) x.gs x.ss
def mT (s:List Int) (x:TxA):List Int:=bQ s (aH x.ss) (aMade s x)
def aU:List Int→List TxA→List Int
 | s,[]=>s
 | s,x::t=>aU (mT s x) t
def aT:List Int→List TxA→List (Bool×List Int)
 | _,[]=>[]
 | s,x::t=>(tN s x,qC s x)::aT (mT s x) t
theorem mJ:∀(ks s vs:List Int),(bQ s ks vs).length=s.length
 | [],s,vs=>by cases vs <;> rfl
 | k::ks,s,[]=>rfl
 | k::ks,s,v::vs=>by rw[bQ,mJ ks];simp
theorem aEnd_len (s:List Int) (x:TxA):(mT s x).length=s.length:=mJ _ _ _
theorem fM:∀(l:List TxA) (s:List Int),(aU s l).length=s.length
 | [],_=>rfl
 | x::t,s=>by rw[aU,fM t,aEnd_len]
theorem jV:∀(l:List TxA) (s:List Int),(aT s l).length=l.length
 | [],_=>rfl
 | x::t,s=>by rw[aT,List.length_cons,jV t];rfl
theorem rX (s rs:List Int):(bY s rs).length=rs.length:=by simp[bY]
theorem rR:∀(l m:List TxA) (s:List Int),aU s (l++m)=aU (aU s l) m
 | [],_,_=>rfl
 | x::t,m,s=>by rw[List.cons_append,aU,aU,rR t]
theorem rQ:∀(l m:List TxA) (s:List Int),aT s (l++m)=aT s l++aT (aU s l) m
 | [],_,_=>rfl
 | x::t,m,s=>by rw[List.cons_append,aT,aT,rQ t,aU];rfl
theorem take_x (l:List TxA) (k:Nat) (h:k<l.length):l.take (k+1)=l.take k++[l.getD k x0]:=by
 rw[List.take_succ_eq_append_getElem h];simp[List.getD,h]
theorem kR (s:List Int) (l:List TxA) (k:Nat) (h:k<l.length):aU s (l.take (k+1))=mT (aU s (l.take k)) (l.getD k x0):=by
 rw[take_x l k h,rR];rfl
theorem pH (s:List Int) (l:List TxA) (k:Nat) (h:k<l.length):aT s (l.take (k+1))=aT s (l.take k)++[(tN (aU s (l.take k)) (l.getD k x0),qC (aU s (l.take k)) (l.getD k x0))]:=by
 rw[take_x l k h,rQ];rfl
theorem pM:∀(ks s vs:List Int) (k:Nat),k<ks.length→k<vs.length→bQ s (ks.take (k+1)) (vs.take (k+1))=(bQ s (ks.take k) (vs.take k)).set (ks.getD k 0).toNat (vs.getD k 0)
 | a::ks,s,v::vs,0,_,_=>by simp[bQ]
 | a::ks,s,v::vs,k+1,h,h'=>by
  simp only[List.take_succ_cons,bQ]
  have:=pM ks (s.set a.toNat v) vs k (by simpa using h) (by simpa using h')
  rw[this]
  simp[List.getD]
 | [],_,_,_,h,_=>absurd h (by simp)
 | _::_,_,[],_,_,h=>absurd h (by simp)
theorem gF (l:List Int) (i j:Nat) (v:Int) (h:i≠j):(l.set i v).getD j 0=l.getD j 0:=by simp[List.getD,List.getElem?_set_ne h]
theorem mK:∀(ks s vs:List Int) (i:Nat),(∀k∈ks,k.toNat≠i)→(bQ s ks vs).getD i 0=s.getD i 0
 | [],s,vs,i,_=>by cases vs <;> rfl
 | k::ks,s,[],i,_=>rfl
 | k::ks,s,v::vs,i,h=>by
  rw[bQ,mK ks _ vs i (fun k' hk=>h k' (List.mem_cons_of_mem _ hk)),gF _ _ _ _ (h k (List.mem_cons_self))]
end
end Go.Proofs.YtcgpkonfneofdaaGreatDoor
