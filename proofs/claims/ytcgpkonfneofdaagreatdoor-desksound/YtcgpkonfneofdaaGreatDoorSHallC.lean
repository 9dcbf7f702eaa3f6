/- Conditions: those that each theorem states. -/
import Derived.Test.YtcgpkonfneofdaaGreatDoorSStepsB
set_option maxRecDepth 100000
set_option maxHeartbeats 8000000
namespace Go.Proofs.YtcgpkonfneofdaaGreatDoor
open Go.RowKit
section
def IsBR (lo:Nat) (w:World) (a:Option Addr) (n sh:Nat) (F:Nat→Nat→Bool):Prop:=
 ∀i,i<n→∃b off b' off' c',a=some ⟨b,off,none⟩∧(lo≤b∧b<w.heap.size)∧(lo≤b'∧b'<w.heap.size)∧w.cell? ⟨b,off+i,none⟩=some (.slice (some ⟨b',off',none⟩) sh c')∧∀k,k<sh→w.cell? ⟨b',off'+k,none⟩=some (.bool (F i k))
def IsIR (lo:Nat) (w:World) (a:Option Addr) (l:List TxA) (V:List (List Int)):Prop:=
 ∀i,i<l.length→∃b off a' c',a=some ⟨b,off,none⟩∧(lo≤b∧b<w.heap.size)∧w.cell? ⟨b,off+i,none⟩=some (.slice a' (gX l i).rs.length c')∧(V.getD i []).length=(gX l i).rs.length∧IsInts w a' (V.getD i [])∧(∀ad,a'=some ad→lo≤ad.block)∧(a'=none→c'=0)
def jM (x:TxA):List (Int×Bool):=bR x.rs (aH x.ss) 8
def IsLR (lo:Nat) (w:World) (a:Option Addr) (l:List TxA):Prop:=
 ∀i,i<l.length→∃b off a' c',a=some ⟨b,off,none⟩∧(lo≤b∧b<w.heap.size)∧w.cell? ⟨b,off+i,none⟩=some (.slice a' (jM (gX l i)).length c')∧IsLks w a' (jM (gX l i))∧(∀ad,a'=some ad→lo≤ad.block)
theorem IsBR.below {lo:Nat} {w w':World} {a:Option Addr} {n sh:Nat} {F:Nat→Nat→Bool} (h:IsBR lo w a n sh F) (hb:Below w.heap.size w w'):IsBR lo w' a n sh F:=fun i hi=>by
 obtain⟨b,off,b',off',c',e,h1,h2,h3,h4⟩:=h i hi
 exact⟨b,off,b',off',c',e,⟨h1.1,Nat.lt_of_lt_of_le h1.2 hb.size⟩,⟨h2.1,Nat.lt_of_lt_of_le h2.2 hb.size⟩,aB hb h3,fun k hk=>aB hb (h4 k hk)⟩
theorem IsIR.below {lo:Nat} {w w':World} {a:Option Addr} {l:List TxA} {V:List (List Int)} (h:IsIR lo w a l V) (hb:Below w.heap.size w w'):IsIR lo w' a l V:=fun i hi=>by
 obtain⟨b,off,a',c',e,h1,h2,h3,h4,h5⟩:=h i hi
 exact⟨b,off,a',c',e,⟨h1.1,Nat.lt_of_lt_of_le h1.2 hb.size⟩,aB hb h2,h3,h4.below hb,h5⟩
theorem IsLR.below {lo:Nat} {w w':World} {a:Option Addr} {l:List TxA} (h:IsLR lo w a l) (hb:Below w.heap.size w w'):IsLR lo w' a l:=fun i hi=>by
 obtain⟨b,off,a',c',e,h1,h2,h3,h4⟩:=h i hi
 exact⟨b,off,a',c',e,⟨h1.1,Nat.lt_of_lt_of_le h1.2 hb.size⟩,aB hb h2,h3.below hb,h4⟩
structure HA where
 p:Nat
 la:Option Addr
 sa:Option Addr
 ra:Option Addr
 wa:Option Addr
 va:Option Addr
 pa:Option Addr
 qa:Option Addr
 ka:Option Addr
 lc:Nat
 sc:Nat
 rc:Nat
 wc:Nat
 vc:Nat
 pc:Nat
 qc:Nat
 kc:Nat
structure Hall (w:World) (h sh:Nat) (l:List TxA) (S:SA) (A:HA):Prop where
 h0:w.cell? ⟨h,0,none⟩=some (.pointer (some ⟨A.p,0,none⟩))
 h1:w.cell? ⟨h,1,none⟩=some (.slice A.sa 8 A.sc)
 h2:w.cell? ⟨h,2,none⟩=some (.slice A.ra l.length A.rc)
 h3:w.cell? ⟨h,3,none⟩=some (.slice A.wa l.length A.wc)
 h4:w.cell? ⟨h,4,none⟩=some (.slice A.va l.length A.vc)
 h5:w.cell? ⟨h,5,none⟩=some (.slice A.pa l.length A.pc)
 h6:w.cell? ⟨h,6,none⟩=some (.slice A.qa l.length A.qc)
 h7:w.cell? ⟨h,7,none⟩=some (.slice A.ka l.length A.kc)
 p0:w.cell? ⟨A.p,0,none⟩=some (.int .i64 sh)
 p1:w.cell? ⟨A.p,1,none⟩=some (.slice A.la l.length A.lc)
 tx:IsTxs w A.la l
 s8:S.st.length=8
 st:IsInts w A.sa S.st
 rd:IsBR 0 w A.ra l.length sh (cM S.rd)
 wr:IsBR 0 w A.wa l.length sh (cM S.wr)
 vs:IsIR 0 w A.va l S.vs
 pt:IsBR (h+1) w A.pa l.length sh (fun n k=>jS sh (gX l n) k)
 ac:IsBR (h+1) w A.qa l.length sh (fun n k=>oL sh (gX l n) k)
 lk:IsLR (h+1) w A.ka l
 s0:0<sh
 s4:sh≤4
 l8:l.length≤8
theorem Hall.below {w w':World} {h sh:Nat} {l:List TxA} {S:SA} {A:HA} (H:Hall w h sh l S A) (hb:Below w.heap.size w w'):Hall w' h sh l S A:=
 ⟨aB hb H.h0,aB hb H.h1,aB hb H.h2,aB hb H.h3,aB hb H.h4,aB hb H.h5,aB hb H.h6,aB hb H.h7,aB hb H.p0,aB hb H.p1,H.tx.below hb,H.s8,H.st.below hb,H.rd.below hb,H.wr.below hb,H.vs.below hb,H.pt.below hb,H.ac.below hb,H.lk.below hb,H.s0,H.s4,H.l8⟩
theorem qA {lo:Nat} {w:World} {h j:Nat} {a:Option Addr} {N c sh:Nat} {F:Nat→Nat→Bool} (hc:w.cell? ⟨h,j,none⟩=some (.slice a N c)) (H:IsBR lo w a N sh F) {n k:Nat} (hn:n<N) (hk:k<sh) :
  ∃b off b' off' c',w.cell? ⟨h,j,none⟩=some (.slice (some ⟨b,off,none⟩) N c)∧w.cell? ⟨b,off+n,none⟩=some (.slice (some ⟨b',off',none⟩) sh c')∧w.cell? ⟨b',off'+k,none⟩=some (.bool (F n k)):=by
 obtain⟨b,off,b',off',c',e,_,_,h3,h4⟩:=H n hn
 exact⟨b,off,b',off',c',by rw[hc,e],h3,h4 k hk⟩
theorem oY {lo:Nat} {w:World} {h j:Nat} {a:Option Addr} {N c sh:Nat} {F:Nat→Nat→Bool} (hc:w.cell? ⟨h,j,none⟩=some (.slice a N c)) (H:IsBR lo w a N sh F) {n:Nat} (hn:n<N) :
  ∃b off b' off' c',w.cell? ⟨h,j,none⟩=some (.slice (some ⟨b,off,none⟩) N c)∧w.cell? ⟨b,off+n,none⟩=some (.slice (some ⟨b',off',none⟩) sh c')∧∀k,k<sh→w.cell? ⟨b',off'+k,none⟩=some (.bool (F n k)):=by
 obtain⟨b,off,b',off',c',e,_,_,h3,h4⟩:=H n hn
 exact⟨b,off,b',off',c',by rw[hc,e],h3,h4⟩
variable {w:World} {h sh:Nat} {l:List TxA} {S:SA} {A:HA}
theorem gone_any (H:Hall w h sh l S A) {n k:Nat} (hn:n<l.length) (hk:k<sh) :
  Calls Tryz.prog 211 #[.pointer (some ⟨h,0,none⟩),.int .i64 n,.int .i64 k] w fun e w'=>e=.returned (.bool (aW sh l S n k))∧w'=w:=by
 obtain⟨b1,o1,b1',o1',c1,x1,y1,z1⟩:=qA H.h5 H.pt hn hk
 obtain⟨b2,o2,b2',o2',c2,x2,y2,z2⟩:=qA H.h6 H.ac hn hk
 obtain⟨b3,o3,b3',o3',c3,x3,y3,z3⟩:=qA H.h3 H.wr hn hk
 obtain⟨b4,o4,b4',o4',c4,x4,y4,z4⟩:=qA H.h2 H.rd hn hk
 have hl8:=H.l8
 have hs4:=H.s4
 unfold aW
 clear H
 generalize jS sh (gX l n) k=P at *
 generalize oL sh (gX l n) k=Q at *
 generalize cM S.wr n k=X at *
 generalize cM S.rd n k=Y at *
 go_enter Tryz.func211,Tryz.ntmps211
 cases P
 ·go_wp2
  go_ret
  exact⟨rfl,rfl⟩
 ·cases Q
  ·go_wp2
   go_ret
   exact⟨rfl,rfl⟩
  ·go_wp2
   go_ret
   exact⟨rfl,rfl⟩
theorem tL (f:Nat→Bool) (j:Nat):(List.range (j+1)).all f=((List.range j).all f && f j):=by
 rw[List.range_succ,List.all_append];simp
theorem lC {f:Nat→Bool} {j n:Nat} (hj:j<n) (h:f j=false):(List.range n).all f=false:=by
 rw[List.all_eq_false]
 exact⟨j,List.mem_range.2 hj,by simp[h]⟩
theorem any_to (f:Nat→Bool) (j:Nat):(List.range (j+1)).any f=((List.range j).any f || f j):=by
 rw[List.range_succ,List.any_append];simp
theorem any_stop {f:Nat→Bool} {j n:Nat} (hj:j<n) (h:f j=true):(List.range n).any f=true:=by
 rw[List.any_eq_true]
 exact⟨j,List.mem_range.2 hj,h⟩
theorem pK (H:Hall w h sh l S A) {n:Nat} (hn:n<l.length) :
  Calls Tryz.prog 271 #[.pointer (some ⟨h,0,none⟩),.int .i64 n] w fun e w'=>e=.returned (.bool (dE sh l S n))∧w'=w:=by
 obtain⟨b1,o1,b1',o1',c1,x1,y1,z1⟩:=oY H.h5 H.pt hn
 obtain⟨b4,o4,b4',o4',c4,x4,y4,z4⟩:=oY H.h2 H.rd hn
 have hl8:=H.l8
 have hs4:=H.s4
 have Z1:Hid (∀k,k<sh→w.cell? ⟨b1',o1'+k,none⟩=some (.bool (jS sh (gX l n) k))):=z1
 have Z4:Hid (∀k,k<sh→w.cell? ⟨b4',o4'+k,none⟩=some (.bool (cM S.rd n k))):=z4
 clear H z1 z4
 go_enter Tryz.func271,Tryz.ntmps271
 go_wp2
 go_loop [5,6,15] (fun _ _ i=>∃k:Nat,k≤sh∧i=.int .i64 k∧Hid ((List.range k).all (fun k=>!jS sh (gX l n) k || cM S.rd n k)=true)) (fun _ _ i=>sh - (intOf i).toNat)
 case atStart=>exact⟨0,Nat.zero_le _,rfl,rfl⟩
 case round=>
  obtain⟨k,hk,rfl,hall⟩:=hrel
  by_cases hlt:k<sh
  ·have d1:=Z1.out k hlt
   have d4:=Z4.out k hlt
   have hstep:Hid ((List.range (k+1)).all (fun k=>!jS sh (gX l n) k || cM S.rd n k)=(!jS sh (gX l n) k || cM S.rd n k)):=by
    show _=_
    rw[tL,hall.out,Bool.true_and]
   have hstop:Hid ((!jS sh (gX l n) k || cM S.rd n k)=false→dE sh l S n=false):=fun e=>lC hlt e
   clear hall
   generalize jS sh (gX l n) k=P at *
   generalize cM S.rd n k=Y at *
   cases P
   ·go_wp2
    go_round
    case rel=>exact⟨k+1,by omega,by go_num,hstep.out⟩
    case measure=>simp[intOf];omega
   ·cases Y
    ·have hF:Hid (dE sh l S n=false):=hstop.out rfl
     clear hstop hstep
     go_wp2
     go_ret
     exact⟨by rw[hF.out];rfl,rfl⟩
    ·go_wp2
     go_round
     case rel=>exact⟨k+1,by omega,by go_num,hstep.out⟩
     case measure=>simp[intOf];omega
  ·have hT:Hid (dE sh l S n=true):=by
    have:k=sh:=by omega
    subst this
    exact hall.out
   clear hall
   go_wp2
   go_ret
   exact⟨by rw[hT.out];rfl,rfl⟩
end
section
def tr1 (sh:Nat) (l:List TxA) (S:SA) (n k:Nat):Bool:=(!cM S.rd n k || jS sh (gX l n) k) && (!cM S.wr n k || (oL sh (gX l n) k && dE sh l S n))
theorem truthB_tr {sh:Nat} {l:List TxA} {S:SA}:bH sh l S=(List.range l.length).all fun n=>(List.range sh).all (tr1 sh l S n):=rfl
theorem truth_stop {sh:Nat} {l:List TxA} {S:SA} {n k:Nat} (hn:n<l.length) (hk:k<sh) (h:tr1 sh l S n k=false):bH sh l S=false:=by
 rw[truthB_tr]
 exact lC hn (lC hk h)
def IsBB (w:World) (a:Option Addr) (rows:List (List Bool)):Prop:=
 ∀i,i<rows.length→∃b off a' c',a=some ⟨b,off,none⟩∧b<w.heap.size∧w.cell? ⟨b,off+i,none⟩=some (.slice a' (rows.getD i []).length c')∧IsBools w a' (rows.getD i [])∧(a'=none→c'=0)
def IsII (w:World) (a:Option Addr) (rows:List (List Int)):Prop:=
 ∀i,i<rows.length→∃b off a' c',a=some ⟨b,off,none⟩∧b<w.heap.size∧w.cell? ⟨b,off+i,none⟩=some (.slice a' (rows.getD i []).length c')∧IsInts w a' (rows.getD i [])∧(a'=none→c'=0)
theorem IsBB.below {w w':World} {a:Option Addr} {rows:List (List Bool)} (h:IsBB w a rows) (hb:Below w.heap.size w w'):IsBB w' a rows:=fun i hi=>by
 obtain⟨b,off,a',c',e,h1,h2,h3,h4⟩:=h i hi
 exact⟨b,off,a',c',e,Nat.lt_of_lt_of_le h1 hb.size,aB hb h2,h3.below hb,h4⟩
theorem IsII.below {w w':World} {a:Option Addr} {rows:List (List Int)} (h:IsII w a rows) (hb:Below w.heap.size w w'):IsII w' a rows:=fun i hi=>by
 obtain⟨b,off,a',c',e,h1,h2,h3,h4⟩:=h i hi
 exact⟨b,off,a',c',e,Nat.lt_of_lt_of_le h1 hb.size,aB hb h2,h3.below hb,h4⟩
structure Sta (w:World) (sa ra wa va:Option Addr) (S:SA):Prop where
 st:IsInts w sa S.st
 rd:IsBB w ra S.rd
 wr:IsBB w wa S.wr
 vs:IsII w va S.vs
theorem Sta.below {w w':World} {sa ra wa va:Option Addr} {S:SA} (h:Sta w sa ra wa va S) (hb:Below w.heap.size w w'):Sta w' sa ra wa va S:=⟨h.st.below hb,h.rd.below hb,h.wr.below hb,h.vs.below hb⟩
theorem IsBB.rows {w:World} {a:Option Addr} {rows:List (List Bool)} (h:IsBB w a rows) {n sh:Nat} (hn:rows.length=n) (hs:∀i,i<n→(rows.getD i []).length=sh) (h0:0<sh):IsBR 0 w a n sh (cM rows):=fun i hi=>by
 obtain⟨b,off,a',c',e,h1,h2,h3,_⟩:=h i (by omega)
 have hl:=hs i hi
 obtain⟨b',off',ea,hb',_⟩:=h3 0 (by omega)
 subst ea
 refine⟨b,off,b',off',c',e,⟨Nat.zero_le _,h1⟩,⟨Nat.zero_le _,hb'⟩,by rw[h2,hl],fun k hk=>?_⟩
 obtain⟨b2,off2,e2,_,hc⟩:=h3 k (by omega)
 injection e2 with e2
 injection e2 with q1 q2 _
 subst q1 q2
 exact hc
theorem IsII.rows {w:World} {a:Option Addr} {V:List (List Int)} (h:IsII w a V) {l:List TxA} (hn:V.length=l.length) (hs:∀i,i<l.length→(V.getD i []).length=(gX l i).rs.length):IsIR 0 w a l V:=fun i hi=>by
 obtain⟨b,off,a',c',e,h1,h2,h3,h4⟩:=h i (by omega)
 have hl:=hs i hi
 exact⟨b,off,a',c',e,⟨Nat.zero_le _,h1⟩,by rw[h2,hl],hl,h3,fun _ _=>Nat.zero_le _,h4⟩
variable {w:World} {h sh:Nat} {l:List TxA} {S:SA} {A:HA}
theorem rC (H:Hall w h sh l S A) :
    Calls Tryz.prog 236 #[.pointer (some ⟨h,0,none⟩)] w fun e w'=>e=.returned (.int .i64 (if bH sh l S then 0 else 1))∧w'=w:=by
  have HH:Hid (Hall w h sh l S A):=H
  have x0:=H.h0
  have p0:=H.p0
  have p1:=H.p1
  have hl8:=H.l8
  have hs4:=H.s4
  have HE1:Hid (bH sh l S=true→(if bH sh l S then (0:Int) else 1)=0):=fun e=>by rw[e];rfl
  have HE0:Hid (bH sh l S=false→(if bH sh l S then (0:Int) else 1)=1):=fun e=>by rw[e];rfl
  clear H
  generalize (if bH sh l S then (0:Int) else 1)=E at *
  go_enter Tryz.func236,Tryz.ntmps236
  go_wp2
  go_loop [3,4,13] (fun _ _ i=>∃n:Nat,n≤l.length∧i=.int .i64 n∧Hid ((List.range n).all (fun n=>(List.range sh).all (tr1 sh l S n))=true)) (fun _ _ i=>l.length - (intOf i).toNat)
  case atStart=>exact⟨0,Nat.zero_le _,rfl,rfl⟩
  case round=>
    obtain⟨n,hn',rfl,hall⟩:=hrel
    by_cases hlt:n<l.length
    · have i1:(n:Int)<(l.length:Int):=by omega
      have i0:(0:Int)≤(n:Int):=by omega
      have HN:Hid ((List.range sh).all (tr1 sh l S n)=true→(List.range (n+1)).all (fun n=>(List.range sh).all (tr1 sh l S n))=true):=fun e=>by rw[tL,hall.out,e];rfl
      clear hall
      obtain⟨b1,o1,b1',o1',k1,x1,y1,z1⟩:=oY HH.out.h2 HH.out.rd hlt
      obtain⟨b2,o2,b2',o2',k2,x2,y2,z2⟩:=oY HH.out.h3 HH.out.wr hlt
      obtain⟨b3,o3,b3',o3',k3,x3,y3,z3⟩:=oY HH.out.h5 HH.out.pt hlt
      obtain⟨b4,o4,b4',o4',k4,x4,y4,z4⟩:=oY HH.out.h6 HH.out.ac hlt
      have Z1:Hid (∀k,k<sh→w.cell? ⟨b1',o1'+k,none⟩=some (.bool (cM S.rd n k))):=z1
      have Z2:Hid (∀k,k<sh→w.cell? ⟨b2',o2'+k,none⟩=some (.bool (cM S.wr n k))):=z2
      have Z3:Hid (∀k,k<sh→w.cell? ⟨b3',o3'+k,none⟩=some (.bool (jS sh (gX l n) k))):=z3
      have Z4:Hid (∀k,k<sh→w.cell? ⟨b4',o4'+k,none⟩=some (.bool (oL sh (gX l n) k))):=z4
      have CR:Hid (Calls Tryz.prog 271 #[.pointer (some ⟨h,0,none⟩),.int .i64 n] w fun e w'=>e=.returned (.bool (dE sh l S n))∧w'=w):=pK HH.out hlt
      clear z1 z2 z3 z4
      go_wp2
      go_loop [4,23] (fun _ i=>∃k:Nat,k≤sh∧i=.int .i64 k∧Hid ((List.range k).all (tr1 sh l S n)=true)) (fun _ i=>sh - (intOf i).toNat)
      case atStart=>exact⟨0,Nat.zero_le _,rfl,rfl⟩
      case round=>
        obtain⟨k,hk',rfl,hall⟩:=hrel
        by_cases hlt2:k<sh
        · have j1:(k:Int)<(sh:Int):=by omega
          have j0:(0:Int)≤(k:Int):=by omega
          have d1:=Z1.out k hlt2
          have d2:=Z2.out k hlt2
          have d3:=Z3.out k hlt2
          have d4:=Z4.out k hlt2
          have HT:Hid (tr1 sh l S n k=((!cM S.rd n k || jS sh (gX l n) k) && (!cM S.wr n k || (oL sh (gX l n) k && dE sh l S n)))):=rfl
          have HG:Hid (tr1 sh l S n k=true→(List.range (k+1)).all (tr1 sh l S n)=true):=fun e=>by rw[tL,hall.out,e];rfl
          have HB:Hid (tr1 sh l S n k=false→bH sh l S=false):=fun e=>truth_stop hlt hlt2 e
          clear hall
          generalize tr1 sh l S n k=T at *
          generalize cM S.rd n k=r at *
          generalize cM S.wr n k=t at *
          generalize jS sh (gX l n) k=P at *
          generalize oL sh (gX l n) k=Q at *
          generalize dE sh l S n=R at *
          rcases r with _ | _ <;> rcases P with _ | _ <;> rcases t with _ | _ <;> try rcases Q with _ | _
          all_goals first
            | (have HF:Hid (bH sh l S=false):=HB.out HT.out
               clear HT HG HB CR HN
               go_wp2
               go_ret
               exact⟨by rw[HE0.out HF.out];rfl,rfl⟩)
            | (have HF:Hid ((List.range (k+1)).all (tr1 sh l S n)=true):=HG.out HT.out
               clear HT HG HB CR HN
               go_wp2
               go_round
               case rel=>exact⟨k+1,by omega,by go_num,HF⟩
               case measure=>simp[intOf];omega)
            | (go_wp2_with fail
               refine CR.out.mono ?_
               rintro e w1 ⟨rfl,hw1⟩
               subst hw1
               clear CR
               cases R
               · have HF:Hid (bH sh l S=false):=HB.out HT.out
                 clear HT HG HB HN
                 go_wp2
                 go_ret
                 exact⟨by rw[HE0.out HF.out];rfl,rfl⟩
               · have HF:Hid ((List.range (k+1)).all (tr1 sh l S n)=true):=HG.out HT.out
                 clear HT HG HB HN
                 go_wp2
                 go_round
                 case rel=>exact⟨k+1,by omega,by go_num,HF⟩
                 case measure=>simp[intOf];omega)
        · have hkk:k=sh:=by omega
          have HF:Hid ((List.range (n+1)).all (fun n=>(List.range sh).all (tr1 sh l S n))=true):=HN.out (by have:=hall.out;rw[hkk]at this;exact this)
          have j1:¬(k:Int)<(sh:Int):=by omega
          clear hall HN CR
          go_wp2
          go_round
          case rel=>exact⟨n+1,by omega,by go_num,HF⟩
          case measure=>simp[intOf];omega
    · have hnn:n=l.length:=by omega
      have HF:Hid (bH sh l S=true):=by
        have:=hall.out
        rw[hnn]at this
        exact this
      have i1:¬(n:Int)<(l.length:Int):=by omega
      clear hall
      go_wp2
      go_ret
      exact⟨by rw[HE1.out HF.out];rfl,rfl⟩
end
section
def qK (P:Int×Bool→Bool) (L:List (Int×Bool)):Int:=if L.any P=true then ((L.findIdx P:Nat):Int) else -1
theorem idx_step (P:Int×Bool→Bool) (L:List (Int×Bool)) (k:Nat) (h:k<L.length) (hn:∀p∈L.take k,P p=false):(P (L.getD k (0,false))=true→qK P L=k)∧(P (L.getD k (0,false))=false→∀p∈L.take (k+1),P p=false):=by
 have e:L.getD k (0,false)=L[k]:=by simp[List.getD,h]
 rw[e]
 constructor
 ·intro hp
  unfold qK
  rw[if_pos (List.any_eq_true.2 ⟨L[k],List.getElem_mem h,hp⟩)]
  have:L.findIdx P=k:=by
   rw[List.findIdx_eq h]
   refine⟨hp,fun j hj=>?_⟩
   exact hn _ (List.mem_take_iff_getElem.2 ⟨j,by omega,rfl⟩)
  rw[this]
 ·intro hp p hm
  rw[List.take_succ_eq_append_getElem h,List.mem_append,List.mem_singleton]at hm
  rcases hm with hm | rfl
  ·exact hn p hm
  ·exact hp
theorem idx_none (P:Int×Bool→Bool) (L:List (Int×Bool)) (hn:∀p∈L,P p=false):qK P L = -1:=by
 unfold qK
 rw[if_neg]
 intro h
 obtain⟨p,hp,h⟩:=List.any_eq_true.1 h
 rw[hn p hp]at h
 cases h
theorem idxI_ge (P:Int×Bool→Bool) (L:List (Int×Bool)):decide (0≤qK P L)=L.any P:=by
 unfold qK
 cases h:L.any P with
 | true=>simp
 | false=>simp
theorem index_in (L:List (Int×Bool)) (a:Option Addr) (c:Nat) (F:FuncId) (cap:Array Value) (P:Int×Bool→Bool) (w:World) (hL:IsLks w a L) (hl:L.length≤100)
  (hF:∀v w,Sem.run Tryz.prog (callFunc F (#[v]++cap)) w=.ok (.enter F (#[v]++cap)) w)
  (hC:∀z b,(z,b)∈L→∀w',Below w.heap.size w w'→Calls Tryz.prog F (#[.agg #[.int .i64 z,.bool b]]++cap) w' fun e w''=>e=.returned (.bool (P (z,b)))∧Below w'.heap.size w' w'') :
  Calls Tryz.prog 288 #[.slice a L.length c,.func (.func F) #[] cap] w fun e w'=>e=.returned (.int .i64 (qK P L))∧Below w.heap.size w w':=by
 have HL:Hid (IsLks w a L):=hL
 have HF:Hid (∀v w,Sem.run Tryz.prog (callFunc F (#[v]++cap)) w=.ok (.enter F (#[v]++cap)) w):=hF
 have HC:Hid (∀z b,(z,b)∈L→∀w',Below w.heap.size w w'→Calls Tryz.prog F (#[.agg #[.int .i64 z,.bool b]]++cap) w' fun e w''=>e=.returned (.bool (P (z,b)))∧Below w'.heap.size w' w''):=hC
 clear hL hF hC
 go_enter Tryz.func288,Tryz.ntmps288
 go_wp2
 go_loopw [5,8] (fun _ i wr=>∃k:Nat,k≤L.length∧i=.int .i64 k∧Hid (∀p∈L.take k,P p=false)∧Hid (Below w.heap.size w wr)) (fun _ i _=>L.length - (intOf i).toNat)
 case atStart=>exact⟨0,Nat.zero_le _,rfl,(fun p hp=>by simp at hp),Below.refl _ _⟩
 case round=>
  obtain⟨k,hk,rfl,hn,hB⟩:=hrel
  by_cases hlt:k<L.length
  ·obtain⟨b,off,rfl,_,c0,c1⟩:=HL.out k hlt
   have d0:=aB hB.out c0
   have d1:=aB hB.out c1
   have HS:Hid ((P (L.getD k (0,false))=true→qK P L=k)∧(P (L.getD k (0,false))=false→∀p∈L.take (k+1),P p=false)):=idx_step P L k hlt hn.out
   have HM:Hid (L.getD k (0,false)∈L):=by
    show _∈_
    simp[List.getD,hlt]
   clear c0 c1 hn
   generalize L.getD k (0,false)=pr at *
   obtain⟨z,t⟩:=pr
   simp only at d0 d1
   have j1:(0:Int)≤(k:Int):=by omega
   have j2:(k:Int)<(L.length:Int):=by omega
   go_wp2_with fail
   rw[HF.out,Oper.upon_enter]
   refine(HC.out z t HM.out _ hB.out).mono ?_
   rintro e w1 ⟨rfl,hb1⟩
   have B1:Hid (Below w.heap.size w w1):=aC hB.out hb1
   clear hb1 hB d0 d1
   cases hp:P (z,t) with
   | true=>
    have HR:Hid (qK P L=k):=HS.out.1 hp
    clear HS
    go_wp2
    go_ret
    exact⟨by rw[HR.out];rfl,B1.out⟩
   | false=>
    have HR:Hid (∀p∈L.take (k+1),P p=false):=HS.out.2 hp
    clear HS
    go_wp2
    go_roundw
    case rel=>exact⟨k+1,by omega,by go_num,HR,B1⟩
    case measure=>simp[intOf];omega
  ·have HR:Hid (qK P L = -1):=idx_none P L (by
    have h:=hn.out
    rw[List.take_of_length_le (by omega)]at h
    exact h)
   clear hn
   go_wp2
   go_ret
   exact⟨by rw[HR.out];rfl,hB.out⟩
theorem pX (L:List (Int×Bool)) (a:Option Addr) (c:Nat) (F:FuncId) (cap:Array Value) (P:Int×Bool→Bool) (w:World) (hL:IsLks w a L) (hl:L.length≤100)
  (hF:∀v w,Sem.run Tryz.prog (callFunc F (#[v]++cap)) w=.ok (.enter F (#[v]++cap)) w)
  (hC:∀z b,(z,b)∈L→∀w',Below w.heap.size w w'→Calls Tryz.prog F (#[.agg #[.int .i64 z,.bool b]]++cap) w' fun e w''=>e=.returned (.bool (P (z,b)))∧Below w'.heap.size w' w'') :
  Calls Tryz.prog 285 #[.slice a L.length c,.func (.func F) #[] cap] w fun e w'=>e=.returned (.bool (L.any P))∧Below w.heap.size w w':=by
 have H:Hid (Calls Tryz.prog 288 #[.slice a L.length c,.func (.func F) #[] cap] w fun e w'=>e=.returned (.int .i64 (qK P L))∧Below w.heap.size w w'):=index_in L a c F cap P w hL hl hF hC
 have HG:Hid (decide (0≤qK P L)=L.any P):=idxI_ge P L
 clear hL hF hC
 go_enter Tryz.func285,Tryz.ntmps285
 go_wp2_with fail
 refine H.out.mono ?_
 clear H
 rintro e w1 ⟨rfl,hb⟩
 have B:Hid (Below w.heap.size w w1):=hb
 clear hb
 go_wp2
 go_ret
 exact⟨by rw[←HG.out];rfl,B.out⟩
theorem shE_in (sh k:Nat) (h0:0<sh) (h4:sh≤4) (hk:k<8):jU sh [] k=0∧mF sh [] k=((k%sh:Nat):Int):=by
 have h1:jU sh [] k=0:=by
  have hp:aM sh []=0:=by
   unfold aM dD
   rw[if_neg (by omega)]
   rfl
  unfold jU
  rw[hp,if_neg (by omega)]
  rfl
 refine⟨h1,?_⟩
 unfold mF
 rw[if_pos h1]
 omega
theorem lk_len (x:TxA):(jM x).length≤8:=kU _ _ 8
variable {w:World} {h sh:Nat} {l:List TxA} {S:SA} {A:HA}
theorem wZ (w:World) (h p sh:Nat) (x0:w.cell? ⟨h,0,none⟩=some (.pointer (some ⟨p,0,none⟩))) (x1:w.cell? ⟨p,0,none⟩=some (.int .i64 sh)) (hs0:0<sh) (hs4:sh≤4) {c k:Nat} (hc:c<8) :
  Calls Tryz.prog 242 #[.pointer (some ⟨h,0,none⟩),.int .i64 c,.int .i64 k] w fun e w'=>e=.returned (.bool (c%sh==k))∧Below w.heap.size w w':=by
 obtain⟨e1,e2⟩:=shE_in sh c hs0 hs4 hc
 have CS:Hid (Calls Tryz.prog 274 #[.agg #[.int .i64 sh,.slice none 0 0],.int .i64 c] w fun e w'=>e=.returned (.tuple #[.int .i64 ((c%sh:Nat):Int),.int .i64 0])∧Below w.heap.size w w'):=by
  have hh:=shard_any none 0 [] sh c w (fun i hi=>by simp at hi)
  rw[e1,e2]at hh
  exact hh
 have HE:Hid ((((c%sh:Nat):Int)==(k:Int))=(c%sh==k)):=by
  show _=_
  rw[Bool.eq_iff_iff,beq_iff_eq,beq_iff_eq]
  omega
 clear e1 e2
 generalize c%sh=r at *
 go_enter Tryz.func242,Tryz.ntmps242
 go_wp2_with fail
 refine CS.out.mono ?_
 clear CS
 rintro e w1 ⟨rfl,hb⟩
 have B1:Hid (Below w.heap.size w w1):=hb
 clear hb x0 x1
 go_wp2_with fail
 refine(lK _ 0 rfl _).mono ?_
 rintro e w2 ⟨rfl,hw2⟩
 have B2:Hid (Below w.heap.size w w2):=by rw[hw2];exact aA B1.out _
 clear hw2 B1
 go_wp2
 go_ret
 exact⟨by rw[HE.out];rfl,B2.out⟩
theorem lies_any (H:Hall w h sh l S A) {c k:Nat} (hc:c<8) :
  Calls Tryz.prog 242 #[.pointer (some ⟨h,0,none⟩),.int .i64 c,.int .i64 k] w fun e w'=>e=.returned (.bool (c%sh==k))∧Below w.heap.size w w':=wZ w h A.p sh H.h0 H.p0 H.s0 H.s4 hc
theorem cl162 (z y:Int) (b t:Bool) (p:Nat) (w:World) (h0:w.cell? ⟨p,0,none⟩=some (.int .i64 y)) (h1:w.cell? ⟨p,1,none⟩=some (.bool t)) :
  Calls Tryz.prog 287 #[.agg #[.int .i64 z,.bool b],.pointer (some ⟨p,0,none⟩)] w fun e w'=>e=.returned (.bool (y==z && (t || b)))∧Below w.heap.size w w':=by
 have hU:Hid (Below w.heap.size w (w.alloc (.cells #[.int .i64 z,.bool b] 286))):=aA (Below.refl _ _) _
 have d0:=aB hU.out h0
 have d1:=aB hU.out h1
 have e0:(w.alloc (.cells #[.int .i64 z,.bool b] 286)).cell? ⟨w.heap.size,0,none⟩=some (.int .i64 z):=by simp
 have e1:(w.alloc (.cells #[.int .i64 z,.bool b] 286)).cell? ⟨w.heap.size,1,none⟩=some (.bool b):=by simp
 clear h0 h1
 go_enter Tryz.func287,Tryz.ntmps287
 cases hq:(y==z)
 ·go_wp2
  go_ret
  exact⟨rfl,hU.out⟩
 ·cases t
  ·go_wp2
   go_ret
   exact⟨rfl,hU.out⟩
  ·go_wp2
   go_ret
   exact⟨rfl,hU.out⟩
end
section
theorem lk_mem {x:TxA} {z:Int} {b:Bool} (h:(z,b)∈jM x):∃c:Nat,c<8∧z=(c:Int):=by
 obtain⟨k,hk,_,e⟩:=(fS x (z,b)).1 h
 injection e with e1 _
 exact⟨k,hk,e1⟩
def lkClash (sh:Nat) (x y:TxA) (k:Nat):Bool:=(jM x).any fun p=>p.1.toNat%sh==k && (jM y).any fun q=>p.1==q.1 && (p.2 || q.2)
theorem lkClash_eq (sh:Nat) (x y:TxA) (k:Nat):lkClash sh x y k=yT sh x y k:=by
 rw[Bool.eq_iff_iff,clK_iff]
 unfold lkClash
 simp only[List.any_eq_true,Bool.and_eq_true,beq_iff_eq]
 constructor
 ·rintro ⟨a,ha,hs,b,hb,he,hw⟩
  obtain⟨c,hc,hh,rfl⟩:=(fS x a).1 ha
  obtain⟨d,hd,hi,rfl⟩:=(fS y b).1 hb
  simp only at he hs hw
  have e:c=d:=by omega
  subst e
  refine⟨c,hc,by simpa using hs,?_⟩
  rw[gH,hh,hi,hw]
  rfl
 ·rintro ⟨c,hc,hs,h⟩
  rw[gH,Bool.and_eq_true,Bool.and_eq_true]at h
  exact⟨_,(fS x _).2 ⟨c,hc,h.1.1,rfl⟩,by simpa using hs,_,(fS y _).2 ⟨c,hc,h.1.2,rfl⟩,rfl,h.2⟩
variable {w:World} {h sh:Nat} {l:List TxA} {S:SA} {A:HA}
theorem inner_any (n:Nat) (z:Int) (t:Bool) (p:Nat) (a':Option Addr) (c':Nat) (hl:IsLks w a' (jM (gX l n))) (q0:w.cell? ⟨p,0,none⟩=some (.int .i64 z)) (q1:w.cell? ⟨p,1,none⟩=some (.bool t)) :
  Calls Tryz.prog 285 #[.slice a' (jM (gX l n)).length c',.func (.func 287) #[] #[.pointer (some ⟨p,0,none⟩)]] w fun e w'=>e=.returned (.bool ((jM (gX l n)).any fun q=>z==q.1 && (t || q.2)))∧Below w.heap.size w w':=
 pX (jM (gX l n)) a' c' 287 #[.pointer (some ⟨p,0,none⟩)] (fun q=>z==q.1 && (t || q.2)) w hl (by have:=lk_len (gX l n);omega) (fun _ _=>rfl) (fun y b _ w' hb=>cl162 y z b t p w' (aB hb q0) (aB hb q1))
theorem cl161 (H:Hall w h sh l S A) {n k:Nat} (hn:n<l.length) (_hk:k<sh) (c:Nat) (hc:c<8) (t:Bool) (p q r:Nat) (p0:w.cell? ⟨p,0,none⟩=some (.pointer (some ⟨h,0,none⟩))) (q0:w.cell? ⟨q,0,none⟩=some (.int .i64 k)) (r0:w.cell? ⟨r,0,none⟩=some (.int .i64 n)) :
  Calls Tryz.prog 286 #[.agg #[.int .i64 (c:Int),.bool t],.pointer (some ⟨p,0,none⟩),.pointer (some ⟨q,0,none⟩),.pointer (some ⟨r,0,none⟩)] w fun e w'=>e=.returned (.bool (c%sh==k && (jM (gX l n)).any fun q=>(c:Int)==q.1 && (t || q.2)))∧Below w.heap.size w w':=by
 have hU:Hid (Below w.heap.size w (w.alloc (.cells #[.int .i64 (c:Int),.bool t] 286))):=aA (Below.refl _ _) _
 have e0:(w.alloc (.cells #[.int .i64 (c:Int),.bool t] 286)).cell? ⟨w.heap.size,0,none⟩=some (.int .i64 (c:Int)):=by simp
 have e1:(w.alloc (.cells #[.int .i64 (c:Int),.bool t] 286)).cell? ⟨w.heap.size,1,none⟩=some (.bool t):=by simp
 have p0:=aB hU.out p0
 have q0:=aB hU.out q0
 have r0:=aB hU.out r0
 have HH:Hid (Hall (w.alloc (.cells #[.int .i64 (c:Int),.bool t] 286)) h sh l S A):=H.below hU.out
 have hl8:=H.l8
 clear H
 go_enter Tryz.func286,Tryz.ntmps286
 go_upto_region 1 with fail
 have HU:Hid (∀w',Below (w.alloc (.cells #[.int .i64 (c:Int),.bool t] 286)).heap.size (w.alloc (.cells #[.int .i64 (c:Int),.bool t] 286)) w'→Below w.heap.size w w'):=fun w' hb=>aC hU.out hb
 clear hU
 generalize w.alloc (.cells #[.int .i64 (c:Int),.bool t] 286)=W at *
 obtain⟨b,off,a',c',ea,_,y1,hlk,_⟩:=HH.out.lk n hn
 have x7:W.cell? ⟨h,7,none⟩=some (.slice (some ⟨b,off,none⟩) l.length A.kc):=by rw[←ea];exact HH.out.h7
 have HK:Hid (IsLks W a' (jM (gX l n))):=hlk
 have e1':Hid (W.cell? ⟨w.heap.size,1,none⟩=some (.bool t)):=e1
 clear hlk ea e1
 have i1:(0:Int)≤(n:Int):=by omega
 have i2:(n:Int)<(l.length:Int):=by omega
 have CL:Hid (∀w',Below W.heap.size W w'→Calls Tryz.prog 242 #[.pointer (some ⟨h,0,none⟩),.int .i64 c,.int .i64 k] w' fun e w''=>e=.returned (.bool (c%sh==k))∧Below w'.heap.size w' w''):=fun w' hb=>lies_any (HH.out.below hb) hc
 have CI:Hid (∀w',Below W.heap.size W w'→Calls Tryz.prog 285 #[.slice a' (jM (gX l n)).length c',.func (.func 287) #[] #[.pointer (some ⟨w.heap.size,0,none⟩)]] w' fun e w''=>e=.returned (.bool ((jM (gX l n)).any fun q=>(c:Int)==q.1 && (t || q.2)))∧Below w'.heap.size w' w''):=fun w' hb=>inner_any n c t w.heap.size a' c' (HK.out.below hb) (aB hb e0) (aB hb e1'.out)
 have KS:Hid (∀w',Below W.heap.size W w'→w'.cell? ⟨p,0,none⟩=some (.pointer (some ⟨h,0,none⟩))∧w'.cell? ⟨q,0,none⟩=some (.int .i64 k)∧w'.cell? ⟨r,0,none⟩=some (.int .i64 n)∧w'.cell? ⟨w.heap.size,0,none⟩=some (.int .i64 (c:Int))∧w'.cell? ⟨h,7,none⟩=some (.slice (some ⟨b,off,none⟩) l.length A.kc)∧w'.cell? ⟨b,off+n,none⟩=some (.slice a' (jM (gX l n)).length c')∧Hid (Below W.heap.size W w')):=fun w' hb=>⟨aB hb p0,aB hb q0,aB hb r0,aB hb e0,aB hb x7,aB hb y1,hb⟩
 clear HH HK e1'
 generalize hR:((jM (gX l n)).any fun q=>(c:Int)==q.1 && (t || q.2))=R at CI
 generalize (jM (gX l n)).length=len at *
 generalize hV:(c%sh==k)=V at CL
 have HR:Hid (((jM (gX l n)).any fun q=>(c:Int)==q.1 && (t || q.2))=R):=hR
 have HV:Hid ((c%sh==k)=V):=hV
 clear hR hV
 cases V
 ·refine wp_region_held_drew (S:=(fun w'=>w'.cell? ⟨p,0,none⟩=some (.pointer (some ⟨h,0,none⟩))∧w'.cell? ⟨q,0,none⟩=some (.int .i64 k)∧w'.cell? ⟨r,0,none⟩=some (.int .i64 n)∧w'.cell? ⟨w.heap.size,0,none⟩=some (.int .i64 (c:Int))∧w'.cell? ⟨h,7,none⟩=some (.slice (some ⟨b,off,none⟩) l.length A.kc)∧w'.cell? ⟨b,off+n,none⟩=some (.slice a' len c')∧Hid (Below W.heap.size W w'))) (by kernel_rfl) ?_ (fun hHeld=>?_)
  ·refine KS.out _ ?_
   exact aD (Below.refl _ _)
  refine tk 0 ?_
  try simp only[Act.put,List.setIfInBounds_toArray]
  refine tk 1 ?_
  try simp only[Act.put,List.setIfInBounds_toArray]
  refine tk 2 ?_
  try simp only[Act.put,List.setIfInBounds_toArray]
  refine tk 3 ?_
  try simp only[Act.put,List.setIfInBounds_toArray]
  refine r1 4 (fun K hK=>?_)
  go_simp
  go_wp2_with (go_at_call 242;refine(CL.out _ (aD (Below.refl _ _))).mono ?_;rintro e w1 ⟨rfl,hb1⟩)
  have BW:Hid (Below W.heap.size W w1):=aC (aD (Below.refl _ _)) hb1
  clear hHeld
  refine hK.out _ _ (KS.out _ BW.out) (fun hHeld=>?_)
  clear hK K
  refine tk 5 ?_
  try simp only[Act.put,List.setIfInBounds_toArray]
  refine tf 6 ?_
  try simp only[Act.put,List.setIfInBounds_toArray]
  refine tf 7 ?_
  try simp only[Act.put,List.setIfInBounds_toArray]
  refine tf 8 ?_
  try simp only[Act.put,List.setIfInBounds_toArray]
  refine tf 9 ?_
  try simp only[Act.put,List.setIfInBounds_toArray]
  refine tf 10 ?_
  try simp only[Act.put,List.setIfInBounds_toArray]
  refine tf 11 ?_
  try simp only[Act.put,List.setIfInBounds_toArray]
  refine tf 12 ?_
  try simp only[Act.put,List.setIfInBounds_toArray]
  refine tf 13 ?_
  try simp only[Act.put,List.setIfInBounds_toArray]
  refine tf 14 ?_
  try simp only[Act.put,List.setIfInBounds_toArray]
  refine tk 15 ?_
  try simp only[Act.put,List.setIfInBounds_toArray]
  refine tk 16 ?_
  try simp only[Act.put,List.setIfInBounds_toArray]
  refine wpAnyH_done (by kernel_rfl) ?_ _
  go_wp2
  go_ret
  exact⟨by rw[HV.out,HR.out];rfl,HU.out _ BW.out⟩
 ·go_region_held3 (fun w'=>w'.cell? ⟨p,0,none⟩=some (.pointer (some ⟨h,0,none⟩))∧w'.cell? ⟨q,0,none⟩=some (.int .i64 k)∧w'.cell? ⟨r,0,none⟩=some (.int .i64 n)∧w'.cell? ⟨w.heap.size,0,none⟩=some (.int .i64 (c:Int))∧w'.cell? ⟨h,7,none⟩=some (.slice (some ⟨b,off,none⟩) l.length A.kc)∧w'.cell? ⟨b,off+n,none⟩=some (.slice a' len c')∧Hid (Below W.heap.size W w')) ((refine KS.out _ ?_;go_split_ands;repeat (first | assumption | exact Below.refl _ _ | exact Hid.out (by assumption) | refine aD ?_ | refine aA ?_ _ | refine aC ?_ (by assumption))))
   (first
    | (go_at_call 242;refine(CL.out _ ?_).mono ?_;(go_split_ands;repeat (first | assumption | exact Below.refl _ _ | exact Hid.out (by assumption) | refine aD ?_ | refine aA ?_ _ | refine aC ?_ (by assumption)));rintro e w' ⟨rfl,hbx⟩)
    | (go_at_call 285;refine(CI.out _ ?_).mono ?_;(go_split_ands;repeat (first | assumption | exact Below.refl _ _ | exact Hid.out (by assumption) | refine aD ?_ | refine aA ?_ _ | refine aC ?_ (by assumption)));rintro e w' ⟨rfl,hby⟩))
  all_goals (
   go_split_ands
   go_wp2
   go_ret
   refine⟨by rw[HV.out,HR.out];rfl,HU.out _ ?_⟩
   repeat (first | assumption | exact Below.refl _ _ | exact Hid.out (by assumption) | refine aD ?_ | refine aA ?_ _ | refine aC ?_ (by assumption)))
end
end Go.Proofs.YtcgpkonfneofdaaGreatDoor
