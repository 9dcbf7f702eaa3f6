/- Conditions: those that each theorem states. -/
import Derived.Test.YtcgpkonfneofdaaGreatDoorSWireF
set_option maxRecDepth 100000
set_option maxHeartbeats 8000000
namespace Go.Proofs.YtcgpkonfneofdaaGreatDoor
open Go.RowKit
def gsB (l:List Gd):List Int:=((l.length:Int)%256)::l.flatMap (fun x=>gdB x.k x.ak x.an x.bk x.bn)
theorem gsB_take (l:List Gd) (k:Nat) (h:k<l.length):(l.take (k+1)).flatMap (fun x=>gdB x.k x.ak x.an x.bk x.bn)=(l.take k).flatMap (fun x=>gdB x.k x.ak x.an x.bk x.bn)++(fun x=>gdB x.k x.ak x.an x.bk x.bn) (l.getD k g0):=by
 rw[List.take_add_one,List.flatMap_append]
 simp[List.getD,h]
theorem gsB_len (l:List Gd) (k:Nat):((l.take k).flatMap (fun x=>gdB x.k x.ak x.an x.bk x.bn)).length≤19*k:=by
 induction k generalizing l with
 | zero=>simp
 | succ k ih=>
  cases l with
  | nil=>simp
  | cons x l=>have:=ih l;simp[gdB,gN]at this ⊢;omega
theorem vV (P:Nat) (l:List Gd) (za:Option Addr) (zc:Nat) (bs:List Int) (w:World) (h:WrS P w bs) (hl:bs.length≤50000) (h8:l.length≤100) (hz:∀w',Below P w w'→IsGs w' za l) :
  Calls Tryz.prog 104 #[.pointer (some ⟨P,0,none⟩),.slice za l.length zc,.func (.func 105) #[.pointer (some ⟨P,0,none⟩)] #[]] w fun e w'=>e=.returned (.tuple #[])∧WrS P w' (bs++gsB l)∧WK P w w':=by
 have hP:=h.lt
 have H0:Hid (WrS P w bs):=h
 have HZ:Hid (∀w',Below P w w'→IsGs w' za l):=hz
 clear h hz
 go_enter Tryz.func104,Tryz.ntmps104
 go_wp2_with fail
 refine(cN P l.length bs _ H0.out (by omega)).mono ?_
 rintro e w1 ⟨rfl,h1,k1⟩
 have H1:Hid (WrS P w1 (bs++[(l.length:Int)%256])):=h1
 have K1:Hid (WK P w w1):=k1
 clear h1 k1
 go_wp2
 go_loopw [14] (fun i wr=>∃k:Nat,k≤l.length∧i=.int .i64 k∧Hid (WrS P wr (bs++[(l.length:Int)%256]++(l.take k).flatMap (fun x=>gdB x.k x.ak x.an x.bk x.bn)))∧Hid (WK P w wr)) (fun i _=>l.length - (intOf i).toNat)
 case atStart=>exact⟨0,Nat.zero_le _,rfl,by simpa using H1,K1⟩
 case round=>
  obtain⟨k,hk,rfl,hW,hK⟩:=hrel
  by_cases hlt:k<l.length
  ·obtain⟨b,off,hza,hb,c0,c1,c2,c3,c4⟩:=HZ.out wr (hK.out.below hP) k hlt
   subst hza
   have HT:Hid (_=_):=gsB_take l k hlt
   have HLn:=gsB_len l k
   have HL2:Hid (((l.take k).flatMap (fun x=>gdB x.k x.ak x.an x.bk x.bn)).length≤3000):=by show _≤_;omega
   clear HLn
   generalize l.getD k g0=x at *
   obtain⟨kd,ak,an,bk,bn⟩:=x
   simp only at c0 c1 c2 c3 c4
   go_wp2_with fail
   refine(yY P kd ak an bk bn _ _ (hW.out.alloc _) (by have:=HL2.out;simp only[List.length_append,List.length_cons,List.length_nil];omega)).mono ?_
   rintro e w3 ⟨rfl,h3,k3⟩
   have H3:Hid (WrS P w3 (bs++[(l.length:Int)%256]++(l.take (k+1)).flatMap (fun x=>gdB x.k x.ak x.an x.bk x.bn))):=by
    rw[HT.out,←List.append_assoc];exact h3
   have K3:Hid (WK P w w3):=(hK.out.alloc _).trans k3
   clear h3 k3 hW hK HT
   go_wp2
   go_roundw
   case rel=>exact⟨k+1,by omega,by go_num,H3,K3⟩
   case measure=>simp[intOf];omega
  ·have hk8:k=l.length:=by omega
   subst hk8
   have H4:Hid (WrS P wr (bs++gsB l)):=by
    have:=hW.out
    rw[List.take_length]at this
    show WrS P wr _
    simpa[gsB]using this
   clear hW
   go_wp2
   go_end0
   exact⟨rfl,H4.out,hK.out⟩
def ssB (l:List St):List Int:=((l.length:Int)%256)::l.flatMap (fun x=>stB x.key x.op x.ak x.an x.bk x.bn)
theorem ssB_take (l:List St) (k:Nat) (h:k<l.length):(l.take (k+1)).flatMap (fun x=>stB x.key x.op x.ak x.an x.bk x.bn)=(l.take k).flatMap (fun x=>stB x.key x.op x.ak x.an x.bk x.bn)++(fun x=>stB x.key x.op x.ak x.an x.bk x.bn) (l.getD k s0):=by
 rw[List.take_add_one,List.flatMap_append]
 simp[List.getD,h]
theorem ssB_len (l:List St) (k:Nat):((l.take k).flatMap (fun x=>stB x.key x.op x.ak x.an x.bk x.bn)).length≤20*k:=by
 induction k generalizing l with
 | zero=>simp
 | succ k ih=>
  cases l with
  | nil=>simp
  | cons x l=>have:=ih l;simp[stB,gN]at this ⊢;omega
theorem wrSets_any (P:Nat) (l:List St) (za:Option Addr) (zc:Nat) (bs:List Int) (w:World) (h:WrS P w bs) (hl:bs.length≤50000) (h8:l.length≤100) (hz:∀w',Below P w w'→IsSs w' za l) :
  Calls Tryz.prog 106 #[.pointer (some ⟨P,0,none⟩),.slice za l.length zc,.func (.func 107) #[.pointer (some ⟨P,0,none⟩)] #[]] w fun e w'=>e=.returned (.tuple #[])∧WrS P w' (bs++ssB l)∧WK P w w':=by
 have hP:=h.lt
 have H0:Hid (WrS P w bs):=h
 have HZ:Hid (∀w',Below P w w'→IsSs w' za l):=hz
 clear h hz
 go_enter Tryz.func106,Tryz.ntmps106
 go_wp2_with fail
 refine(cN P l.length bs _ H0.out (by omega)).mono ?_
 rintro e w1 ⟨rfl,h1,k1⟩
 have H1:Hid (WrS P w1 (bs++[(l.length:Int)%256])):=h1
 have K1:Hid (WK P w w1):=k1
 clear h1 k1
 go_wp2
 go_loopw [14] (fun i wr=>∃k:Nat,k≤l.length∧i=.int .i64 k∧Hid (WrS P wr (bs++[(l.length:Int)%256]++(l.take k).flatMap (fun x=>stB x.key x.op x.ak x.an x.bk x.bn)))∧Hid (WK P w wr)) (fun i _=>l.length - (intOf i).toNat)
 case atStart=>exact⟨0,Nat.zero_le _,rfl,by simpa using H1,K1⟩
 case round=>
  obtain⟨k,hk,rfl,hW,hK⟩:=hrel
  by_cases hlt:k<l.length
  ·obtain⟨b,off,hza,hb,c0,c1,c2,c3,c4,c5⟩:=HZ.out wr (hK.out.below hP) k hlt
   subst hza
   have HT:Hid (_=_):=ssB_take l k hlt
   have HLn:=ssB_len l k
   have HL2:Hid (((l.take k).flatMap (fun x=>stB x.key x.op x.ak x.an x.bk x.bn)).length≤3000):=by show _≤_;omega
   clear HLn
   generalize l.getD k s0=x at *
   obtain⟨key,op,ak,an,bk,bn⟩:=x
   simp only at c0 c1 c2 c3 c4 c5
   go_wp2_with fail
   refine(wrSet_any P key op ak an bk bn _ _ (hW.out.alloc _) (by have:=HL2.out;simp only[List.length_append,List.length_cons,List.length_nil];omega)).mono ?_
   rintro e w3 ⟨rfl,h3,k3⟩
   have H3:Hid (WrS P w3 (bs++[(l.length:Int)%256]++(l.take (k+1)).flatMap (fun x=>stB x.key x.op x.ak x.an x.bk x.bn))):=by
    rw[HT.out,←List.append_assoc];exact h3
   have K3:Hid (WK P w w3):=(hK.out.alloc _).trans k3
   clear h3 k3 hW hK HT
   go_wp2
   go_roundw
   case rel=>exact⟨k+1,by omega,by go_num,H3,K3⟩
   case measure=>simp[intOf];omega
  ·have hk8:k=l.length:=by omega
   subst hk8
   have H4:Hid (WrS P wr (bs++ssB l)):=by
    have:=hW.out
    rw[List.take_length]at this
    show WrS P wr _
    simpa[ssB]using this
   clear hW
   go_wp2
   go_end0
   exact⟨rfl,H4.out,hK.out⟩
theorem gsB_all (l:List Gd):(gsB l).length≤1+19*l.length:=by
 have:=gsB_len l l.length
 rw[List.take_length]at this
 simp only[gsB,List.length_cons];omega
theorem ssB_all (l:List St):(ssB l).length≤1+20*l.length:=by
 have:=ssB_len l l.length
 rw[List.take_length]at this
 simp only[ssB,List.length_cons];omega
def txB (rs:List Int) (gs:List Gd) (ss:List St):List Int:=zsB rs++gsB gs++ssB ss
theorem txB_len (rs:List Int) (gs:List Gd) (ss:List St) (h1:rs.length≤4) (h2:gs.length≤4) (h3:ss.length≤4):(txB rs gs ss).length≤200:=by
 have a:=gsB_all gs
 have b:=ssB_all ss
 have c:(zsB rs).length=1+rs.length:=by simp[zsB];omega
 simp only[txB,List.length_append];omega
theorem wrTxn_any (P:Nat) (rs:List Int) (gs:List Gd) (ss:List St) (ra ga sa:Option Addr) (rc gc sc:Nat) (bs:List Int) (w:World) (h:WrS P w bs) (hl:bs.length≤40000) (h1:rs.length≤4) (h2:gs.length≤4) (h3:ss.length≤4) (hz:∀w',Below P w w'→IsTx w' ra ga sa rs gs ss) :
  Calls Tryz.prog 67 #[.pointer (some ⟨P,0,none⟩),.agg #[.slice ra rs.length rc,.slice ga gs.length gc,.slice sa ss.length sc]] w fun e w'=>e=.returned (.tuple #[])∧WrS P w' (bs++txB rs gs ss)∧WK P w w':=by
 have hmf:∀(fn:Fn) (first cap:Array Value) (w:World),(Instr.makeFunc fn first cap).run Tryz.prog w=.ok (.func fn first cap) w:=fun _ _ _ _=>rfl
 have hP:=h.lt
 have HA:=gsB_all gs
 have hzl:(zsB rs).length=1+rs.length:=by simp[zsB];omega
 have L1:Hid ((bs++zsB rs).length≤50000):=by show _≤_;rw[List.length_append];omega
 have L2:Hid ((bs++zsB rs++gsB gs).length≤50000):=by show _≤_;rw[List.length_append,List.length_append];omega
 clear HA hzl
 obtain⟨W,hWe⟩:∃W,W=w.alloc (.cells #[.slice ra rs.length rc,.slice ga gs.length gc,.slice sa ss.length sc] 95):=⟨_,rfl⟩
 have H0:Hid (WrS P W bs):=by subst hWe;exact h.alloc _
 have K0:Hid (WK P w W):=by subst hWe;exact(WK.refl P w).alloc _
 have N0:Hid (cP W w.heap.size):=by subst hWe;exact jJ _ _ _ (by decide)
 have S0:Hid (w.heap.size<W.heap.size):=by subst hWe;show _<_;simp
 have c0:W.cell? ⟨w.heap.size,0,none⟩=some (.slice ra rs.length rc):=by subst hWe;simp
 have c1:W.cell? ⟨w.heap.size,1,none⟩=some (.slice ga gs.length gc):=by subst hWe;simp
 have c2:W.cell? ⟨w.heap.size,2,none⟩=some (.slice sa ss.length sc):=by subst hWe;simp
 have HZ:Hid (∀w',Below P w w'→IsTx w' ra ga sa rs gs ss):=hz
 have HWE:Hid (W=w.alloc (.cells #[.slice ra rs.length rc,.slice ga gs.length gc,.slice sa ss.length sc] 95)):=hWe
 clear h hz hWe
 go_enter Tryz.func67,Tryz.ntmps67
 go_upto_region 1 with fail
 rw[←HWE.out]
 go_wp2_with fail
 refine(wrInts_any P rs ra rc _ _ H0.out (by omega) (by omega) (fun w' hb=>(HZ.out w' ((K0.out.below hP).trans hb)).r)).mono ?_
 rintro e w1 ⟨rfl,h,k⟩
 have H1:Hid (WrS P w1 (bs++zsB rs)):=h
 have K1:Hid (WK P w w1):=K0.out.trans k
 have N1:Hid (cP w1 w.heap.size):=gD N0.out k S0.out (by omega)
 have S1:Hid (w.heap.size<w1.heap.size):=Nat.lt_of_lt_of_le S0.out k.size
 have c1:=k.cell c1 (by omega) (Or.inr N0.out)
 have c2:=k.cell c2 (by omega) (Or.inr N0.out)
 clear h k
 go_wp2_with fail
 refine(vV P gs ga gc _ _ H1.out L1.out (by omega) (fun w' hb=>(HZ.out w' ((K1.out.below hP).trans hb)).g)).mono ?_
 rintro e w2 ⟨rfl,h,k⟩
 have H2:Hid (WrS P w2 (bs++zsB rs++gsB gs)):=h
 have K2:Hid (WK P w w2):=K1.out.trans k
 have c2:=k.cell c2 (by omega) (Or.inr N1.out)
 clear h k
 go_wp2_with fail
 refine(wrSets_any P ss sa sc _ _ H2.out L2.out (by omega) (fun w' hb=>(HZ.out w' ((K2.out.below hP).trans hb)).s)).mono ?_
 rintro e w3 ⟨rfl,h,k⟩
 have H3:Hid (WrS P w3 (bs++zsB rs++gsB gs++ssB ss)):=h
 have K3:Hid (WK P w w3):=K2.out.trans k
 clear h k
 go_wp2_with fail
 go_end0
 exact⟨rfl,by simpa[txB]using H3.out,K3.out⟩
end Go.Proofs.YtcgpkonfneofdaaGreatDoor
