/- Conditions: those that each theorem states. -/
import Derived.Test.YtcgpkonfneofdaaGreatDoorSDkS
set_option maxRecDepth 100000
set_option maxHeartbeats 8000000
namespace Go.Proofs.YtcgpkonfneofdaaGreatDoor
open Go.RowKit
section
def gT (m:Int) (l:List TxA) (bg:List Int) (S:SA) (x:List UInt8):List UInt8×List Int×SA:=
 match qH m l bg S ((gI 32 x).headD []) (gI 32 x).tail with
 | .ok p=>p
 | .error z=>([101,114,114,111,114,32]++cY z,bg,S)
theorem kQ (c:UInt8):∀(x:List UInt8),∀y∈gI c x,y.length≤x.length
 | [],y,h=>by
  rw[List.mem_singleton.1 h];exact Nat.le_refl _
 | b::r,y,h=>by
  have ih:=kQ c r
  unfold gI at h
  split at h
  ·rcases List.mem_cons.1 h with rfl | h
   ·exact Nat.zero_le _
   ·have:=ih y h;rw[List.length_cons];omega
  ·rcases List.mem_cons.1 h with rfl | h
   ·have:((gI c r).headD []).length≤r.length:=by
     cases hs:gI c r with
     | nil=>exact Nat.zero_le _
     | cons a t=>exact ih a (by rw[hs];simp)
    rw[List.length_cons,List.length_cons];omega
   ·have:=ih y (List.mem_of_mem_tail h);rw[List.length_cons];omega
theorem IsStrs.tail1 {w:World} {wd:List UInt8} {xs:List (List UInt8)} {sb:Nat} (h:IsStrs w (some ⟨sb,0,none⟩) (wd::xs)):IsStrs w (if xs.length=0 then some ⟨sb,0,none⟩ else some ⟨sb,1,none⟩) xs:=fun i hi=>by
 rw[if_neg (by omega)]
 obtain⟨b,off,e,hlt,hc⟩:=h (i+1) (by simpa using hi)
 injection e with e
 injection e with e1 e2
 subst e1 e2
 refine⟨sb,1,rfl,hlt,?_⟩
 rw[show 1+i=0+(i+1) by omega,hc]
 simp
theorem cond_pan {P:Nat} {D:Nat→Prop} {m:Int} {la:Option Addr} {lc:Nat} {l:List TxA} {U4:World} {cap:Array Value} (w:World) (z:Int) (hU:U4=w.alloc (.cells #[.int .i64 0] 22)) (hz:¬z=0) (h:Calls Tryz.prog 43 cap U4 fun e w'=>AnsP P D m la lc l U4 (.error z) e w') :
  Calls Tryz.prog 11 #[.func (.func 43) #[] cap] w fun e w'=>(e=.returned (.tuple #[.string ⟨#[]⟩,.int .i64 z])∧Below w.heap.size w w')∧¬z=0:=by
 subst hU
 exact(kG 43 cap (fun _=>rfl) z w (h.mono fun e w' ⟨he,_,hb⟩=>⟨he,by simpa using hb⟩)).mono fun e w' hh=>⟨hh,hz⟩
section
variable (P:Nat) (D:Nat→Prop) (m:Int) (la:Option Addr) (lc:Nat) (l:List TxA) (ba:Option Addr) (bc:Nat) (bg:List Int) (q:Q4) (S:SA) (w:World)
def AnsF (P:Nat) (D:Nat→Prop) (m:Int) (la:Option Addr) (lc:Nat) (l:List TxA) (w:World) (r:List UInt8×List Int×SA) (e:Ending) (w':World):Prop:=
 e=.returned (aL r.1)∧∃(ba:Option Addr) (bc:Nat) (q2:Q4) (D2:Nat→Prop),Clk P D2 m la lc l ba bc r.2.1 q2 r.2.2 w'∧(∀b,D2 b→D b∨w.heap.size≤b)∧w.grownBy w' (some P)
theorem clkCaught (wd:List UInt8) (xs:List (List UInt8)) (hl:∀y∈xs,y.length≤4096) (h:Clk P D m la lc l ba bc bg q S w) (hk:OkDesk m l bg S) (hE:∀z,qH m l bg S wd xs=.error z→0<z∧z≤100) (hs2:∀w',Below P w w'→Std w'):Calls Tryz.prog 11 #[.func (.func 43) #[] #[.pointer (some ⟨w.heap.size,0,none⟩),.pointer (some ⟨w.heap.size+1+1,0,none⟩)]] (((w.alloc (.cells #[.pointer (some ⟨P,0,none⟩)] 81)).alloc (.cells ((wd::xs).map aL).toArray 9)).alloc (.cells #[.slice (some ⟨w.heap.size+1,0,none⟩) (xs.length+1) (xs.length+1)] 55)) fun e w'=>match qH m l bg S wd xs with
  | .ok p=>e=.returned (.tuple #[aL p.1,.int .i64 0])∧∃(ba:Option Addr) (bc:Nat) (q2:Q4) (D2:Nat→Prop),Clk P D2 m la lc l ba bc p.2.1 q2 p.2.2 w'∧(∀b,D2 b→D b∨w.heap.size≤b)∧w.grownBy w' (some P)
  | .error z=>e=.returned (.tuple #[.string ⟨#[]⟩,.int .i64 z])∧¬z=0∧Below w.heap.size w w':=by
 have hPl:=h.pl
 obtain⟨U1,hU1⟩:∃U:World,U=(w.alloc (.cells #[.pointer (some ⟨P,0,none⟩)] 81)):=⟨_,rfl⟩
 obtain⟨U2,hU2⟩:∃U:World,U=U1.alloc (.cells ((wd::xs).map aL).toArray 9):=⟨_,rfl⟩
 obtain⟨U3,hU3⟩:∃U:World,U=U2.alloc (.cells #[.slice (some ⟨w.heap.size+1,0,none⟩) (xs.length+1) (xs.length+1)] 55):=⟨_,rfl⟩
 obtain⟨U4,hU4⟩:∃U:World,U=U3.alloc (.cells #[.int .i64 0] 22):=⟨_,rfl⟩
 have s1:U1.heap.size=w.heap.size+1:=by rw[hU1];simp
 have s2:U2.heap.size=w.heap.size+1+1:=by rw[hU2];simp[s1]
 have s3:U3.heap.size=w.heap.size+1+1+1:=by rw[hU3];simp[s2]
 have s4:U4.heap.size=w.heap.size+1+1+1+1:=by rw[hU4];simp[s3]
 have b1:Below w.heap.size w U1:=by rw[hU1];exact aA (Below.refl _ _) _
 have b12:Below U1.heap.size U1 U2:=by rw[hU2];exact aA (Below.refl _ _) _
 have b23:Below U2.heap.size U2 U3:=by rw[hU3];exact aA (Below.refl _ _) _
 have b34:Below U3.heap.size U3 U4:=by rw[hU4];exact aA (Below.refl _ _) _
 have b24:=aC b23 b34
 have b14:=aC b12 b24
 have b04:=aC b1 b14
 have b03:=aC b1 (aC b12 b23)
 have c0:U1.cell? ⟨w.heap.size,0,none⟩=some (.pointer (some ⟨P,0,none⟩)):=by rw[hU1];exact aG _ _ 81 _ 0 _ rfl rfl
 have cS:IsStrs U2 (some ⟨w.heap.size+1,0,none⟩) (wd::xs):=by
  rw[hU2,←s1];exact pE U1 (wd::xs)
 have c1:U3.cell? ⟨w.heap.size+1+1,0,none⟩=some (.slice (some ⟨w.heap.size+1,0,none⟩) (xs.length+1) (xs.length+1)):=by
  rw[hU3];exact aG _ _ 55 _ 0 _ s2.symm rfl
 have c2:U2.cell? ⟨w.heap.size+1,0,none⟩=some (aL wd):=by
  obtain⟨b,off,e,_,hc⟩:=cS 0 (by simp)
  injection e with e
  injection e with e1 e2
  subst e1 e2
  exact hc
 have CA:=clkAns1 P D m la lc l ba bc bg q S U4 wd xs w.heap.size (w.heap.size+1+1) (w.heap.size+1) ⟨by omega,by omega⟩ ⟨by omega,by omega⟩ ⟨by omega,by omega⟩ (aB b14 c0) (aB b34 c1) (aB b24 c2) _ (slc1 (w.heap.size+1) xs.length) (fun ad e=>by
  split at e <;> (injection e with e;subst e;show w.heap.size+1≠P;omega)) (cS.below b24).tail1 hl (h.on b04) hk (hs2 U4 (b04.mono (Nat.le_of_lt hPl))) (fun w2 h2=>hs2 w2 ((b04.mono (Nat.le_of_lt hPl)).trans h2))
 have eW:(((w.alloc (.cells #[.pointer (some ⟨P,0,none⟩)] 81)).alloc (.cells ((wd::xs).map aL).toArray 9)).alloc (.cells #[.slice (some ⟨w.heap.size+1,0,none⟩) (xs.length+1) (xs.length+1)] 55))=U3:=by rw[hU3,hU2,hU1]
 rw[eW]
 cases hr:qH m l bg S wd xs with
 | ok p=>
  rw[hr]at CA
  refine(caughtW_ret 43 _ (fun _=>rfl) (fun v w'=>v=aL p.1∧∃(ba:Option Addr) (bc:Nat) (q2:Q4) (D2:Nat→Prop),Clk P D2 m la lc l ba bc p.2.1 q2 p.2.2 w'∧(∀b,D2 b→D b∨U4.heap.size≤b)) P U3 (by omega) (fun v w' hv hg=>?_) ?_).mono ?_
  ·obtain⟨rfl,ba,bc,q2,D2,hc,hd⟩:=hv
   refine⟨rfl,ba,bc,q2,D2,hc.frame (iL _ _ _ _ _ (by omega)) ⟨rfl,rfl,rfl,by rw[World.size_setCell];exact Nat.le_refl _,fun b hb=>iL _ _ _ _ _ (by omega)⟩ (fun b hb=>iL _ _ _ _ _ ?_),hd⟩
   rcases hd b hb with hh | hh
   ·have:=(h.dl b hh).2;omega
   ·omega
  ·rw[←hU4]
   exact CA.mono fun e w' ⟨he,ba,bc,q2,D2,hc,hd,hg⟩=>⟨_,he,⟨rfl,ba,bc,q2,D2,hc,hd⟩,hg⟩
  ·rintro e w' ⟨v,rfl,⟨rfl,ba,bc,q2,D2,hc,hd⟩,hg⟩
   exact⟨rfl,ba,bc,q2,D2,hc,fun b hb=>(hd b hb).elim .inl (fun hh=>.inr (by omega)),cR (aX b03) hg⟩
 | error z=>
  rw[hr]at CA
  refine(cond_pan U3 z hU4 (by have:=hE z hr;omega) CA).mono ?_
  rintro e w' ⟨⟨rfl,hb⟩,hz⟩
  exact⟨rfl,hz,aC b03 hb⟩
end
end
section
section
variable (P:Nat) (D:Nat→Prop) (m:Int) (la:Option Addr) (lc:Nat) (l:List TxA) (ba:Option Addr) (bc:Nat) (bg:List Int) (q:Q4) (S:SA) (w:World)
theorem clkAnswer (x:List UInt8) (hx:x.length≤4096) (h:Clk P D m la lc l ba bc bg q S w) (hk:OkDesk m l bg S) (hE:∀wd xs z,qH m l bg S wd xs=.error z→0<z∧z≤100) (hs:Std w) (hs2:∀w',Below P w w'→Std w'):Calls Tryz.prog 21 #[.pointer (some ⟨P,0,none⟩),aL x] w fun e w'=>AnsF P D m la lc l w (gT m l bg S x) e w':=by
 have hmf:∀(fn:Fn) (first cap:Array Value) (w:World),(Instr.makeFunc fn first cap).run Tryz.prog w=.ok (.func fn first cap) w:=fun _ _ _ _=>rfl
 have H:=aJ h
 have hsl:=mX 32 x
 have hml:=kQ 32 x
 obtain⟨wd,xs,hsp⟩:∃wd xs,gI 32 x=wd::xs:=by
  cases hh:gI 32 x with
  | nil=>exact absurd hh (spl_ne 32 x)
  | cons a t=>exact⟨a,t,rfl⟩
 have hcn:x.count 32=xs.length:=by rw[hsp,List.length_cons]at hsl;omega
 have eA:gT m l bg S x=(match qH m l bg S wd xs with
  | .ok p=>p
  | .error z=>([101,114,114,111,114,32]++cY z,bg,S)):=by unfold gT;rw[hsp];rfl
 have C1:Hid (Calls Tryz.prog 41 #[aL x,.string ⟨#[32]⟩] (w.alloc (.cells #[.pointer (some ⟨P,0,none⟩)] 81)) fun e w'=>e=.returned (.slice (some ⟨w.heap.size+1,0,none⟩) (xs.length+1) (xs.length+1))∧w'=((w.alloc (.cells #[.pointer (some ⟨P,0,none⟩)] 81)).alloc (.cells ((wd::xs).map aL).toArray 9))):=by
  have hh:=split_q x hx 32 (w.alloc (.cells #[.pointer (some ⟨P,0,none⟩)] 81)) (hs.on (aA (Below.refl _ _) _))
  rw[hsp,hcn]at hh
  have e1:(w.alloc (.cells #[.pointer (some ⟨P,0,none⟩)] 81)).heap.size=w.heap.size+1:=by simp
  rw[e1]at hh
  exact hh
 have CC:=aJ (clkCaught P D m la lc l ba bc bg q S w wd xs (fun y hy=>Nat.le_trans (hml y (by rw[hsp];simp[hy])) hx) h hk (hE wd xs) hs2)
 have HE:=aJ (hE wd xs)
 have S2:=aJ hs2
 have S0:=aJ hs
 have hPl:=aJ h.pl
 rw[eA]
 clear h hk hE hs hs2 hsl hml hsp hcn eA
 cases hr:qH m l bg S wd xs with
 | ok p=>
  rw[hr]at CC
  clear hr HE
  go_enter Tryz.func21,Tryz.ntmps21
  go_wp2_with fail
  refine C1.out.mono ?_
  rintro e w2 ⟨rfl,rfl⟩
  clear C1
  go_wp2_with fail
  refine CC.out.mono ?_
  rintro e w3 ⟨rfl,hq⟩
  have HQ:=aJ hq
  clear hq CC
  go_wp2
  go_ret
  exact⟨rfl,HQ.out⟩
 | error z=>
  have hz:=HE.out z hr
  rw[hr]at CC
  clear hr HE
  have f1:=cat1 [101,114,114,111,114,32] (cY z) (by have:=uU (n:=z) (by omega) (by omega);simp;omega)
  have CI:Hid (∀w:World,Std w→Calls Tryz.prog 45 #[.int .i64 z] w fun e w'=>e=.returned (aL (cY z))∧Below w.heap.size w w'):=fun w hs=>oQ z (by omega) (by omega) w hs
  have hz0:¬z=0:=by omega
  obtain⟨T,hT⟩:∃T,T=cY z:=⟨_,rfl⟩
  rw[←hT]at f1 CI
  have HT:=aJ hT
  clear hT
  go_enter Tryz.func21,Tryz.ntmps21
  go_wp2_with fail
  refine C1.out.mono ?_
  rintro e w2 ⟨rfl,rfl⟩
  clear C1
  go_wp2_with fail
  refine CC.out.mono ?_
  rintro e w3 ⟨rfl,_,hb⟩
  have B3:=aJ hb
  clear hb CC
  go_wp2_with fail
  refine(CI.out _ (S0.out.on B3.out)).mono ?_
  rintro e w4 ⟨rfl,hb4⟩
  have B4:Hid (Below w.heap.size w w4):=aC B3.out hb4
  clear hb4 CI
  go_wp2
  go_ret
  exact⟨by have hh:=HT.out;subst hh;rfl,ba,bc,q,D,H.out.on B4.out,fun b h=>.inl h,aX B4.out⟩
end
end
end Go.Proofs.YtcgpkonfneofdaaGreatDoor
