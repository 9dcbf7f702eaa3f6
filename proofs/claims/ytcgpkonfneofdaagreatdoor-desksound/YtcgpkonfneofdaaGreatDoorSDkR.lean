/- Conditions: those that each theorem states. -/
import Derived.Test.YtcgpkonfneofdaaGreatDoorSDkP
set_option maxRecDepth 100000
set_option maxHeartbeats 8000000
namespace Go.Proofs.YtcgpkonfneofdaaGreatDoor
open Go.RowKit
section
def cV (m:Int) (l:List TxA) (bg:List Int) (S:SA) (x a b:List UInt8):Except Int (List UInt8×List Int×SA):=
 if x=[112,117,116] then (match mM a,jX b with
  | some k,some v=>if 8≤k then .error 3 else .ok ([111,107],S.st.set k.toNat v,cA m l (S.st.set k.toNat v))
  | _,_=>.error 1)
 else if x=[114,101,97,100] then (match mM a,mM b with
  | some n,some k=>if kX m l S 1 n k=0 then .ok ([111,107],bg,pV m l S 1 n k) else .error (kX m l S 1 n k)
  | _,_=>.error 1)
 else if x=[119,114,105,116,101] then (match mM a,mM b with
  | some n,some k=>if kX m l S 2 n k=0 then .ok ([111,107],bg,pV m l S 2 n k) else .error (kX m l S 2 n k)
  | _,_=>.error 1)
 else .error 1
def AnsP (P:Nat) (D:Nat→Prop) (m:Int) (la:Option Addr) (lc:Nat) (l:List TxA) (w:World) (r:Except Int (List UInt8×List Int×SA)) (e:Ending) (w':World):Prop:=match r with
 | .ok p=>e=.returned (aL p.1)∧∃(ba:Option Addr) (bc:Nat) (q2:Q4) (D2:Nat→Prop),Clk P D2 m la lc l ba bc p.2.1 q2 p.2.2 w'∧(∀b,D2 b→D b∨w.heap.size≤b)∧w.grownBy w' (some P)
 | .error x=>e=.panicked [{v:=.iface 22 (.int .i64 x),recovered:=false}]∧¬x=0∧Below w.heap.size w w'
section
variable (P:Nat) (D:Nat→Prop) (m:Int) (la:Option Addr) (lc:Nat) (l:List TxA) (ba:Option Addr) (bc:Nat) (bg:List Int) (q:Q4) (S:SA) (w:World)
theorem clkChange (x a b:List UInt8) (ha:a.length≤4096) (hb:b.length≤4096) (h:Clk P D m la lc l ba bc bg q S w) (hk:OkDesk m l bg S) (hs:Std w):Calls Tryz.prog 83 #[.pointer (some ⟨P,0,none⟩),aL x,aL a,aL b] w fun e w'=>AnsP P D m la lc l w (cV m l bg S x a b) e w':=by
 have H:=aJ h
 have HK:=aJ hk
 have S0:=aJ hs
 clear h hk hs
 by_cases h1:x=[112,117,116]
 ·subst h1
  cases ha1:mM a with
  | none=>
   have C1:Hid (∀w:World,Std w→Calls Tryz.prog 121 #[aL a] w fun e w'=>e=.panicked [{v:=.iface 22 (.int .i64 1),recovered:=false}]∧Below w.heap.size w w'):=fun w hs=>fA a ha ha1 w hs
   have e1:cV m l bg S [112,117,116] a b=.error 1:=by simp[cV,ha1]
   rw[e1]
   clear e1 ha1
   go_enter Tryz.func83,Tryz.ntmps83
   go_wp2_with fail
   refine(C1.out _ S0.out).mono ?_
   rintro e w1 ⟨rfl,hb1⟩
   have B1:Hid (Below w.heap.size w w1):=hb1
   clear hb1
   go_wp2
   exact⟨rfl,rfl,by decide,B1.out⟩
  | some k=>
   have hk0:=(jK ha1).2
   have C1:Hid (∀w:World,Std w→Calls Tryz.prog 121 #[aL a] w fun e w'=>e=.returned (.int .i64 k)∧Below w.heap.size w w'):=fun w hs=>dZ a ha k ha1 w hs
   cases hb1:jX b with
   | none=>
    have C2:Hid (∀w:World,Std w→Calls Tryz.prog 122 #[aL b] w fun e w'=>e=.panicked [{v:=.iface 22 (.int .i64 1),recovered:=false}]∧Below w.heap.size w w'):=fun w hs=>pC b hb hb1 w hs
    have e1:cV m l bg S [112,117,116] a b=.error 1:=by simp[cV,ha1,hb1]
    rw[e1]
    clear e1 ha1 hb1
    go_enter Tryz.func83,Tryz.ntmps83
    go_wp2_with fail
    refine(C1.out _ S0.out).mono ?_
    rintro e w1 ⟨rfl,hb1⟩
    have B1:Hid (Below w.heap.size w w1):=hb1
    clear hb1
    go_wp2_with fail
    refine(C2.out _ (S0.out.on B1.out)).mono ?_
    rintro e w2 ⟨rfl,hb2⟩
    have B2:Hid (Below w.heap.size w w2):=aC B1.out hb2
    clear hb2
    go_wp2
    exact⟨rfl,rfl,by decide,B2.out⟩
   | some v=>
    have C2:Hid (∀w:World,Std w→Calls Tryz.prog 122 #[aL b] w fun e w'=>e=.returned (.int .i64 v)∧Below w.heap.size w w'):=fun w hs=>mA b hb v hb1 w hs
    obtain⟨n,rfl⟩:∃n:Nat,k=(n:Int):=⟨k.toNat,by omega⟩
    by_cases h8:8≤n
    ·have e1:cV m l bg S [112,117,116] a b=.error 3:=by
      rw[cV,if_pos rfl,ha1,hb1]
      exact if_pos (show (8:Int)≤(n:Int) by omega)
     rw[e1]
     clear e1
     clear ha1 hb1
     go_enter Tryz.func83,Tryz.ntmps83
     go_wp2_with fail
     refine(C1.out _ S0.out).mono ?_
     rintro e w1 ⟨rfl,hb1⟩
     have B1:Hid (Below w.heap.size w w1):=hb1
     clear hb1
     go_wp2_with fail
     refine(C2.out _ (S0.out.on B1.out)).mono ?_
     rintro e w2 ⟨rfl,hb2⟩
     have B2:Hid (Below w.heap.size w w2):=aC B1.out hb2
     clear hb2
     have HZ:Hid (¬(3:Int)=0):=by show ¬_;decide
     have CX:=aJ (clkPut_bad P w2 n v h8)
     go_wp2_with fail
     refine CX.out.mono ?_
     rintro e w3 ⟨rfl,hb3⟩
     have B3:Hid (Below w.heap.size w w3):=aC B2.out hb3
     clear hb3 CX
     go_wp2
     exact⟨rfl,rfl,HZ.out,B3.out⟩
    ·have e1:cV m l bg S [112,117,116] a b=.ok ([111,107],S.st.set n v,cA m l (S.st.set n v)):=by
      rw[cV,if_pos rfl,ha1,hb1]
      exact if_neg (show ¬(8:Int)≤(n:Int) by omega)
     rw[e1]
     clear e1
     clear ha1 hb1
     go_enter Tryz.func83,Tryz.ntmps83
     go_wp2_with fail
     refine(C1.out _ S0.out).mono ?_
     rintro e w1 ⟨rfl,hb1⟩
     have B1:Hid (Below w.heap.size w w1):=hb1
     clear hb1
     go_wp2_with fail
     refine(C2.out _ (S0.out.on B1.out)).mono ?_
     rintro e w2 ⟨rfl,hb2⟩
     have B2:Hid (Below w.heap.size w w2):=aC B1.out hb2
     clear hb2
     have CX:=aJ (clkPut_ok P D m la lc l ba bc bg q S w2 n v (by omega) HK.out.s8 (H.out.on B2.out) (HK.out.pl n v))
     go_wp2_with fail
     refine CX.out.mono ?_
     rintro e w3 ⟨rfl,hq⟩
     have HQ:=aJ hq
     clear hq CX
     go_wp2
     go_ret
     obtain⟨sa,sc,q2,D2,hc,hd,hg⟩:=HQ.out
     exact⟨rfl,sa,sc,q2,D2,hc,fun b h=>(hd b h).elim .inl (fun h=>.inr (Nat.le_trans B2.out.size h)),cR (aX B2.out) hg⟩
 have h0:=h1
 clear h1
 by_cases h1:x=[114,101,97,100]
 ·subst h1
  cases ha1:mM a with
  | none=>
   have C1:Hid (∀w:World,Std w→Calls Tryz.prog 121 #[aL a] w fun e w'=>e=.panicked [{v:=.iface 22 (.int .i64 1),recovered:=false}]∧Below w.heap.size w w'):=fun w hs=>fA a ha ha1 w hs
   have e1:cV m l bg S [114,101,97,100] a b=.error 1:=by simp[cV,ha1]
   rw[e1]
   clear e1 ha1
   go_enter Tryz.func83,Tryz.ntmps83
   go_wp2_with fail
   refine(C1.out _ S0.out).mono ?_
   rintro e w1 ⟨rfl,hb1⟩
   have B1:Hid (Below w.heap.size w w1):=hb1
   clear hb1
   go_wp2
   exact⟨rfl,rfl,by decide,B1.out⟩
  | some k=>
   have hk0:=(jK ha1).2
   have C1:Hid (∀w:World,Std w→Calls Tryz.prog 121 #[aL a] w fun e w'=>e=.returned (.int .i64 k)∧Below w.heap.size w w'):=fun w hs=>dZ a ha k ha1 w hs
   cases hb1:mM b with
   | none=>
    have C2:Hid (∀w:World,Std w→Calls Tryz.prog 121 #[aL b] w fun e w'=>e=.panicked [{v:=.iface 22 (.int .i64 1),recovered:=false}]∧Below w.heap.size w w'):=fun w hs=>fA b hb hb1 w hs
    have e1:cV m l bg S [114,101,97,100] a b=.error 1:=by simp[cV,ha1,hb1]
    rw[e1]
    clear e1 ha1 hb1
    go_enter Tryz.func83,Tryz.ntmps83
    go_wp2_with fail
    refine(C1.out _ S0.out).mono ?_
    rintro e w1 ⟨rfl,hb1⟩
    have B1:Hid (Below w.heap.size w w1):=hb1
    clear hb1
    go_wp2_with fail
    refine(C2.out _ (S0.out.on B1.out)).mono ?_
    rintro e w2 ⟨rfl,hb2⟩
    have B2:Hid (Below w.heap.size w w2):=aC B1.out hb2
    clear hb2
    go_wp2
    exact⟨rfl,rfl,by decide,B2.out⟩
   | some v=>
    have C2:Hid (∀w:World,Std w→Calls Tryz.prog 121 #[aL b] w fun e w'=>e=.returned (.int .i64 v)∧Below w.heap.size w w'):=fun w hs=>dZ b hb v hb1 w hs
    by_cases hz:kX m l S 1 k v=0
    ·have e1:cV m l bg S [114,101,97,100] a b=.ok ([111,107],bg,pV m l S 1 k v):=by simp[cV,ha1,hb1,hz]
     rw[e1]
     have HZ:=aJ hz
     clear e1 hz
     clear ha1 hb1
     go_enter Tryz.func83,Tryz.ntmps83
     go_wp2_with fail
     refine(C1.out _ S0.out).mono ?_
     rintro e w1 ⟨rfl,hb1⟩
     have B1:Hid (Below w.heap.size w w1):=hb1
     clear hb1
     go_wp2_with fail
     refine(C2.out _ (S0.out.on B1.out)).mono ?_
     rintro e w2 ⟨rfl,hb2⟩
     have B2:Hid (Below w.heap.size w w2):=aC B1.out hb2
     clear hb2
     have CX:=aJ (tG P D m la lc l ba bc bg q S w2 1 k v (H.out.on B2.out) HZ.out)
     go_wp2_with fail
     refine CX.out.mono ?_
     rintro e w3 ⟨rfl,hq⟩
     have HQ:=aJ hq
     clear hq CX
     go_wp2
     go_ret
     obtain⟨q2,D2,hc,hd,hg⟩:=HQ.out
     exact⟨rfl,ba,bc,q2,D2,hc,fun b h=>(hd b h).elim .inl (fun h=>.inr (Nat.le_trans B2.out.size h)),cR (aX B2.out) hg⟩
    ·have e1:cV m l bg S [114,101,97,100] a b=.error (kX m l S 1 k v):=by simp[cV,ha1,hb1,hz]
     rw[e1]
     have HZ:=aJ hz
     clear e1 hz
     clear ha1 hb1
     go_enter Tryz.func83,Tryz.ntmps83
     go_wp2_with fail
     refine(C1.out _ S0.out).mono ?_
     rintro e w1 ⟨rfl,hb1⟩
     have B1:Hid (Below w.heap.size w w1):=hb1
     clear hb1
     go_wp2_with fail
     refine(C2.out _ (S0.out.on B1.out)).mono ?_
     rintro e w2 ⟨rfl,hb2⟩
     have B2:Hid (Below w.heap.size w w2):=aC B1.out hb2
     clear hb2
     have CX:=aJ (vN P D m la lc l ba bc bg q S w2 1 k v (H.out.on B2.out) HZ.out)
     go_wp2_with fail
     refine CX.out.mono ?_
     rintro e w3 ⟨rfl,hb3⟩
     have B3:Hid (Below w.heap.size w w3):=aC B2.out hb3
     clear hb3 CX
     go_wp2
     exact⟨rfl,rfl,HZ.out,B3.out⟩
 have h2:=h1
 clear h1
 by_cases h1:x=[119,114,105,116,101]
 ·subst h1
  cases ha1:mM a with
  | none=>
   have C1:Hid (∀w:World,Std w→Calls Tryz.prog 121 #[aL a] w fun e w'=>e=.panicked [{v:=.iface 22 (.int .i64 1),recovered:=false}]∧Below w.heap.size w w'):=fun w hs=>fA a ha ha1 w hs
   have e1:cV m l bg S [119,114,105,116,101] a b=.error 1:=by simp[cV,ha1]
   rw[e1]
   clear e1 ha1
   go_enter Tryz.func83,Tryz.ntmps83
   go_wp2_with fail
   refine(C1.out _ S0.out).mono ?_
   rintro e w1 ⟨rfl,hb1⟩
   have B1:Hid (Below w.heap.size w w1):=hb1
   clear hb1
   go_wp2
   exact⟨rfl,rfl,by decide,B1.out⟩
  | some k=>
   have hk0:=(jK ha1).2
   have C1:Hid (∀w:World,Std w→Calls Tryz.prog 121 #[aL a] w fun e w'=>e=.returned (.int .i64 k)∧Below w.heap.size w w'):=fun w hs=>dZ a ha k ha1 w hs
   cases hb1:mM b with
   | none=>
    have C2:Hid (∀w:World,Std w→Calls Tryz.prog 121 #[aL b] w fun e w'=>e=.panicked [{v:=.iface 22 (.int .i64 1),recovered:=false}]∧Below w.heap.size w w'):=fun w hs=>fA b hb hb1 w hs
    have e1:cV m l bg S [119,114,105,116,101] a b=.error 1:=by simp[cV,ha1,hb1]
    rw[e1]
    clear e1 ha1 hb1
    go_enter Tryz.func83,Tryz.ntmps83
    go_wp2_with fail
    refine(C1.out _ S0.out).mono ?_
    rintro e w1 ⟨rfl,hb1⟩
    have B1:Hid (Below w.heap.size w w1):=hb1
    clear hb1
    go_wp2_with fail
    refine(C2.out _ (S0.out.on B1.out)).mono ?_
    rintro e w2 ⟨rfl,hb2⟩
    have B2:Hid (Below w.heap.size w w2):=aC B1.out hb2
    clear hb2
    go_wp2
    exact⟨rfl,rfl,by decide,B2.out⟩
   | some v=>
    have C2:Hid (∀w:World,Std w→Calls Tryz.prog 121 #[aL b] w fun e w'=>e=.returned (.int .i64 v)∧Below w.heap.size w w'):=fun w hs=>dZ b hb v hb1 w hs
    by_cases hz:kX m l S 2 k v=0
    ·have e1:cV m l bg S [119,114,105,116,101] a b=.ok ([111,107],bg,pV m l S 2 k v):=by simp[cV,ha1,hb1,hz]
     rw[e1]
     have HZ:=aJ hz
     clear e1 hz
     clear ha1 hb1
     go_enter Tryz.func83,Tryz.ntmps83
     go_wp2_with fail
     refine(C1.out _ S0.out).mono ?_
     rintro e w1 ⟨rfl,hb1⟩
     have B1:Hid (Below w.heap.size w w1):=hb1
     clear hb1
     go_wp2_with fail
     refine(C2.out _ (S0.out.on B1.out)).mono ?_
     rintro e w2 ⟨rfl,hb2⟩
     have B2:Hid (Below w.heap.size w w2):=aC B1.out hb2
     clear hb2
     have CX:=aJ (tG P D m la lc l ba bc bg q S w2 2 k v (H.out.on B2.out) HZ.out)
     go_wp2_with fail
     refine CX.out.mono ?_
     rintro e w3 ⟨rfl,hq⟩
     have HQ:=aJ hq
     clear hq CX
     go_wp2
     go_ret
     obtain⟨q2,D2,hc,hd,hg⟩:=HQ.out
     exact⟨rfl,ba,bc,q2,D2,hc,fun b h=>(hd b h).elim .inl (fun h=>.inr (Nat.le_trans B2.out.size h)),cR (aX B2.out) hg⟩
    ·have e1:cV m l bg S [119,114,105,116,101] a b=.error (kX m l S 2 k v):=by simp[cV,ha1,hb1,hz]
     rw[e1]
     have HZ:=aJ hz
     clear e1 hz
     clear ha1 hb1
     go_enter Tryz.func83,Tryz.ntmps83
     go_wp2_with fail
     refine(C1.out _ S0.out).mono ?_
     rintro e w1 ⟨rfl,hb1⟩
     have B1:Hid (Below w.heap.size w w1):=hb1
     clear hb1
     go_wp2_with fail
     refine(C2.out _ (S0.out.on B1.out)).mono ?_
     rintro e w2 ⟨rfl,hb2⟩
     have B2:Hid (Below w.heap.size w w2):=aC B1.out hb2
     clear hb2
     have CX:=aJ (vN P D m la lc l ba bc bg q S w2 2 k v (H.out.on B2.out) HZ.out)
     go_wp2_with fail
     refine CX.out.mono ?_
     rintro e w3 ⟨rfl,hb3⟩
     have B3:Hid (Below w.heap.size w w3):=aC B2.out hb3
     clear hb3 CX
     go_wp2
     exact⟨rfl,rfl,HZ.out,B3.out⟩
 ·have e1:cV m l bg S x a b=.error 1:=by rw[cV,if_neg h0,if_neg h2,if_neg h1]
  rw[e1]
  have m1:=jY h0
  have m2:=jY h1
  have m3:=jY h2
  have CC:=aJ (mL w)
  clear h0 h1 h2 e1
  unfold aL
  generalize ByteArray.mk x.toArray=X at *
  go_enter Tryz.func83,Tryz.ntmps83
  go_wp2_with fail
  refine CC.out.mono ?_
  rintro e w1 ⟨rfl,hb1⟩
  have B1:=aJ hb1
  clear hb1 CC
  go_wp2
  exact⟨rfl,rfl,by decide,B1.out⟩
end
end
section
def qH (m:Int) (l:List TxA) (bg:List Int) (S:SA) (x:List UInt8):List (List UInt8)→Except Int (List UInt8×List Int×SA)
 | []=>(eC m l bg S x).map fun p=>(p.1,bg,p.2)
 | [a,b]=>cV m l bg S x a b
 | _=>.error 1
section
variable (P:Nat) (D:Nat→Prop) (m:Int) (la:Option Addr) (lc:Nat) (l:List TxA) (ba:Option Addr) (bc:Nat) (bg:List Int) (q:Q4) (S:SA) (w:World)
theorem clkObey0 (x:List UInt8) (na:Option Addr) (nc:Nat) (h:Clk P D m la lc l ba bc bg q S w) (hk:OkDesk m l bg S) (hs:Std w) (hs2:∀w',Below P w w'→Std w'):Calls Tryz.prog 44 #[.pointer (some ⟨P,0,none⟩),aL x,.slice na 0 nc] w fun e w'=>AnsP P D m la lc l w (qH m l bg S x []) e w':=by
 have CT:=clkTell P D m la lc l ba bc bg q S w x h hk hs hs2
 cases hr:eC m l bg S x with
 | ok p=>
  have e1:qH m l bg S x []=.ok (p.1,bg,p.2):=by simp[qH,hr,Except.map]
  rw[e1]
  rw[hr]at CT
  have CX:Hid (Calls Tryz.prog 82 #[.pointer (some ⟨P,0,none⟩),aL x] w fun e w'=>e=.returned (aL p.1)∧∃(q2:Q4) (D2:Nat→Prop),Clk P D2 m la lc l ba bc bg q2 p.2 w'∧(∀b,D2 b→D b∨w.heap.size≤b)∧w.grownBy w' (some P)):=CT
  clear CT hr e1 h hk hs hs2
  go_enter Tryz.func44,Tryz.ntmps44
  go_wp2_with fail
  refine CX.out.mono ?_
  rintro e w1 ⟨rfl,hq⟩
  have HQ:=aJ hq
  clear hq CX
  go_wp2
  go_ret
  obtain⟨q2,D2,hc,hd,hg⟩:=HQ.out
  exact⟨rfl,ba,bc,q2,D2,hc,hd,hg⟩
 | error z=>
  have e1:qH m l bg S x []=.error z:=by simp[qH,hr,Except.map]
  rw[e1]
  rw[hr]at CT
  have CX:Hid (Calls Tryz.prog 82 #[.pointer (some ⟨P,0,none⟩),aL x] w fun e w'=>e=.panicked [{v:=.iface 22 (.int .i64 z),recovered:=false}]∧Hid (¬z=0∧Below w.heap.size w w')):=CT
  clear CT hr e1 h hk hs hs2
  go_enter Tryz.func44,Tryz.ntmps44
  go_wp2_with fail
  refine CX.out.mono ?_
  rintro e w1 ⟨rfl,hq⟩
  clear CX
  go_wp2
  exact⟨rfl,rfl,hq.out⟩
theorem clkObey2 (x a b:List UInt8) (ha:a.length≤4096) (hb:b.length≤4096) (nb no nc:Nat) (hnb:nb<w.heap.size) (hnP:nb≠P) (n0:w.cell? ⟨nb,no,none⟩=some (aL a)) (n1:w.cell? ⟨nb,no+1,none⟩=some (aL b)) (h:Clk P D m la lc l ba bc bg q S w) (hk:OkDesk m l bg S) (hs:Std w):Calls Tryz.prog 44 #[.pointer (some ⟨P,0,none⟩),aL x,.slice (some ⟨nb,no,none⟩) 2 nc] w fun e w'=>AnsP P D m la lc l w (cV m l bg S x a b) e w':=by
 have KS:Hid (∀w',w.grownBy w' (some P)→w'.cell? ⟨nb,no,none⟩=some (aL a)∧w'.cell? ⟨nb,no+1,none⟩=some (aL b)):=fun w' hg=>by
  have e:w'.heap[nb]?=w.heap[nb]?:=hg.block nb hnb (fun e=>by injection e with e;exact hnP e)
  exact⟨(World.cell?_of_block (a:=⟨nb,no,none⟩) e).trans n0,(World.cell?_of_block (a:=⟨nb,no+1,none⟩) e).trans n1⟩
 have CT:∀w',Below w.heap.size w w'→Calls Tryz.prog 83 #[.pointer (some ⟨P,0,none⟩),aL x,aL a,aL b] w' fun e w''=>AnsP P D m la lc l w' (cV m l bg S x a b) e w'':=fun w' hb'=>clkChange P D m la lc l ba bc bg q S w' x a b ha hb (h.on hb') hk (hs.on hb')
 cases hr:cV m l bg S x a b with
 | ok p=>
  rw[hr]at CT
  have CX:Hid (∀w',Below w.heap.size w w'→Calls Tryz.prog 83 #[.pointer (some ⟨P,0,none⟩),aL x,aL a,aL b] w' fun e w''=>e=.returned (aL p.1)∧∃(ba:Option Addr) (bc:Nat) (q2:Q4) (D2:Nat→Prop),Clk P D2 m la lc l ba bc p.2.1 q2 p.2.2 w''∧(∀b,D2 b→D b∨w.heap.size≤b)∧w.grownBy w'' (some P)):=fun w' hb'=>(CT w' hb').mono fun e w'' ⟨he,ba,bc,q2,D2,hc,hd,hg⟩=>⟨he,ba,bc,q2,D2,hc,fun b h=>(hd b h).elim .inl (fun h=>.inr (Nat.le_trans hb'.size h)),cR (aX hb') hg⟩
  clear CT hr h hk hs n0 n1 hnb hnP ha hb
  unfold aL at *
  go_enter Tryz.func44,Tryz.ntmps44
  go_upto_region 5 with fail
  refine wp_region_held_drew (S:=(fun w'=>w'.cell? ⟨nb,no,none⟩=some (aL a)∧w'.cell? ⟨nb,no+1,none⟩=some (aL b))) (by kernel_rfl) ?_ (fun hHeld=>?_)
  ·exact KS.out _ (aX (aD (Below.refl _ _)))
  refine tk 0 ?_
  refine tk 1 ?_
  refine tk 2 ?_
  refine tk 3 ?_
  refine tk 4 ?_
  refine tk 5 ?_
  refine tk 6 ?_
  refine tk 7 ?_
  refine r1 8 (fun K hK=>?_)
  go_simp
  go_wp2_with (go_at_call 83;refine(CX.out _ (aD (Below.refl _ _))).mono ?_;rintro e w1 ⟨rfl,hq⟩)
  have HQ:=aJ hq
  clear hq
  clear hHeld
  refine hK.out _ _ (KS.out _ HQ.out.choose_spec.choose_spec.choose_spec.choose_spec.2.2) (fun hHeld=>?_)
  clear hK K
  refine tk 9 ?_
  refine wpAnyH_done (by kernel_rfl) ?_ _
  clear hHeld
  go_wp2
  go_ret
  exact⟨rfl,HQ.out⟩
 | error z=>
  rw[hr]at CT
  have CX:Hid (∀w',Below w.heap.size w w'→Calls Tryz.prog 83 #[.pointer (some ⟨P,0,none⟩),aL x,aL a,aL b] w' fun e w''=>e=.panicked [{v:=.iface 22 (.int .i64 z),recovered:=false}]∧¬z=0∧Below w.heap.size w w''):=fun w' hb'=>(CT w' hb').mono fun e w'' ⟨he,hz,hg⟩=>⟨he,hz,aC hb' hg⟩
  clear CT hr h hk hs n0 n1 hnb hnP ha hb
  unfold aL at *
  go_enter Tryz.func44,Tryz.ntmps44
  go_upto_region 5 with fail
  refine wp_region_held_drew (S:=(fun w'=>w'.cell? ⟨nb,no,none⟩=some (aL a)∧w'.cell? ⟨nb,no+1,none⟩=some (aL b))) (by kernel_rfl) ?_ (fun hHeld=>?_)
  ·exact KS.out _ (aX (aD (Below.refl _ _)))
  refine tk 0 ?_
  refine tk 1 ?_
  refine tk 2 ?_
  refine tk 3 ?_
  refine tk 4 ?_
  refine tk 5 ?_
  refine tk 6 ?_
  refine tk 7 ?_
  refine r1 8 (fun K hK=>?_)
  go_simp
  go_wp2_with (go_at_call 83;refine(CX.out _ (aD (Below.refl _ _))).mono ?_;rintro e w1 ⟨rfl,hn1,hb1⟩)
  exact⟨rfl,rfl,hn1,hb1⟩
theorem clkObeyX (x:List UInt8) (na:Option Addr) (n nc:Nat) (h0:¬n=0) (h2:¬n=2):Calls Tryz.prog 44 #[.pointer (some ⟨P,0,none⟩),aL x,.slice na n nc] w fun e w'=>e=.panicked [{v:=.iface 22 (.int .i64 1),recovered:=false}]∧Below w.heap.size w w':=by
 have i1:¬(n:Int)=0:=by omega
 have i2:¬(n:Int)=2:=by omega
 have j1:((n:Int)==0)=false:=by simpa using i1
 have j2:((n:Int)==2)=false:=by simpa using i2
 have CC:=aJ (mL w)
 go_enter Tryz.func44,Tryz.ntmps44
 go_wp2_with fail
 refine CC.out.mono ?_
 rintro e w1 ⟨rfl,hb1⟩
 have B1:=aJ hb1
 clear hb1 CC
 go_wp2
 exact⟨rfl,rfl,B1.out⟩
end
end
end Go.Proofs.YtcgpkonfneofdaaGreatDoor
