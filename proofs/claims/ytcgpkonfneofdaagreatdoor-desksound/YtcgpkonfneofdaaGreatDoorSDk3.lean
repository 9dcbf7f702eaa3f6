/- Conditions: those that each theorem states. -/
import Derived.Test.YtcgpkonfneofdaaGreatDoorSDkS
import Derived.Lib.AppendStr
set_option maxRecDepth 100000
set_option maxHeartbeats 8000000
namespace Go.Proofs.YtcgpkonfneofdaaGreatDoor
open Go.RowKit
section
def gT (m:Int) (l:List TxA) (bg:List Int) (S:SA) (x:List UInt8):List UInt8×List Int×SA:=
 match qH m l bg S ((gI 32 x).headD []) (gI 32 x).tail with
 | .ok p=>p
 | .error z=>([101,114,114,111,114,32]++cY z,bg,S)
theorem kQ (c:UInt8):∀(x:List UInt8),∀y∈gI c x,y.length≤x.length
 | [],y,h=>by
  rw[List.mem_singleton.1 h];exact Nat.le_refl _
 | b::r,y,h=>by
  have ih:=kQ c r
  unfold gI at h
  split at h
  ·rcases List.mem_cons.1 h with rfl | h
   ·exact Nat.zero_le _
   ·have:=ih y h;rw[List.length_cons];omega
  ·rcases List.mem_cons.1 h with rfl | h
   ·have:((gI c r).headD []).length≤r.length:=by
     cases hs:gI c r with
     | nil=>exact Nat.zero_le _
     | cons a t=>exact ih a (by rw[hs];simp)
    rw[List.length_cons,List.length_cons];omega
   ·have:=ih y (List.mem_of_mem_tail h);rw[List.length_cons];omega
theorem IsStrs.tail1 {w:World} {wd:List UInt8} {xs:List (List UInt8)} {sb:Nat} (h:IsStrs w (some ⟨sb,0,none⟩) (wd::xs)):IsStrs w (if xs.length=0 then some ⟨sb,0,none⟩ else some ⟨sb,1,none⟩) xs:=fun i hi=>by
 rw[if_neg (by omega)]
 obtain⟨b,off,e,hlt,hc⟩:=h (i+1) (by simpa using hi)
 injection e with e
 injection e with e1 e2
 subst e1 e2
 refine⟨sb,1,rfl,hlt,?_⟩
 rw[show 1+i=0+(i+1) by omega,hc]
 simp
theorem cond_pan {P:Nat} {D:Nat→Prop} {m:Int} {la:Option Addr} {lc:Nat} {l:List TxA} {U4:World} {cap:Array Value} (w:World) (z:Int) (hU:U4=w.alloc (.cells #[.int .i64 0] 22)) (hz:¬z=0) (h:Calls Tryz.prog 43 cap U4 fun e w'=>AnsP P D m la lc l U4 (.error z) e w') :
  Calls Tryz.prog 11 #[.func (.func 43) #[] cap] w fun e w'=>(e=.returned (.tuple #[.string ⟨#[]⟩,.int .i64 z])∧Below w.heap.size w w')∧¬z=0:=by
 subst hU
 exact(kG 43 cap (fun _=>rfl) z w (h.mono fun e w' ⟨he,_,hb⟩=>⟨he,by simpa using hb⟩)).mono fun e w' hh=>⟨hh,hz⟩
section
variable (P:Nat) (D:Nat→Prop) (m:Int) (la:Option Addr) (lc:Nat) (l:List TxA) (ba:Option Addr) (bc:Nat) (bg:List Int) (q:Q4) (S:SA) (w:World)
def AnsF (P:Nat) (D:Nat→Prop) (m:Int) (la:Option Addr) (lc:Nat) (l:List TxA) (w:World) (r:List UInt8×List Int×SA) (e:Ending) (w':World):Prop:=
 e=.returned (aL r.1)∧∃(ba:Option Addr) (bc:Nat) (q2:Q4) (D2:Nat→Prop),Clk P D2 m la lc l ba bc r.2.1 q2 r.2.2 w'∧(∀b,D2 b→D b∨w.heap.size≤b)∧w.grownBy w' (some P)
theorem clkCaught (wd:List UInt8) (xs:List (List UInt8)) (hl:∀y∈xs,y.length≤4096) (h:Clk P D m la lc l ba bc bg q S w) (hk:OkDesk m l bg S) (hE:∀z,qH m l bg S wd xs=.error z→0<z∧z≤100) (hs2:∀w',Below P w w'→Std w'):Calls Tryz.prog 11 #[.func (.func 43) #[] #[.pointer (some ⟨w.heap.size,0,none⟩),.pointer (some ⟨w.heap.size+1+1,0,none⟩)]] (((w.alloc (.cells #[.pointer (some ⟨P,0,none⟩)] 81)).alloc (.cells ((wd::xs).map aL).toArray 9)).alloc (.cells #[.slice (some ⟨w.heap.size+1,0,none⟩) (xs.length+1) (xs.length+1)] 55)) fun e w'=>match qH m l bg S wd xs with
  | .ok p=>e=.returned (.tuple #[aL p.1,.int .i64 0])∧∃(ba:Option Addr) (bc:Nat) (q2:Q4) (D2:Nat→Prop),Clk P D2 m la lc l ba bc p.2.1 q2 p.2.2 w'∧(∀b,D2 b→D b∨w.heap.size≤b)∧w.grownBy w' (some P)
  | .error z=>e=.returned (.tuple #[.string ⟨#[]⟩,.int .i64 z])∧¬z=0∧Below w.heap.size w w':=by
 have hPl:=h.pl
 obtain⟨U1,hU1⟩:∃U:World,U=(w.alloc (.cells #[.pointer (some ⟨P,0,none⟩)] 81)):=⟨_,rfl⟩
 obtain⟨U2,hU2⟩:∃U:World,U=U1.alloc (.cells ((wd::xs).map aL).toArray 9):=⟨_,rfl⟩
 obtain⟨U3,hU3⟩:∃U:World,U=U2.alloc (.cells #[.slice (some ⟨w.heap.size+1,0,none⟩) (xs.length+1) (xs.length+1)] 55):=⟨_,rfl⟩
 obtain⟨U4,hU4⟩:∃U:World,U=U3.alloc (.cells #[.int .i64 0] 22):=⟨_,rfl⟩
 have s1:U1.heap.size=w.heap.size+1:=by rw[hU1];simp
 have s2:U2.heap.size=w.heap.size+1+1:=by rw[hU2];simp[s1]
 have s3:U3.heap.size=w.heap.size+1+1+1:=by rw[hU3];simp[s2]
 have s4:U4.heap.size=w.heap.size+1+1+1+1:=by rw[hU4];simp[s3]
 have b1:Below w.heap.size w U1:=by rw[hU1];exact aA (Below.refl _ _) _
 have b12:Below U1.heap.size U1 U2:=by rw[hU2];exact aA (Below.refl _ _) _
 have b23:Below U2.heap.size U2 U3:=by rw[hU3];exact aA (Below.refl _ _) _
 have b34:Below U3.heap.size U3 U4:=by rw[hU4];exact aA (Below.refl _ _) _
 have b24:=aC b23 b34
 have b14:=aC b12 b24
 have b04:=aC b1 b14
 have b03:=aC b1 (aC b12 b23)
 have c0:U1.cell? ⟨w.heap.size,0,none⟩=some (.pointer (some ⟨P,0,none⟩)):=by rw[hU1];exact aG _ _ 81 _ 0 _ rfl rfl
 have cS:IsStrs U2 (some ⟨w.heap.size+1,0,none⟩) (wd::xs):=by
  rw[hU2,←s1];exact pE U1 (wd::xs)
 have c1:U3.cell? ⟨w.heap.size+1+1,0,none⟩=some (.slice (some ⟨w.heap.size+1,0,none⟩) (xs.length+1) (xs.length+1)):=by
  rw[hU3];exact aG _ _ 55 _ 0 _ s2.symm rfl
 have c2:U2.cell? ⟨w.heap.size+1,0,none⟩=some (aL wd):=by
  obtain⟨b,off,e,_,hc⟩:=cS 0 (by simp)
  injection e with e
  injection e with e1 e2
  subst e1 e2
  exact hc
 have CA:=clkAns1 P D m la lc l ba bc bg q S U4 wd xs w.heap.size (w.heap.size+1+1) (w.heap.size+1) ⟨by omega,by omega⟩ ⟨by omega,by omega⟩ ⟨by omega,by omega⟩ (aB b14 c0) (aB b34 c1) (aB b24 c2) _ (slc1 (w.heap.size+1) xs.length) (fun ad e=>by
  split at e <;> (injection e with e;subst e;show w.heap.size+1≠P;omega)) (cS.below b24).tail1 hl (h.on b04) hk (hs2 U4 (b04.mono (Nat.le_of_lt hPl))) (fun w2 h2=>hs2 w2 ((b04.mono (Nat.le_of_lt hPl)).trans h2))
 have eW:(((w.alloc (.cells #[.pointer (some ⟨P,0,none⟩)] 81)).alloc (.cells ((wd::xs).map aL).toArray 9)).alloc (.cells #[.slice (some ⟨w.heap.size+1,0,none⟩) (xs.length+1) (xs.length+1)] 55))=U3:=by rw[hU3,hU2,hU1]
 rw[eW]
 cases hr:qH m l bg S wd xs with
 | ok p=>
  rw[hr]at CA
  refine(caughtW_ret 43 _ (fun _=>rfl) (fun v w'=>v=aL p.1∧∃(ba:Option Addr) (bc:Nat) (q2:Q4) (D2:Nat→Prop),Clk P D2 m la lc l ba bc p.2.1 q2 p.2.2 w'∧(∀b,D2 b→D b∨U4.heap.size≤b)) P U3 (by omega) (fun v w' hv hg=>?_) ?_).mono ?_
  ·obtain⟨rfl,ba,bc,q2,D2,hc,hd⟩:=hv
   refine⟨rfl,ba,bc,q2,D2,hc.frame (iL _ _ _ _ _ (by omega)) ⟨rfl,rfl,rfl,by rw[World.size_setCell];exact Nat.le_refl _,fun b hb=>iL _ _ _ _ _ (by omega)⟩ (fun b hb=>iL _ _ _ _ _ ?_),hd⟩
   rcases hd b hb with hh | hh
   ·have:=(h.dl b hh).2;omega
   ·omega
  ·rw[←hU4]
   exact CA.mono fun e w' ⟨he,ba,bc,q2,D2,hc,hd,hg⟩=>⟨_,he,⟨rfl,ba,bc,q2,D2,hc,hd⟩,hg⟩
  ·rintro e w' ⟨v,rfl,⟨rfl,ba,bc,q2,D2,hc,hd⟩,hg⟩
   exact⟨rfl,ba,bc,q2,D2,hc,fun b hb=>(hd b hb).elim .inl (fun hh=>.inr (by omega)),cR (aX b03) hg⟩
 | error z=>
  rw[hr]at CA
  refine(cond_pan U3 z hU4 (by have:=hE z hr;omega) CA).mono ?_
  rintro e w' ⟨⟨rfl,hb⟩,hz⟩
  exact⟨rfl,hz,aC b03 hb⟩
end
end
section
section
variable (P:Nat) (D:Nat→Prop) (m:Int) (la:Option Addr) (lc:Nat) (l:List TxA) (ba:Option Addr) (bc:Nat) (bg:List Int) (q:Q4) (S:SA) (w:World)
theorem clkAnswer (x:List UInt8) (hx:x.length≤4096) (h:Clk P D m la lc l ba bc bg q S w) (hk:OkDesk m l bg S) (hE:∀wd xs z,qH m l bg S wd xs=.error z→0<z∧z≤100) (hs:Std w) (hs2:∀w',Below P w w'→Std w'):Calls Tryz.prog 21 #[.pointer (some ⟨P,0,none⟩),aL x] w fun e w'=>AnsF P D m la lc l w (gT m l bg S x) e w':=by
 have hmf:∀(fn:Fn) (first cap:Array Value) (w:World),(Instr.makeFunc fn first cap).run Tryz.prog w=.ok (.func fn first cap) w:=fun _ _ _ _=>rfl
 have H:=aJ h
 have hsl:=mX 32 x
 have hml:=kQ 32 x
 obtain⟨wd,xs,hsp⟩:∃wd xs,gI 32 x=wd::xs:=by
  cases hh:gI 32 x with
  | nil=>exact absurd hh (spl_ne 32 x)
  | cons a t=>exact⟨a,t,rfl⟩
 have hcn:x.count 32=xs.length:=by rw[hsp,List.length_cons]at hsl;omega
 have eA:gT m l bg S x=(match qH m l bg S wd xs with
  | .ok p=>p
  | .error z=>([101,114,114,111,114,32]++cY z,bg,S)):=by unfold gT;rw[hsp];rfl
 have C1:Hid (Calls Tryz.prog 41 #[aL x,.string ⟨#[32]⟩] (w.alloc (.cells #[.pointer (some ⟨P,0,none⟩)] 81)) fun e w'=>e=.returned (.slice (some ⟨w.heap.size+1,0,none⟩) (xs.length+1) (xs.length+1))∧w'=((w.alloc (.cells #[.pointer (some ⟨P,0,none⟩)] 81)).alloc (.cells ((wd::xs).map aL).toArray 9))):=by
  have hh:=split_q x hx 32 (w.alloc (.cells #[.pointer (some ⟨P,0,none⟩)] 81)) (hs.on (aA (Below.refl _ _) _))
  rw[hsp,hcn]at hh
  have e1:(w.alloc (.cells #[.pointer (some ⟨P,0,none⟩)] 81)).heap.size=w.heap.size+1:=by simp
  rw[e1]at hh
  exact hh
 have CC:=aJ (clkCaught P D m la lc l ba bc bg q S w wd xs (fun y hy=>Nat.le_trans (hml y (by rw[hsp];simp[hy])) hx) h hk (hE wd xs) hs2)
 have HE:=aJ (hE wd xs)
 have S2:=aJ hs2
 have S0:=aJ hs
 have hPl:=aJ h.pl
 rw[eA]
 clear h hk hE hs hs2 hsl hml hsp hcn eA
 cases hr:qH m l bg S wd xs with
 | ok p=>
  rw[hr]at CC
  clear hr HE
  go_enter Tryz.func21,Tryz.ntmps21
  go_wp2_with fail
  refine C1.out.mono ?_
  rintro e w2 ⟨rfl,rfl⟩
  clear C1
  go_wp2_with fail
  refine CC.out.mono ?_
  rintro e w3 ⟨rfl,hq⟩
  have HQ:=aJ hq
  clear hq CC
  go_wp2
  go_ret
  exact⟨rfl,HQ.out⟩
 | error z=>
  have hz:=HE.out z hr
  rw[hr]at CC
  clear hr HE
  have f1:=cat1 [101,114,114,111,114,32] (cY z) (by have:=uU (n:=z) (by omega) (by omega);simp;omega)
  have CI:Hid (∀w:World,Std w→Calls Tryz.prog 45 #[.int .i64 z] w fun e w'=>e=.returned (aL (cY z))∧Below w.heap.size w w'):=fun w hs=>oQ z (by omega) (by omega) w hs
  have hz0:¬z=0:=by omega
  obtain⟨T,hT⟩:∃T,T=cY z:=⟨_,rfl⟩
  rw[←hT]at f1 CI
  have HT:=aJ hT
  clear hT
  go_enter Tryz.func21,Tryz.ntmps21
  go_wp2_with fail
  refine C1.out.mono ?_
  rintro e w2 ⟨rfl,rfl⟩
  clear C1
  go_wp2_with fail
  refine CC.out.mono ?_
  rintro e w3 ⟨rfl,_,hb⟩
  have B3:=aJ hb
  clear hb CC
  go_wp2_with fail
  refine(CI.out _ (S0.out.on B3.out)).mono ?_
  rintro e w4 ⟨rfl,hb4⟩
  have B4:Hid (Below w.heap.size w w4):=aC B3.out hb4
  clear hb4 CI
  go_wp2
  go_ret
  exact⟨by have hh:=HT.out;subst hh;rfl,ba,bc,q,D,H.out.on B4.out,fun b h=>.inl h,aX B4.out⟩
end
end
end Go.Proofs.YtcgpkonfneofdaaGreatDoor

set_option maxRecDepth 100000
set_option maxHeartbeats 8000000
namespace Go.Proofs.YtcgpkonfneofdaaGreatDoor
open Go.RowKit
theorem Tryz.info5b:(Tryz.prog.info? 5).map (fun i=>(i.zero,i.size,i.bytes))=some (some (.int .u8 0),1,1):=by kernel_rfl
theorem app_str_blk (w:World) (base:Nat) (ty:TypeId) (v:Value) (n:Nat) (xs:List Value) (hown:w.ownsRow base 5 1 v n xs) (s:ByteArray) (hlen:n+s.size≤140737488355328) (hbase:base≤w.heap.size) :
  ∃v' w',(Builtin.append_ #[52,9] ty #[v,.string s]).run Tryz.prog w=.ok v' w'∧w'.ownsRow base 5 1 v' (n+s.size) (xs++Lib.strCells s)∧w.grownBy w' v.ownBlock∧(v'.ownBlock=v.ownBlock∨v'.ownBlock=some w.heap.size):=by
 obtain⟨i,hi,hz,hs,hb⟩:=info_parts Tryz.info5b
 obtain⟨v',w',hr,h2,h3,_⟩:=Lib.run_append_own_string (P:=Tryz.prog) w base 52 9 ty 5 i Tryz.underlying52 Tryz.underlying9 hi hz hs hb v n xs hown s (by unfold maxLen;omega) hlen hbase
 refine⟨v',w',hr,h2,h3,?_⟩
 have hxl:xs.length=n:=by simpa using hown.1
 rcases hown.2 with ⟨rfl,rfl⟩ | ⟨g,cap,cur,rfl,hbg,hg,hnc,hcm,hcs,htake⟩
 ·by_cases hm:s.size=0
  ·have hf:=Lib.run_firstCells_string (P:=Tryz.prog) w 1 s
   rw[hm]at hf
   have hr2:(Builtin.append_ #[52,9] ty #[.slice none 0 0,.string s]).run Tryz.prog w=.ok (.slice none 0 0) w:=by
    simp[Builtin.append_,run_underlying Tryz.underlying52,run_underlying Tryz.underlying9,sizeOf,typeInfo,hi,hs,Builtin.lenOf,hm,hf]
   rw[hr2]at hr
   injection hr with hv _
   rw[←hv];exact .inl rfl
  ·have hr2:=run_append_nil_string (P:=Tryz.prog) w 52 9 ty 5 i (.int .u8 0) Tryz.underlying52 Tryz.underlying9 hi hz s (by omega) (by omega) (by rw[hb];omega)
   rw[hr2]at hr
   injection hr with hv _
   rw[←hv];exact .inr rfl
 ·by_cases hroom:n+s.size≤cap
  ·have hcs':cur.size=cap:=by simpa using hcs
   have hr2:=Lib.run_append_room_string (P:=Tryz.prog) w 52 9 ty 5 i Tryz.underlying52 Tryz.underlying9 hi hs g n cap cur hg s hroom (by omega)
   rw[hr2]at hr
   injection hr with hv _
   rw[←hv];exact .inl rfl
  ·have holds:∀j u,xs[j]?=some u→w.cell? ((⟨g,0,none⟩:Addr).add j)=some u:=hown.cells (g:=g) rfl
   have hr2:=Lib.run_append_grow_string (P:=Tryz.prog) w 52 9 ty 5 i (.int .u8 0) Tryz.underlying52 Tryz.underlying9 hi hz ⟨g,0,none⟩ n cap xs (by rw[hs];simpa using hxl) holds s (by omega) (by omega) (by rw[hb];exact growslice_fits (by omega) (by omega))
   rw[hr2]at hr
   injection hr with hv _
   rw[←hv];exact .inr rfl
theorem rB {w:World} {ops:Array Oper} {rest:List Oper} {o:Oper} {a:Act} {Q:Exit→Act→World→Prop} (hgd:o.guard=none) (sl x:Operand)
  (ho:o.op=.call {callee:=.builtin .append,args:=#[sl,x],argTypes:=#[52,9]}) (base:Nat)
  (v:Value) (n:Nat) (xs:List Value) (hs:a.eval sl=v) (hown:w.ownsRow base 5 1 v n xs) (s:ByteArray) (hx:a.eval x=.string s) (hlen:n+s.size≤140737488355328) (hbase:base≤w.heap.size)
  (h:∀v' w',w'.ownsRow base 5 1 v' (n+s.size) (xs++Lib.strCells s)→w.grownBy w' v.ownBlock→(v'.ownBlock=v.ownBlock∨v'.ownBlock=some w.heap.size)→wpList Tryz.prog ops Q rest (a.put o.dst v') w'):wpList Tryz.prog ops Q (o::rest) a w:=by
 refine wpList_plain hgd fun K hK=>?_
 obtain⟨v',w',hr,h2,h3,h4⟩:=app_str_blk w base o.type v n xs hown s hlen hbase
 unfold Oper.wp execOp
 simp only[ho,resolve,invoke,builtin,Sem.run_bind,Sem.run_pure,Result.andThen_ok,List.map_toArray,List.map_cons,List.map_nil,hs,hx,hr]
 exact hK _ _ (h v' w' h2 h3 h4)
structure Bld (B b:Nat) (v:Value) (l:List UInt8) (w:World):Prop where
 hp:∃p,(p=.pointer none∨p=.pointer (some ⟨b,0,none⟩))∧w.heap[b]?=some (.cells #[p,v] 54 (0,0))
 own:w.ownsRow B 5 1 v l.length (Lib.byteCells l)
 ne:v.ownBlock≠some b
 lo:B≤b
theorem Bld.is {B b:Nat} {v:Value} {l:List UInt8} {w:World} (h:Bld B b v l w):Lib.IsBuilder 54 5 B b (Lib.byteCells l) w:=by
 obtain⟨p,hp,hb⟩:=h.hp
 have hl:(Lib.byteCells l).length=l.length:=by simp[Lib.byteCells]
 rcases hp with rfl | rfl
 ·exact .inl ⟨h.lo,v,hb,by rw[hl];exact h.own,h.ne⟩
 ·exact .inr ⟨h.lo,v,hb,by rw[hl];exact h.own,h.ne⟩
theorem cc_any (b:Nat) (p v:Value) (hp:p=.pointer none∨p=.pointer (some ⟨b,0,none⟩)) (w:World) (hb:w.heap[b]?=some (.cells #[p,v] 54 (0,0))) :
  Calls Tryz.prog 42 #[.pointer (some ⟨b,0,none⟩)] w fun e w'=>e=.returned (.tuple #[])∧w'.heap[b]?=some (.cells #[.pointer (some ⟨b,0,none⟩),v] 54 (0,0))∧w.grownBy w' (some b)∧w'.heap.size=w.heap.size:=by
 have h0:w.cell? ⟨b,0,none⟩=some p:=by rw[Lib.cell_of_heap hb];rfl
 rcases hp with rfl | rfl
 ·refine(Any.Builder_copyCheck_fresh (P:=Tryz.prog) (ρ:=Tryz.lays156_ren) {Tryz.lays166 with} Tryz.Builder_Extra_156.toX72 b w h0 (by simp[World.shape?,hb];rfl) (Lib.frozen_of_heap hb 0)).mono ?_
  rintro e w' ⟨he,rfl⟩
  exact⟨he,by simp[World.setCell,Array.getElem?_modify,hb],aP w b 0 _,World.size_setCell _ _ _⟩
 ·refine(Any.Builder_copyCheck_used (P:=Tryz.prog) (ρ:=Tryz.lays156_ren) {Tryz.lays166 with} Tryz.Builder_Extra_156.toX72 b w h0).mono ?_
  rintro e w' ⟨he,rfl⟩
  exact⟨he,hb,⟨rfl,rfl,rfl,Nat.le_refl _,fun _ _ _=>rfl⟩,rfl⟩
structure Fr2 (b:Nat) (r:Option Nat) (w w':World):Prop where
 os:w'.os=w.os
 tape:w'.tape=w.tape
 output:w'.output=w.output
 size:w.heap.size≤w'.heap.size
 block:∀k,k<w.heap.size→k≠b→some k≠r→w'.heap[k]?=w.heap[k]?
theorem bytes_str (x:List UInt8):Lib.strCells ⟨x.toArray⟩=Lib.byteCells x:=by simp[Lib.strCells,Lib.byteCells]
theorem bytes_app (l x:List UInt8):Lib.byteCells (l++x)=Lib.byteCells l++Lib.byteCells x:=by simp[Lib.byteCells]
theorem bldWrite (B b:Nat) (v:Value) (l x:List UInt8) (w:World) (h:Bld B b v l w) (hlen:l.length+x.length≤1000000) (hB:B≤w.heap.size) :
  Calls Tryz.prog 20 #[.pointer (some ⟨b,0,none⟩),aL x] w fun e w'=>(∃n:Int,e=.returned (.tuple #[.int .i64 n,.nilIface]))∧∃v',Bld B b v' (l++x) w'∧(v'.ownBlock=v.ownBlock∨v'.ownBlock=some w.heap.size)∧Fr2 b v.ownBlock w w':=by
 obtain⟨p,hp,hb⟩:=h.hp
 have CC:=aJ (cc_any b p v hp w hb)
 have HO:=aJ h.own
 have HN:=aJ h.ne
 have HL:=aJ h.lo
 have hbl:b<w.heap.size:=(Array.getElem?_eq_some_iff.1 hb).1
 have hxs:(ByteArray.mk x.toArray).size=x.length:=by show x.toArray.size=_;simp
 clear h hp hb
 go_enter Tryz.func20,Tryz.ntmps20
 go_wp2_with fail
 refine CC.out.mono ?_
 rintro e w1 ⟨rfl,hbk,hg1,hs1⟩
 have hown1:w1.ownsRow B 5 1 v l.length (Lib.byteCells l):=HO.out.kept hg1 (Or.inr (fun e=>HN.out e))
 have c0:w1.cell? ⟨b,0,none⟩=some (.pointer (some ⟨b,0,none⟩)):=by rw[Lib.cell_of_heap hbk];rfl
 have c1:w1.cell? ⟨b,1,none⟩=some v:=by rw[Lib.cell_of_heap hbk];rfl
 have G1:=aJ hg1
 have S1:=aJ hs1
 clear hg1 hs1 CC HO
 go_wp2_with (first
  | (at_builtin;refine rB rfl _ _ rfl B _ _ _ rfl hown1 ⟨x.toArray⟩ rfl ?c3 ?c4 ?_)
  | go_in)
 case c3=>rw[hxs];omega
 case c4=>rw[S1.out];exact hB
 intro v' w2 hown' hgrow hv'
 have hlt:b<w1.heap.size:=by rw[S1.out];exact hbl
 have hb2:w2.heap[b]?=some (.cells #[.pointer (some ⟨b,0,none⟩),v] 54 (0,0)):=by
  rw[hgrow.block b hlt (fun e=>HN.out e.symm)]
  exact hbk
 have d1:w2.cell? ⟨b,1,none⟩=some v:=by rw[Lib.cell_of_heap hb2];rfl
 have f1:w2.frozen? ⟨b,1,none⟩=false:=Lib.frozen_of_heap hb2 1
 obtain⟨ao,n',cap,rfl⟩:∃ao n' cap,v'=.slice ao n' cap:=by
  rcases hown'.2 with ⟨hv,_⟩ | ⟨g,cap,cur,hv,_⟩
  ·exact⟨_,_,_,hv⟩
  ·exact⟨_,_,_,hv⟩
 have H2:=aJ hb2
 have HO2:=aJ hown'
 have HG2:=aJ hgrow
 have HV:=aJ hv'
 clear hb2 hown' hgrow hv' hbk hown1 c0 c1
 go_wp2
 go_ret2
 have hnb:(Value.slice ao n' cap).ownBlock≠some b:=by
  intro e
  rcases HV.out with hh | hh
  ·exact HN.out (hh.symm.trans e)
  ·rw[hh]at e;injection e with e;have:=S1.out;omega
 refine⟨⟨_,rfl⟩,_,⟨⟨_,.inr rfl,by simp[World.setCell,Array.getElem?_modify,H2.out]⟩,?_,hnb,HL.out⟩,?_,?_⟩
 ·have:=HO2.out
  rw[bytes_str]at this
  rw[List.length_append,bytes_app]
  exact this.kept (aP w2 b 1 _) (Or.inr (fun e=>hnb e))
 ·rw[←S1.out];exact HV.out
 ·exact⟨HG2.out.os.trans G1.out.os,HG2.out.tape.trans G1.out.tape,HG2.out.output.trans G1.out.output,by rw[World.size_setCell];have:=HG2.out.size;have:=S1.out;omega,fun k hk h1 h2=>by
   rw[dR _ _ _ _ _ h1,HG2.out.block k (by rw[S1.out];exact hk) h2,G1.out.block k hk (fun e=>by injection e with e;exact h1 e)]⟩
end Go.Proofs.YtcgpkonfneofdaaGreatDoor

set_option maxRecDepth 100000
set_option maxHeartbeats 8000000
namespace Go.Proofs.YtcgpkonfneofdaaGreatDoor
open Go.RowKit
theorem clk_new (w:World) (m:Int) (la:Option Addr) (lc:Nat) (l:List TxA) (hl:IsTxs w la l):Clk w.heap.size (fun _=>False) m la lc l none 0 [] aAh uC (w.alloc (.cells #[.int .i64 m,.slice la l.length lc,.slice none 0 0,.slice none 0 0,.slice none 0 0,.slice none 0 0,.slice none 0 0] 47)):=by
 have hb:Below w.heap.size w (w.alloc (.cells #[.int .i64 m,.slice la l.length lc,.slice none 0 0,.slice none 0 0,.slice none 0 0,.slice none 0 0,.slice none 0 0] 47)):=aA (Below.refl _ _) _
 refine⟨⟨?_,?_,?_,?_,?_,?_,?_⟩,fun j=>cO _ _ 47 _ j rfl,fun w' h'=>hl.below (hb.trans h'),fun b h=>h.elim,fun w' _ _=>⟨⟨rfl,rfl,rfl,rfl,⟨?_,?_,?_,?_⟩⟩,?_⟩⟩
 ·exact aG _ _ 47 _ 0 _ rfl rfl
 ·exact aG _ _ 47 _ 1 _ rfl rfl
 ·exact aG _ _ 47 _ 2 _ rfl rfl
 ·exact aG _ _ 47 _ 3 _ rfl rfl
 ·exact aG _ _ 47 _ 4 _ rfl rfl
 ·exact aG _ _ 47 _ 5 _ rfl rfl
 ·exact aG _ _ 47 _ 6 _ rfl rfl
 ·exact fun i hi=>absurd hi (Nat.not_lt_zero _)
 ·exact fun i hi=>absurd hi (Nat.not_lt_zero _)
 ·exact fun i hi=>absurd hi (Nat.not_lt_zero _)
 ·exact fun i hi=>absurd hi (Nat.not_lt_zero _)
 ·exact fun i hi=>absurd hi (Nat.not_lt_zero _)
theorem bld_new (w:World):Bld w.heap.size w.heap.size (.slice none 0 0) [] (w.alloc (.cells #[.pointer none,.slice none 0 0] 54)):=
 ⟨⟨_,.inl rfl,heap_alloc_new w _⟩,World.ownsRow_nil _ _ _ _,by simp[Value.ownBlock],Nat.le_refl _⟩
theorem Clk.write {P:Nat} {D:Nat→Prop} {m:Int} {la:Option Addr} {lc:Nat} {l:List TxA} {ba:Option Addr} {bc:Nat} {bg:List Int} {q:Q4} {S:SA} {w w':World} {b:Nat} {r:Option Nat} (h:Clk P D m la lc l ba bc bg q S w) (hf:Fr2 b r w w') (h1:P<b) (h2:∀g,r=some g→P<g) (h3:¬D b) (h4:∀g,r=some g→¬D g):Clk P D m la lc l ba bc bg q S w':=by
 have hP:=h.pl
 refine h.frame (hf.block P hP (by omega) (fun e=>Nat.lt_irrefl _ (h2 P e.symm))) ⟨hf.os,hf.tape,hf.output,hf.size,fun k hk=>hf.block k (by omega) (by omega) (fun e=>by have:=h2 k e.symm;omega)⟩ (fun k hd=>hf.block k (h.dl k hd).2 (fun e=>h3 (e ▸ hd)) (fun e=>h4 k e.symm hd))
theorem Bld.on {P B b:Nat} {v:Value} {l:List UInt8} {w w':World} (h:Bld B b v l w) (hg:w.grownBy w' (some P)) (h1:b≠P) (h2:v.ownBlock≠some P):Bld B b v l w':=by
 obtain⟨p,hp,hb⟩:=h.hp
 have hbl:b<w.heap.size:=(Array.getElem?_eq_some_iff.1 hb).1
 exact⟨⟨p,hp,by rw[hg.block b hbl (fun e=>by injection e with e;exact h1 e)];exact hb⟩,h.own.kept hg (Or.inr (fun e=>h2 e)),h.ne,h.lo⟩
theorem stepE_few (sh:Nat) (l:List TxA) (S:SA) (kd n k:Int):0≤bW sh l S kd n k∧bW sh l S kd n k≤7:=by
 unfold bW
 split
 ·split
  ·decide
  ·split
   ·split
    ·decide
    ·split <;> decide
   ·decide
 ·decide
theorem doE_few {m:Int} {l:List TxA} {S:SA} (h:dB m l S=0) (kd n k:Int):0≤kX m l S kd n k∧kX m l S kd n k≤7:=by
 unfold kX
 rw[if_pos h]
 exact stepE_few _ _ _ _ _ _
theorem telL_err {m:Int} {l:List TxA} {bg:List Int} {S:SA} (h:dB m l S=0) {x:List UInt8} {z:Int} (hz:eC m l bg S x=.error z):0<z∧z≤100:=by
 unfold eC at hz
 split at hz
 ·cases hz
 split at hz
 ·cases hz
 split at hz
 ·cases hz
 split at hz
 ·split at hz
  ·cases hz
  ·next hr=>
   injection hz with hz
   subst hz
   unfold mG at hr ⊢
   rw[if_pos h]at hr ⊢
   split
   ·next ho=>rw[if_pos ho]at hr;exact absurd rfl hr
   ·decide
 ·injection hz with hz
  subst hz
  decide
theorem do_err {m:Int} {l:List TxA} {S:SA} (h:dB m l S=0) {kd n k z:Int} {r:List UInt8×List Int×SA} (hz:(if kX m l S kd n k=0 then Except.ok r else Except.error (kX m l S kd n k))=(Except.error z:Except Int (List UInt8×List Int×SA))):0<z∧z≤100:=by
 have:=doE_few h kd n k
 split at hz
 ·cases hz
 ·injection hz with hz
  omega
theorem chgL_err {m:Int} {l:List TxA} {bg:List Int} {S:SA} (h:dB m l S=0) {x a b:List UInt8} {z:Int} (hz:cV m l bg S x a b=.error z):0<z∧z≤100:=by
 unfold cV at hz
 have one:∀{z:Int},(Except.error 1:Except Int (List UInt8×List Int×SA))=.error z→0<z∧z≤100:=fun e=>by injection e with e;subst e;decide
 split at hz
 ·split at hz
  ·split at hz
   ·injection hz with hz;subst hz;decide
   ·cases hz
  ·exact one hz
 split at hz
 ·split at hz
  ·exact do_err h hz
  ·exact one hz
 split at hz
 ·split at hz
  ·exact do_err h hz
  ·exact one hz
 ·exact one hz
theorem obL_err {m:Int} {l:List TxA} {bg:List Int} {S:SA} (h:dB m l S=0) (x:List UInt8) (xs:List (List UInt8)) (z:Int) (hz:qH m l bg S x xs=.error z):0<z∧z≤100:=by
 match xs,hz with
 | [],hz=>
  cases hr:eC m l bg S x with
  | ok p=>rw[qH,hr]at hz;cases hz
  | error y=>
   rw[qH,hr]at hz
   have e:y=z:=by injection hz
   subst e
   exact telL_err h hr
 | [a],hz=>injection hz with hz;subst hz;decide
 | [a,b],hz=>exact chgL_err h hz
 | a::b::c::r,hz=>injection hz with hz;subst hz;decide
end Go.Proofs.YtcgpkonfneofdaaGreatDoor

set_option maxRecDepth 100000
set_option maxHeartbeats 8000000
namespace Go.Proofs.YtcgpkonfneofdaaGreatDoor
open Go.RowKit
theorem desk_cl {m:Int} {l:List TxA} {S:SA} (h:dB m l S=0):∀p∈bE m l S,(p.1=1∨p.1=2)∧p.2.1≤100∧p.2.2≤100:=by
 obtain⟨sh,rfl,_,h4,hc,_,_,_⟩:=cK h
 have h8:=fE hc
 intro p hp
 unfold bE at hp
 rw[if_pos h]at hp
 obtain⟨h1,h2,h3,_⟩:=iH.1 hp
 have e:((sh:Nat):Int).toNat=sh:=Int.toNat_natCast sh
 rw[e]at h3
 exact⟨h1,by omega,by omega⟩
theorem desk_cn {m:Int} {l:List TxA} {S:SA} (h:dB m l S=0):(bE m l S).length≤64:=by
 obtain⟨sh,rfl,_,h4,hc,_,_,_⟩:=cK h
 unfold bE
 rw[if_pos h]
 exact canL_len _ l S (fE hc) (by rw[Int.toNat_natCast];exact h4)
theorem nP {m:Int} {l:List TxA} {S:SA} (h:dB m l S=0):S.st.length=8:=by
 obtain⟨sh,rfl,_,_,_,_,hf,_⟩:=cK h
 exact(eK.1 hf).st
theorem desk_pl {m:Int} {l:List TxA} {S:SA} (h:dB m l S=0) (k:Nat) (v:Int):iI m l (S.st.set k v)=0:=by
 have h8:=nP h
 obtain⟨sh,rfl,_,_,_,hp,_,_⟩:=cK h
 have hl:bK (S.st.set k v)=0:=by
  unfold bK
  rw[List.length_set,h8]
  rfl
 unfold iI
 rw[hp,hl]
 rfl
theorem fD_le:∀(a b:List (Bool×List Int)),fD a b≤a.length
 | x::t,y::u=>by
  unfold fD
  split
  ·have:=fD_le t u;rw[List.length_cons];omega
  ·exact Nat.zero_le _
 | [],_=>by simp[fD]
 | _::_,[]=>by simp[fD]
theorem desk_ser {m:Int} {l:List TxA} {bg:List Int} {S:SA} (h:dB m l S=0) (hb:bg.length=8):fZ bg l=0∧bK S.st=0:=by
 have h8:=nP h
 obtain⟨sh,rfl,_,_,hc,_,_,_⟩:=cK h
 have h1:bK bg=0:=if_pos hb
 have h2:bK S.st=0:=if_pos h8
 refine⟨?_,h2⟩
 unfold fZ
 rw[h1,hc]
 rfl
theorem rP:∀(s:List Int) (l:List TxA),(aT s l).length=l.length
 | _,[]=>rfl
 | s,x::t=>by
  have:=rP (mT s x) t
  simp[aT,this]
theorem desk_au {m:Int} {l:List TxA} {bg:List Int} {S:SA} (h:dB m l S=0) (hb:bg.length=8) (hr:mG m l S=0):mR bg l S.st (kN m l S)=0:=by
 obtain⟨h1,h2⟩:=desk_ser h hb
 have e1:(bO bg l).length=l.length:=by
  have e:bO bg l=aT bg l:=if_pos h1
  rw[e,rP]
 have e2:(kN m l S).length=l.length:=by
  have e:kN m l S=gL l S l.length:=if_pos hr
  rw[e];simp[gL]
 have e3:lP (bO bg l).length (kN m l S).length=0:=by rw[e1,e2];simp[lP]
 unfold mR
 rw[h1,h2,e3]
 rfl
theorem desk_av {m:Int} {l:List TxA} {bg:List Int} {S:SA} (h:dB m l S=0) : -1≤jD bg l S.st (kN m l S)∧jD bg l S.st (kN m l S)≤100:=by
 have h8:l.length≤8:=by
  obtain⟨sh,rfl,_,_,hc,_,_,_⟩:=cK h
  exact fE hc
 unfold jD
 split
 ·next ha=>
  have e:bO bg l=aT bg l:=if_pos (pA ha).1
  have hl:(bO bg l).length=l.length:=by rw[e,rP]
  have hf:=fD_le (bO bg l) (kN m l S)
  unfold oZ
  split
  ·split
   ·decide
   ·omega
  ·omega
 ·decide
end Go.Proofs.YtcgpkonfneofdaaGreatDoor
