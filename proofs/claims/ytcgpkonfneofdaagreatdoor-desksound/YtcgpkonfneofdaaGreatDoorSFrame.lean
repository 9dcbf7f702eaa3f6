/- Conditions: those that each theorem states. -/
import Derived.Test.YtcgpkonfneofdaaGreatDoorSFaultA
import Derived.OpenShut
import Derived.ChangeOld
import Derived.Lib.SmallJoins
set_option maxRecDepth 100000
set_option maxHeartbeats 8000000
namespace Go.Proofs.YtcgpkonfneofdaaGreatDoor
open Go.RowKit
def rV (op a b:Int):Int:=if op=1 then a else if op=2 then wrap64 (a+b) else if op=3 then wrap64 (a - b) else if op=4 then wrap64 (a*b) else if op=5 then sQ a b else if op=6 then nM a b else 0
def iN (op:Int):Int:=if 1≤op∧op≤6 then 0 else 4
def sT (k a b:Int):Bool:=if k=1 then a==b else if k=2 then a != b else if k=3 then decide (a<b) else if k=4 then decide (a≤b) else false
def iT (k:Int):Int:=if 1≤k∧k≤4 then 0 else 4
theorem new_cell (w:World) (v:Value) (T:TypeId):(w.alloc (.cells #[v] T)).cell? ⟨w.heap.size,0,none⟩=some v:=by simp
theorem box3 (op a b:Int) (w:World) (o:Obj) :
  ((((w.alloc (.cells #[.int .i64 op] 3)).alloc (.cells #[.int .i64 a] 3)).alloc (.cells #[.int .i64 b] 3)).alloc o).cell? ⟨w.heap.size,0,none⟩=some (.int .i64 op)∧((((w.alloc (.cells #[.int .i64 op] 3)).alloc (.cells #[.int .i64 a] 3)).alloc (.cells #[.int .i64 b] 3)).alloc o).cell? ⟨w.heap.size+1,0,none⟩=some (.int .i64 a)∧((((w.alloc (.cells #[.int .i64 op] 3)).alloc (.cells #[.int .i64 a] 3)).alloc (.cells #[.int .i64 b] 3)).alloc o).cell? ⟨w.heap.size+2,0,none⟩=some (.int .i64 b):=by
 refine⟨?_,?_,?_⟩
 ·rw[World.cell?_alloc_lt _ _ _ (by simp;omega),World.cell?_alloc_lt _ _ _ (by simp;omega),World.cell?_alloc_lt _ _ _ (by simp)];simp
 ·rw[World.cell?_alloc_lt _ _ _ (by simp),World.cell?_alloc_lt _ _ _ (by simp)]
  simp
 ·rw[World.cell?_alloc_lt _ _ _ (by simp)]
  have:=new_cell ((w.alloc (.cells #[.int .i64 op] 3)).alloc (.cells #[.int .i64 a] 3)) (.int .i64 b) 3
  simpa using this
theorem up3 {w w1:World} {x y z:Obj} (hb:Below (((w.alloc x).alloc y).alloc z).heap.size (((w.alloc x).alloc y).alloc z) w1):Below w.heap.size w w1:=
 ((((Below.refl _ _).alloc (Nat.le_refl _) x).alloc (by simp) y).alloc (by simp;omega) z).trans (hb.mono (by simp;omega))
theorem fN (op a b:Int) (v:Int) (e:Int) (w:World)
  (h:Calls Tryz.prog 185 #[.func (.func 207) #[] #[.pointer (some ⟨w.heap.size,0,none⟩),.pointer (some ⟨w.heap.size+1,0,none⟩),.pointer (some ⟨w.heap.size+2,0,none⟩)]] (((w.alloc (.cells #[.int .i64 op] 3)).alloc (.cells #[.int .i64 a] 3)).alloc (.cells #[.int .i64 b] 3)) fun e' w'=>e'=.returned (.tuple #[.int .i64 v,.int .i64 e])∧Below (((w.alloc (.cells #[.int .i64 op] 3)).alloc (.cells #[.int .i64 a] 3)).alloc (.cells #[.int .i64 b] 3)).heap.size (((w.alloc (.cells #[.int .i64 op] 3)).alloc (.cells #[.int .i64 a] 3)).alloc (.cells #[.int .i64 b] 3)) w') :
  Calls Tryz.prog 171 #[.int .i64 op,.int .i64 a,.int .i64 b] w fun e' w'=>e'=.returned (.tuple #[.int .i64 v,.int .i64 e])∧Below w.heap.size w w':=by
 have hmf:∀(fn:Fn) (first cap:Array Value) (w:World),(Instr.makeFunc fn first cap).run Tryz.prog w=.ok (.func fn first cap) w:=fun _ _ _ _=>rfl
 have H:Hid (Calls Tryz.prog 185 #[.func (.func 207) #[] #[.pointer (some ⟨w.heap.size,0,none⟩),.pointer (some ⟨w.heap.size+1,0,none⟩),.pointer (some ⟨w.heap.size+2,0,none⟩)]] (((w.alloc (.cells #[.int .i64 op] 3)).alloc (.cells #[.int .i64 a] 3)).alloc (.cells #[.int .i64 b] 3)) fun e' w'=>e'=.returned (.tuple #[.int .i64 v,.int .i64 e])∧Below (((w.alloc (.cells #[.int .i64 op] 3)).alloc (.cells #[.int .i64 a] 3)).alloc (.cells #[.int .i64 b] 3)).heap.size (((w.alloc (.cells #[.int .i64 op] 3)).alloc (.cells #[.int .i64 a] 3)).alloc (.cells #[.int .i64 b] 3)) w'):=h
 clear h
 go_enter Tryz.func171,Tryz.ntmps171
 go_wp2_with fail
 refine H.out.mono ?_
 clear H
 rintro e w1 ⟨rfl,hb⟩
 have Hb:=up3 hb
 clear hb
 go_wp2
 go_ret2
 exact⟨rfl,Hb⟩
theorem kW (op a b:Int) (v:Bool) (e:Int) (w:World)
  (h:Calls Tryz.prog 137 #[.func (.func 204) #[] #[.pointer (some ⟨w.heap.size,0,none⟩),.pointer (some ⟨w.heap.size+1,0,none⟩),.pointer (some ⟨w.heap.size+2,0,none⟩)]] (((w.alloc (.cells #[.int .i64 op] 3)).alloc (.cells #[.int .i64 a] 3)).alloc (.cells #[.int .i64 b] 3)) fun e' w'=>e'=.returned (.tuple #[.bool v,.int .i64 e])∧Below (((w.alloc (.cells #[.int .i64 op] 3)).alloc (.cells #[.int .i64 a] 3)).alloc (.cells #[.int .i64 b] 3)).heap.size (((w.alloc (.cells #[.int .i64 op] 3)).alloc (.cells #[.int .i64 a] 3)).alloc (.cells #[.int .i64 b] 3)) w') :
  Calls Tryz.prog 169 #[.int .i64 op,.int .i64 a,.int .i64 b] w fun e' w'=>e'=.returned (.tuple #[.bool v,.int .i64 e])∧Below w.heap.size w w':=by
 have hmf:∀(fn:Fn) (first cap:Array Value) (w:World),(Instr.makeFunc fn first cap).run Tryz.prog w=.ok (.func fn first cap) w:=fun _ _ _ _=>rfl
 have H:Hid (Calls Tryz.prog 137 #[.func (.func 204) #[] #[.pointer (some ⟨w.heap.size,0,none⟩),.pointer (some ⟨w.heap.size+1,0,none⟩),.pointer (some ⟨w.heap.size+2,0,none⟩)]] (((w.alloc (.cells #[.int .i64 op] 3)).alloc (.cells #[.int .i64 a] 3)).alloc (.cells #[.int .i64 b] 3)) fun e' w'=>e'=.returned (.tuple #[.bool v,.int .i64 e])∧Below (((w.alloc (.cells #[.int .i64 op] 3)).alloc (.cells #[.int .i64 a] 3)).alloc (.cells #[.int .i64 b] 3)).heap.size (((w.alloc (.cells #[.int .i64 op] 3)).alloc (.cells #[.int .i64 a] 3)).alloc (.cells #[.int .i64 b] 3)) w'):=h
 clear h
 go_enter Tryz.func169,Tryz.ntmps169
 go_wp2_with fail
 refine H.out.mono ?_
 clear H
 rintro e w1 ⟨rfl,hb⟩
 have Hb:=up3 hb
 clear hb
 go_wp2
 go_ret2
 exact⟨rfl,Hb⟩
theorem mI (op a b:Int) (w:World) :
  Calls Tryz.prog 171 #[.int .i64 op,.int .i64 a,.int .i64 b] w fun e' w'=>e'=.returned (.tuple #[.int .i64 (rV op a b),.int .i64 (iN op)])∧Below w.heap.size w w':=by
 have hbx:=box3 op a b w (.cells #[.int .i64 0] 22)
 by_cases h1:op=1
 ·subst h1
  exact fN 1 a b _ _ w (dS _ _ _ (((reckon1_1 a b _ _ _ _ hbx.1 hbx.2.1 hbx.2.2)).mono (fun e w' h=>⟨h.1,by simpa using h.2⟩)))
 by_cases h2:op=2
 ·subst h2
  exact fN 2 a b _ _ w (dS _ _ _ (((reckon1_2 a b _ _ _ _ hbx.1 hbx.2.1 hbx.2.2)).mono (fun e w' h=>⟨h.1,by simpa using h.2⟩)))
 by_cases h3:op=3
 ·subst h3
  exact fN 3 a b _ _ w (dS _ _ _ (((reckon1_3 a b _ _ _ _ hbx.1 hbx.2.1 hbx.2.2)).mono (fun e w' h=>⟨h.1,by simpa using h.2⟩)))
 by_cases h4:op=4
 ·subst h4
  exact fN 4 a b _ _ w (dS _ _ _ (((reckon1_4 a b _ _ _ _ hbx.1 hbx.2.1 hbx.2.2)).mono (fun e w' h=>⟨h.1,by simpa using h.2⟩)))
 by_cases h5:op=5
 ·subst h5
  exact fN 5 a b _ _ w (dS _ _ _ (((reckon1_5 a b _ _ _ _ hbx.1 hbx.2.1 hbx.2.2)).mono (fun e w' h=>⟨h.1,by simpa using h.2⟩)))
 by_cases h6:op=6
 ·subst h6
  exact fN 6 a b _ _ w (dS _ _ _ (((reckon1_6 a b _ _ _ _ hbx.1 hbx.2.1 hbx.2.2)).mono (fun e w' h=>⟨h.1,by simpa using h.2⟩)))
 ·have b1:(op==1)=false:=by simpa using h1
  have b2:(op==2)=false:=by simpa using h2
  have b3:(op==3)=false:=by simpa using h3
  have b4:(op==4)=false:=by simpa using h4
  have b5:(op==5)=false:=by simpa using h5
  have b6:(op==6)=false:=by simpa using h6
  have hf:Instr.findNow (.int .i64) (.int .i64 op) opsMap.toList 0=some none:=by simp only[opsMap,Instr.findNow,Instr.sameNow,if_true,b1,b2,b3,b4,b5,b6]
  have hv:rV op a b=0:=by simp[rV,h1,h2,h3,h4,h5,h6]
  have he:iN op=4:=by unfold iN;rw[if_neg (by omega)]
  rw[hv,he]
  exact fN op a b _ _ w (xU _ _ _ (((wQ op a b hf _ _ _ _ hbx.1 hbx.2.1 hbx.2.2)).mono (fun e w' h=>⟨h.1,by simpa using h.2⟩)))
theorem lJ (op a b:Int) (w:World) :
  Calls Tryz.prog 169 #[.int .i64 op,.int .i64 a,.int .i64 b] w fun e' w'=>e'=.returned (.tuple #[.bool (sT op a b),.int .i64 (iT op)])∧Below w.heap.size w w':=by
 have hbx:=box3 op a b w (.cells #[.int .i64 0] 22)
 by_cases h1:op=1
 ·subst h1
  exact kW 1 a b _ _ w (gR _ _ _ (((holds1_1 a b _ _ _ _ hbx.1 hbx.2.1 hbx.2.2)).mono (fun e w' h=>⟨h.1,by simpa using h.2⟩)))
 by_cases h2:op=2
 ·subst h2
  exact kW 2 a b _ _ w (gR _ _ _ (((holds1_2 a b _ _ _ _ hbx.1 hbx.2.1 hbx.2.2)).mono (fun e w' h=>⟨h.1,by simpa using h.2⟩)))
 by_cases h3:op=3
 ·subst h3
  exact kW 3 a b _ _ w (gR _ _ _ (((holds1_3 a b _ _ _ _ hbx.1 hbx.2.1 hbx.2.2)).mono (fun e w' h=>⟨h.1,by simpa using h.2⟩)))
 by_cases h4:op=4
 ·subst h4
  exact kW 4 a b _ _ w (gR _ _ _ (((holds1_4 a b _ _ _ _ hbx.1 hbx.2.1 hbx.2.2)).mono (fun e w' h=>⟨h.1,by simpa using h.2⟩)))
 ·have b1:(op==1)=false:=by simpa using h1
  have b2:(op==2)=false:=by simpa using h2
  have b3:(op==3)=false:=by simpa using h3
  have b4:(op==4)=false:=by simpa using h4
  have hf:Instr.findNow (.int .i64) (.int .i64 op) cmpMap.toList 0=some none:=by simp only[cmpMap,Instr.findNow,Instr.sameNow,if_true,b1,b2,b3,b4]
  have hv:sT op a b=false:=by simp[sT,h1,h2,h3,h4]
  have he:iT op=4:=by unfold iT;rw[if_neg (by omega)]
  rw[hv,he]
  exact kW op a b _ _ w (xX _ _ _ (((holds1_none op a b hf _ _ _ _ hbx.1 hbx.2.1 hbx.2.2)).mono (fun e w' h=>⟨h.1,by simpa using h.2⟩)))
def bD (k n reads:Int):Int:=if reads<0∨4<reads then 3 else if k=1 then 0 else if ¬k=2 then 4 else if n<0∨reads≤n then 3 else 0
theorem cT (k n reads:Int) (w:World) (hr:(Lit.int .i64 reads).wf=true) :
  Calls Tryz.prog 170 #[.agg #[.int .i64 k,.int .i64 n],.int .i64 reads] w fun e' w'=>e'=.returned (.int .i64 (bD k n reads))∧w'=w.alloc (.cells #[.int .i64 k,.int .i64 n] 97):=by
 have hr1:reads≤9223372036854775807:=by have h:=hr;simp only[Lit.wf,Bool.and_eq_true,decide_eq_true_eq]at h;exact h.2
 have hr0 : -9223372036854775808≤reads:=by have h:=hr;simp only[Lit.wf,Bool.and_eq_true,decide_eq_true_eq]at h;exact h.1
 clear hr
 by_cases h1:reads<0
 ·have hv:bD k n reads=3:=by unfold bD;rw[if_pos (by omega)]
  rw[hv]
  clear hv
  go_enter Tryz.func170,Tryz.ntmps170
  go_wp2
  go_ret
  exact⟨rfl,rfl⟩
 by_cases h2:4<reads
 ·have hv:bD k n reads=3:=by unfold bD;rw[if_pos (by omega)]
  rw[hv]
  clear hv
  go_enter Tryz.func170,Tryz.ntmps170
  go_wp2
  go_ret
  exact⟨rfl,rfl⟩
 by_cases h3:k=1
 ·subst h3
  have hv:bD 1 n reads=0:=by unfold bD;rw[if_neg (by omega),if_pos rfl]
  rw[hv]
  clear hv
  go_enter Tryz.func170,Tryz.ntmps170
  go_wp2
  go_ret
  exact⟨rfl,rfl⟩
 have b3:(k==1)=false:=by simpa using h3
 have c3:(k != 1)=true:=by simpa using h3
 by_cases h4:k=2
 ·subst h4
  clear h3 b3 c3
  by_cases h5:n<0
  ·have hv:bD 2 n reads=3:=by unfold bD;rw[if_neg (by omega),if_neg (by omega),if_neg (by omega),if_pos (by omega)]
   rw[hv]
   clear hv
   go_enter Tryz.func170,Tryz.ntmps170
   go_wp2
   go_ret
   exact⟨rfl,rfl⟩
  by_cases h6:reads≤n
  ·have hv:bD 2 n reads=3:=by unfold bD;rw[if_neg (by omega),if_neg (by omega),if_neg (by omega),if_pos (by omega)]
   rw[hv]
   clear hv
   go_enter Tryz.func170,Tryz.ntmps170
   go_wp2
   go_ret
   exact⟨rfl,rfl⟩
  have hv:bD 2 n reads=0:=by unfold bD;rw[if_neg (by omega),if_neg (by omega),if_neg (by omega),if_neg (by omega)]
  rw[hv]
  clear hv
  go_enter Tryz.func170,Tryz.ntmps170
  go_wp2
  go_ret
  exact⟨rfl,rfl⟩
 ·have b4:(k==2)=false:=by simpa using h4
  have c4:(k != 2)=true:=by simpa using h4
  have hv:bD k n reads=4:=by unfold bD;rw[if_neg (by omega),if_neg h3,if_pos h4]
  rw[hv]
  clear hv h3 h4
  go_enter Tryz.func170,Tryz.ntmps170
  go_wp2
  go_ret
  exact⟨rfl,rfl⟩
def IsInts (w:World) (a:Option Addr) (zs:List Int):Prop:=
 ∀i,i<zs.length→∃b off,a=some ⟨b,off,none⟩∧b<w.heap.size∧w.cell? ⟨b,off+i,none⟩=some (.int .i64 (zs.getD i 0))
theorem IsInts.below {w w':World} {a:Option Addr} {zs:List Int} (h:IsInts w a zs) (hb:Below w.heap.size w w'):IsInts w' a zs:=by
 intro i hi
 obtain⟨b,off,ha,hlt,hc⟩:=h i hi
 exact⟨b,off,ha,Nat.lt_of_lt_of_le hlt hb.size,by rw[hb.cell (p:=⟨b,off+i,none⟩) hlt];exact hc⟩
def fI (k n:Int) (zs:List Int):Int:=if bD k n zs.length=0 then (if k=1 then n else zs.getD n.toNat 0) else 0
theorem chk_two {k n:Int} {l:Int} (h:bD k n l=0) (hk:¬k=1):k=2∧0≤n∧n<l:=by
 unfold bD at h
 by_cases c1:l<0∨4<l
 ·rw[if_pos c1]at h;omega
 ·rw[if_neg c1,if_neg hk]at h
  by_cases c2:k=2
  ·rw[if_neg (by omega)]at h
   by_cases c3:n<0∨l≤n
   ·rw[if_pos c3]at h;omega
   ·omega
  ·rw[if_pos c2]at h;omega
theorem value_any (k n:Int) (zs:List Int) (a:Option Addr) (cap:Nat) (w:World) (hl:zs.length≤maxLen) (hz:IsInts w a zs) :
  Calls Tryz.prog 284 #[.agg #[.int .i64 k,.int .i64 n],.slice a zs.length cap] w fun e' w'=>e'=.returned (.tuple #[.int .i64 (fI k n zs),.int .i64 (bD k n zs.length)])∧w'=(w.alloc (.cells #[.int .i64 k,.int .i64 n] 97)).alloc (.cells #[.int .i64 k,.int .i64 n] 97):=by
 have hw:(Lit.int .i64 (zs.length:Int)).wf=true:=WalkArith.wf_i64 (by unfold maxLen at hl;omega)
 by_cases h0:bD k n zs.length=0
 ·have hb:(bD k n zs.length != 0)=false:=by simp[h0]
  by_cases hk:k=1
  ·subst hk
   have hv:fI 1 n zs=n:=by unfold fI;rw[if_pos h0,if_pos rfl]
   rw[hv]
   have H0:Hid (bD 1 n zs.length=0):=h0
   clear hv hz h0
   go_enter Tryz.func284,Tryz.ntmps284
   go_wp2_with fail
   refine(cT _ _ _ _ hw).mono ?_
   rintro e w1 ⟨rfl,rfl⟩
   go_wp2
   go_ret2
   exact⟨by rw[H0.out];rfl,rfl⟩
  ·obtain⟨rfl,hn0,hn1⟩:=chk_two h0 hk
   obtain⟨m,rfl⟩:=Int.eq_ofNat_of_zero_le hn0
   have hv:fI 2 (m:Int) zs=zs.getD m 0:=by unfold fI;rw[if_pos h0,if_neg hk,Int.toNat_natCast]
   rw[hv]
   obtain⟨b,off,rfl,hlt,hc⟩:=hz m (by omega)
   have hc2:∀o1 o2,((w.alloc o1).alloc o2).cell? ⟨b,off+m,none⟩=some (.int .i64 (zs.getD m 0)):=by
    intro o1 o2
    rw[World.cell?_alloc_lt _ _ _ (by simp;omega),World.cell?_alloc_lt _ _ _ (by simpa using hlt)];exact hc
   generalize zs.getD m 0=z at *
   have H0:Hid (bD 2 (m:Int) zs.length=0):=h0
   clear hv hz h0 hc
   go_enter Tryz.func284,Tryz.ntmps284
   go_wp2_with fail
   refine(cT _ _ _ _ hw).mono ?_
   rintro e w1 ⟨rfl,rfl⟩
   go_wp2
   go_ret2
   exact⟨by rw[H0.out];rfl,rfl⟩
 ·have hb:(bD k n zs.length != 0)=true:=by simpa using h0
  have hv:fI k n zs=0:=by unfold fI;rw[if_neg h0]
  rw[hv]
  clear hv hz h0
  go_enter Tryz.func284,Tryz.ntmps284
  go_wp2_with fail
  refine(cT _ _ _ _ hw).mono ?_
  rintro e w1 ⟨rfl,rfl⟩
  go_wp2
  go_ret2
  exact⟨rfl,rfl⟩
theorem gO (n:Int) (w:World):Calls Tryz.prog 101 #[.int .i64 n] w fun e' w'=>e'=.returned (.agg #[.int .i64 2,.int .i64 n])∧w'=w.alloc (.cells #[.int .i64 2,.int .i64 n] 97):=by
 go_enter Tryz.func101,Tryz.ntmps101
 go_wp2
 exact bodyPost_ret (v:=.agg #[.int .i64 2,.int .i64 n]) (by simp[results,Tryz.results101,go_sem]) rfl ⟨rfl,rfl⟩
theorem dG (n:Int) (w:World):Calls Tryz.prog 100 #[.int .i64 n] w fun e' w'=>e'=.returned (.agg #[.int .i64 1,.int .i64 n])∧w'=w.alloc (.cells #[.int .i64 1,.int .i64 n] 97):=by
 go_enter Tryz.func100,Tryz.ntmps100
 go_wp2
 exact bodyPost_ret (v:=.agg #[.int .i64 1,.int .i64 n]) (by simp[results,Tryz.results100,go_sem]) rfl ⟨rfl,rfl⟩
theorem isInts_two (w:World) (s:Nat) (x y:Int) (hs:s=w.heap.size):IsInts (w.alloc (.cells #[.int .i64 x,.int .i64 y] 3)) (some ⟨s,0,none⟩) [x,y]:=by
 subst hs
 intro i hi
 refine⟨w.heap.size,0,rfl,by simp,?_⟩
 match i,hi with
 | 0,_=>simp
 | 1,_=>simp
theorem aC {a b c:World} (h:Below a.heap.size a b) (k:Below b.heap.size b c):Below a.heap.size a c:=h.trans (k.mono h.size)
theorem aA {a w:World} (h:Below a.heap.size a w) (o:Obj):Below a.heap.size a (w.alloc o):=h.alloc h.size o
theorem aD {a w:World} (h:Below a.heap.size a w):Below a.heap.size a w.drew:=h.drew
theorem aI {a w:World} (h:Below a.heap.size a w) {p:Addr} (hp:a.heap.size≤p.block) (u:Value):Below a.heap.size a (w.setCell p u):=h.setCell hp u
section
open Go.ChangeShapes Go.WideShapes Go.ChangeAt Go.RowKit
theorem ownK:ownKnob Tryz.prog.godebug=none:=by kernel_rfl
theorem aBc:laidOutB Tryz.prog=true:=by kernel_rfl
end
end Go.Proofs.YtcgpkonfneofdaaGreatDoor
