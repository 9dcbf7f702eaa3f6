/- Conditions: those that each theorem states. -/
import Derived.WalkKit
import Derived.WalkSpells
import Derived.WalkLawsBesides
import Derived.Defers
import Derived.Recover
import Derived.ProofKit
import Derived.Laws.Pointers
import Derived.Deep.RegionHeld3
import Derived.Deep.QuietTactic
import Derived.BigQuiet
import Derived.Maps.OwnSet
import Derived.Test.YtcgpkonfneofdaaGreatDoorRows
import Derived.Deep.RegionHeld
set_option maxRecDepth 100000
set_option maxHeartbeats 8000000
namespace Go.Proofs.YtcgpkonfneofdaaGreatDoor
open Go.RowKit
theorem leave_ok (es:List Int) (b cap:Nat) (w:World) (hl:es.length≤8) (h0:∀k,es.getD k 0=0)
  (hc:∀k,k<es.length→w.cell? ⟨b,k,none⟩=some (.int .i64 (es.getD k 0))) :
  Calls Tryz.prog 15 #[.slice (some ⟨b,0,none⟩) es.length cap] w fun e w'=>e=.returned (.tuple #[])∧w'=w:=by
 go_enter Tryz.func15,Tryz.ntmps15
 go_wp2
 go_loop [3,6] (fun _ i=>∃k:Nat,k≤es.length∧i=.int .i64 k) (fun _ i=>es.length - (intOf i).toNat)
 case atStart=>exact⟨0,Nat.zero_le _,rfl⟩
 case round=>
  obtain⟨k,hk,rfl⟩:=hrel
  by_cases hlt:k<es.length
  ·have hck:w.cell? ⟨b,k,none⟩=some (.int .i64 0):=by rw[hc k hlt,h0 k]
   clear hc h0
   go_wp2
   go_round
   case rel=>exact⟨k+1,by omega,by go_num⟩
   case measure=>simp[intOf];omega
  ·go_wp2
   go_end0
   exact⟨rfl,rfl⟩
theorem cF (es:List Int) (n:Nat) (x:Int) (b cap:Nat) (w:World) (hl:es.length≤8) (hn:n<es.length) (h0:∀k,k<n→es.getD k 0=0) (hx:es.getD n 0=x) (hxn:¬x=0)
  (hc:∀k,k<es.length→w.cell? ⟨b,k,none⟩=some (.int .i64 (es.getD k 0))) :
  Calls Tryz.prog 15 #[.slice (some ⟨b,0,none⟩) es.length cap] w fun e w'=>e=.panicked [{v:=.iface 22 (.int .i64 x),recovered:=false}]∧w'=w:=by
 go_enter Tryz.func15,Tryz.ntmps15
 go_wp2
 go_loop [3,6] (fun _ i=>∃k:Nat,k≤n∧i=.int .i64 k) (fun _ i=>es.length - (intOf i).toNat)
 case atStart=>exact⟨0,Nat.zero_le _,rfl⟩
 case round=>
  obtain⟨k,hk,rfl⟩:=hrel
  by_cases hlt:k<n
  ·have hck:w.cell? ⟨b,k,none⟩=some (.int .i64 0):=by rw[hc k (by omega),h0 k hlt]
   clear hc h0 hx
   have hkl:k<es.length:=by omega
   go_wp2
   go_round
   case rel=>exact⟨k+1,by omega,by go_num⟩
   case measure=>simp[intOf];omega
  ·have hkn:k=n:=by omega
   subst hkn
   have hck:w.cell? ⟨b,k,none⟩=some (.int .i64 x):=by rw[hc k hn,hx]
   have hb:(x != 0)=true:=by simpa using hxn
   clear hc h0 hx hlt
   go_wp2
   exact⟨rfl,rfl,rfl⟩
theorem bG (x:Int) (w:World):(Instr.typeAssert (.iface 22 (.int .i64 x)) 20 22 false).run Tryz.prog w=.ok (.int .i64 x) w:=by kernel_rfl
theorem oG (p:Addr) (x y:Int) (older:List PanicEntry) (w:World) (hc:w.cell? p=some (.int .i64 y)) (hz:w.frozen? p=false) :
  CallsD Tryz.prog 221 #[.pointer (some p)] (.panicking ({v:=.iface 22 (.int .i64 x),recovered:=false}::older)) w fun e u' w'=>
   e=.returned (.tuple #[])∧u'=.panicking ({v:=.iface 22 (.int .i64 x),recovered:=true}::older)∧w'=w.setCell p (.int .i64 x):=by
 refine callsD_of_wpS Tryz.func221 rfl fun c₀ cs hu=>?_
 apply wpS_seq
 apply wpS_region
 simp[wpOpsS,go_sem,recoverD,hu,Tryz.ntmps221,Exit.thenS]
 apply wpS_seq
 apply wpS_region
 simp[wpOpsS,go_sem,Exit.thenS]
 refine wpS_cond (t:=true) (by simp[Act.eval,Array.replicate]) ?_
 simp only[if_true]
 apply wpS_region
 simp[wpOpsS,go_sem,bG,hc,hz,bodyPostS,results,Tryz.results221]
theorem yQ (p:Addr) (w:World) :
  CallsD Tryz.prog 221 #[.pointer (some p)] .returning w fun e u' w'=>e=.returned (.tuple #[])∧u'=.returning∧w'=w:=by
 refine callsD_of_wpS Tryz.func221 rfl fun c₀ cs hu=>?_
 apply wpS_seq
 apply wpS_region
 simp[wpOpsS,go_sem,recoverD,hu,Tryz.ntmps221,Exit.thenS]
 apply wpS_seq
 apply wpS_region
 simp[wpOpsS,go_sem,Exit.thenS]
 refine wpS_cond (t:=false) (by simp[Act.eval,Array.replicate]) ?_
 simp only[Bool.false_eq_true,if_false]
 refine wpS_of_wp (wp_skip ?_)
 cases c₀
 simp_all [bodyPostS,results,Tryz.results221]
theorem iW (p:Addr) (x y:Int) (older:List PanicEntry) (w:World) (hc:w.cell? p=some (.int .i64 y)) (hz:w.frozen? p=false) :
  CallsD Tryz.prog 164 #[.pointer (some p)] (.panicking ({v:=.iface 22 (.int .i64 x),recovered:=false}::older)) w fun e u' w'=>
   e=.returned (.tuple #[])∧u'=.panicking ({v:=.iface 22 (.int .i64 x),recovered:=true}::older)∧w'=w.setCell p (.int .i64 x):=by
 refine callsD_of_wpS Tryz.func164 rfl fun c₀ cs hu=>?_
 apply wpS_seq
 apply wpS_region
 simp[wpOpsS,go_sem,recoverD,hu,Tryz.ntmps164,Exit.thenS]
 apply wpS_seq
 apply wpS_region
 simp[wpOpsS,go_sem,Exit.thenS]
 refine wpS_cond (t:=true) (by simp[Act.eval,Array.replicate]) ?_
 simp only[if_true]
 apply wpS_region
 simp[wpOpsS,go_sem,bG,hc,hz,bodyPostS,results,Tryz.results164]
theorem oF (p:Addr) (w:World) :
  CallsD Tryz.prog 164 #[.pointer (some p)] .returning w fun e u' w'=>e=.returned (.tuple #[])∧u'=.returning∧w'=w:=by
 refine callsD_of_wpS Tryz.func164 rfl fun c₀ cs hu=>?_
 apply wpS_seq
 apply wpS_region
 simp[wpOpsS,go_sem,recoverD,hu,Tryz.ntmps164,Exit.thenS]
 apply wpS_seq
 apply wpS_region
 simp[wpOpsS,go_sem,Exit.thenS]
 refine wpS_cond (t:=false) (by simp[Act.eval,Array.replicate]) ?_
 simp only[Bool.false_eq_true,if_false]
 refine wpS_of_wp (wp_skip ?_)
 cases c₀
 simp_all [bodyPostS,results,Tryz.results164]
theorem oE (p:Addr) (x y:Int) (older:List PanicEntry) (w:World) (hc:w.cell? p=some (.int .i64 y)) (hz:w.frozen? p=false) :
  CallsD Tryz.prog 257 #[.pointer (some p)] (.panicking ({v:=.iface 22 (.int .i64 x),recovered:=false}::older)) w fun e u' w'=>
   e=.returned (.tuple #[])∧u'=.panicking ({v:=.iface 22 (.int .i64 x),recovered:=true}::older)∧w'=w.setCell p (.int .i64 x):=by
 refine callsD_of_wpS Tryz.func257 rfl fun c₀ cs hu=>?_
 apply wpS_seq
 apply wpS_region
 simp[wpOpsS,go_sem,recoverD,hu,Tryz.ntmps257,Exit.thenS]
 apply wpS_seq
 apply wpS_region
 simp[wpOpsS,go_sem,Exit.thenS]
 refine wpS_cond (t:=true) (by simp[Act.eval,Array.replicate]) ?_
 simp only[if_true]
 apply wpS_region
 simp[wpOpsS,go_sem,bG,hc,hz,bodyPostS,results,Tryz.results257]
theorem yP (p:Addr) (w:World) :
  CallsD Tryz.prog 257 #[.pointer (some p)] .returning w fun e u' w'=>e=.returned (.tuple #[])∧u'=.returning∧w'=w:=by
 refine callsD_of_wpS Tryz.func257 rfl fun c₀ cs hu=>?_
 apply wpS_seq
 apply wpS_region
 simp[wpOpsS,go_sem,recoverD,hu,Tryz.ntmps257,Exit.thenS]
 apply wpS_seq
 apply wpS_region
 simp[wpOpsS,go_sem,Exit.thenS]
 refine wpS_cond (t:=false) (by simp[Act.eval,Array.replicate]) ?_
 simp only[Bool.false_eq_true,if_false]
 refine wpS_of_wp (wp_skip ?_)
 cases c₀
 simp_all [bodyPostS,results,Tryz.results257]
theorem push_set {α:Type} (a:Array α) (x y:α):(a.push x).setIfInBounds a.size y=a.push y:=by
 apply Array.ext_getElem?
 intro i
 rw[Array.getElem?_setIfInBounds,Array.getElem?_push,Array.getElem?_push]
 by_cases h:a.size=i
 ·subst h;simp
 ·rw[if_neg h,if_neg (fun e=>h e.symm),if_neg (fun e=>h e.symm)]
theorem fT {t e:TypeId} (ht:Tryz.prog.underlying t=some (.map 3 e)) (w:World) (es:Array MapEntry) (clock:Nat) (n:Int) (v:Value) (hn:Instr.findNow (.int .i64) (.int .i64 n) es.toList 0=some none) :
  (Instr.mapUpdate t (.map (some w.heap.size)) (.int .i64 n) v).run Tryz.prog (w.alloc (.map es clock))=.ok () (w.alloc (.map (es.push ⟨.int .i64 n,v,clock⟩) (clock+1))):=by
 have hb:(w.alloc (.map es clock)).heap[w.heap.size]?=some (.map es clock):=by show (w.heap.push _)[w.heap.size]?=_;simp
 have hk:MapKept.IsKey (.int .i64) (.int .i64 n):=by simp[MapKept.IsKey]
 simp[Instr.mapUpdate,run_underlying ht,MapKept.run_getObj_map hb,MapKept.run_checkKey Tryz.underlying3 hk,MapKept.run_findKey Tryz.underlying3 hn,MapKept.run_setObj_map _ hb,Result.andThen]
 have he:(w.alloc (.map es clock)).heap.setIfInBounds w.heap.size (.map (es.push ⟨.int .i64 n,v,clock⟩) (clock+1))=w.heap.push (.map (es.push ⟨.int .i64 n,v,clock⟩) (clock+1)):=by
  show (w.heap.push _).setIfInBounds w.heap.size _=_
  exact push_set _ _ _
 rw[he]
 rfl
theorem uQ {t e:TypeId} (ht:Tryz.prog.underlying t=some (.map 3 e)) (w:World) (es:Array MapEntry) (clock r:Nat) (hb:w.heap[r]?=some (.map es clock)) (n:Int) (j:Nat) (v:Value) (hn:Instr.findNow (.int .i64) (.int .i64 n) es.toList 0=some (some (j,v))) :
  (Instr.lookup t (.map (some r)) (.int .i64 n) true).run Tryz.prog w=.ok (.tuple #[v,.bool true]) w:=by
 have hk:MapKept.IsKey (.int .i64) (.int .i64 n):=by simp[MapKept.IsKey]
 simp[Instr.lookup,run_underlying ht,MapKept.run_getObj_map hb,MapKept.run_checkKey Tryz.underlying3 hk,MapKept.run_findKey Tryz.underlying3 hn,Result.andThen]
theorem uR {t e:TypeId} (ht:Tryz.prog.underlying t=some (.map 3 e)) (w:World) (es:Array MapEntry) (clock r:Nat) (hb:w.heap[r]?=some (.map es clock)) (n:Int) (z:Value) (hz:∀w,(zeroValue e).run Tryz.prog w=.ok z w) (hn:Instr.findNow (.int .i64) (.int .i64 n) es.toList 0=some none) :
  (Instr.lookup t (.map (some r)) (.int .i64 n) true).run Tryz.prog w=.ok (.tuple #[z,.bool false]) w:=by
 have hk:MapKept.IsKey (.int .i64) (.int .i64 n):=by simp[MapKept.IsKey]
 simp[Instr.lookup,run_underlying ht,MapKept.run_getObj_map hb,MapKept.run_checkKey Tryz.underlying3 hk,MapKept.run_findKey Tryz.underlying3 hn,Result.andThen,hz]
theorem dM {P:Program} {f:FuncId} {args:Array Value} {w:World} {R:Ending→World→Prop} (h:Calls P f args w R) (v:Value) :
  Calls P f args w fun e w'=>R e w'∨(Hid False∧e=.returned v∧w'=w):=h.mono fun _ _ h=>Or.inl h
def opsMap:Array MapEntry:=#[⟨.int .i64 1,.func (.func 249) #[] #[],0⟩,⟨.int .i64 2,.func (.func 250) #[] #[],1⟩,⟨.int .i64 3,.func (.func 251) #[] #[],2⟩,⟨.int .i64 4,.func (.func 252) #[] #[],3⟩,⟨.int .i64 5,.func (.func 253) #[] #[],4⟩,⟨.int .i64 6,.func (.func 254) #[] #[],5⟩]
theorem cG (w:World) :
  Calls Tryz.prog 209 #[] w fun e w'=>e=.returned (.map (some w.heap.size))∧w'=w.alloc (.map opsMap 6):=by
 have hmm:=@run_makeMap Tryz.prog
 have h0:=fun (w:World)=>fT Tryz.underlying234 w #[] 0 1 (.func (.func 249) #[] #[]) rfl
 have h1:=fun (w:World)=>fT Tryz.underlying234 w #[⟨.int .i64 1,.func (.func 249) #[] #[],0⟩] 1 2 (.func (.func 250) #[] #[]) rfl
 have h2:=fun (w:World)=>fT Tryz.underlying234 w #[⟨.int .i64 1,.func (.func 249) #[] #[],0⟩,⟨.int .i64 2,.func (.func 250) #[] #[],1⟩] 2 3 (.func (.func 251) #[] #[]) rfl
 have h3:=fun (w:World)=>fT Tryz.underlying234 w #[⟨.int .i64 1,.func (.func 249) #[] #[],0⟩,⟨.int .i64 2,.func (.func 250) #[] #[],1⟩,⟨.int .i64 3,.func (.func 251) #[] #[],2⟩] 3 4 (.func (.func 252) #[] #[]) rfl
 have h4:=fun (w:World)=>fT Tryz.underlying234 w #[⟨.int .i64 1,.func (.func 249) #[] #[],0⟩,⟨.int .i64 2,.func (.func 250) #[] #[],1⟩,⟨.int .i64 3,.func (.func 251) #[] #[],2⟩,⟨.int .i64 4,.func (.func 252) #[] #[],3⟩] 4 5 (.func (.func 253) #[] #[]) rfl
 have h5:=fun (w:World)=>fT Tryz.underlying234 w #[⟨.int .i64 1,.func (.func 249) #[] #[],0⟩,⟨.int .i64 2,.func (.func 250) #[] #[],1⟩,⟨.int .i64 3,.func (.func 251) #[] #[],2⟩,⟨.int .i64 4,.func (.func 252) #[] #[],3⟩,⟨.int .i64 5,.func (.func 253) #[] #[],4⟩] 5 6 (.func (.func 254) #[] #[]) rfl
 simp only[List.push_toArray,List.nil_append,List.cons_append,Nat.reduceAdd,Nat.zero_add]at h0 h1 h2 h3 h4 h5
 go_enter Tryz.func209,Tryz.ntmps209
 go_wp2
 go_ret
 exact⟨rfl,rfl⟩
theorem cE (op:Int) (j:Nat) (v:Value) (hf:Instr.findNow (.int .i64) (.int .i64 op) opsMap.toList 0=some (some (j,v))) (r:Nat) (w:World) (hr:w.heap[r]?=some (.map opsMap 6)) :
  Calls Tryz.prog 208 #[.map (some r),.int .i64 op] w fun e w'=>e=.returned v∧w'=w:=by
 have hl:=uQ Tryz.underlying234 w opsMap 6 r hr op j v hf
 clear hf hr
 go_enter Tryz.func208,Tryz.ntmps208
 go_wp2
 go_ret
 exact⟨rfl,rfl⟩
theorem qG (op:Int) (hf:Instr.findNow (.int .i64) (.int .i64 op) opsMap.toList 0=some none) (r:Nat) (w:World) (hr:w.heap[r]?=some (.map opsMap 6)) :
  Calls Tryz.prog 208 #[.map (some r),.int .i64 op] w fun e w'=>e=.panicked [{v:=.iface 22 (.int .i64 4),recovered:=false}]∧w'=w.alloc (.cells #[.int .i64 4] 22):=by
 have hl:=uR Tryz.underlying234 w opsMap 6 r hr op .nilFunc (fun _=>rfl) hf
 clear hf hr
 go_enter Tryz.func208,Tryz.ntmps208
 go_wp2_with fail
 refine(cF [4] 0 4 w.heap.size 1 _ (by simp) (by simp) (by simp) rfl (by decide) (by simp)).mono ?_
 rintro e w' ⟨rfl,rfl⟩
 go_wp2
 exact⟨rfl,rfl,rfl⟩
def cmpMap:Array MapEntry:=#[⟨.int .i64 1,.func (.func 245) #[] #[],0⟩,⟨.int .i64 2,.func (.func 246) #[] #[],1⟩,⟨.int .i64 3,.func (.func 247) #[] #[],2⟩,⟨.int .i64 4,.func (.func 248) #[] #[],3⟩]
theorem dC (w:World) :
  Calls Tryz.prog 206 #[] w fun e w'=>e=.returned (.map (some w.heap.size))∧w'=w.alloc (.map cmpMap 4):=by
 have hmm:=@run_makeMap Tryz.prog
 have h0:=fun (w:World)=>fT Tryz.underlying231 w #[] 0 1 (.func (.func 245) #[] #[]) rfl
 have h1:=fun (w:World)=>fT Tryz.underlying231 w #[⟨.int .i64 1,.func (.func 245) #[] #[],0⟩] 1 2 (.func (.func 246) #[] #[]) rfl
 have h2:=fun (w:World)=>fT Tryz.underlying231 w #[⟨.int .i64 1,.func (.func 245) #[] #[],0⟩,⟨.int .i64 2,.func (.func 246) #[] #[],1⟩] 2 3 (.func (.func 247) #[] #[]) rfl
 have h3:=fun (w:World)=>fT Tryz.underlying231 w #[⟨.int .i64 1,.func (.func 245) #[] #[],0⟩,⟨.int .i64 2,.func (.func 246) #[] #[],1⟩,⟨.int .i64 3,.func (.func 247) #[] #[],2⟩] 3 4 (.func (.func 248) #[] #[]) rfl
 simp only[List.push_toArray,List.nil_append,List.cons_append,Nat.reduceAdd,Nat.zero_add]at h0 h1 h2 h3
 go_enter Tryz.func206,Tryz.ntmps206
 go_wp2
 go_ret
 exact⟨rfl,rfl⟩
theorem dL (op:Int) (j:Nat) (v:Value) (hf:Instr.findNow (.int .i64) (.int .i64 op) cmpMap.toList 0=some (some (j,v))) (r:Nat) (w:World) (hr:w.heap[r]?=some (.map cmpMap 4)) :
  Calls Tryz.prog 205 #[.map (some r),.int .i64 op] w fun e w'=>e=.returned v∧w'=w:=by
 have hl:=uQ Tryz.underlying231 w cmpMap 4 r hr op j v hf
 clear hf hr
 go_enter Tryz.func205,Tryz.ntmps205
 go_wp2
 go_ret
 exact⟨rfl,rfl⟩
theorem oW (op:Int) (hf:Instr.findNow (.int .i64) (.int .i64 op) cmpMap.toList 0=some none) (r:Nat) (w:World) (hr:w.heap[r]?=some (.map cmpMap 4)) :
  Calls Tryz.prog 205 #[.map (some r),.int .i64 op] w fun e w'=>e=.panicked [{v:=.iface 22 (.int .i64 4),recovered:=false}]∧w'=w.alloc (.cells #[.int .i64 4] 22):=by
 have hl:=uR Tryz.underlying231 w cmpMap 4 r hr op .nilFunc (fun _=>rfl) hf
 clear hf hr
 go_enter Tryz.func205,Tryz.ntmps205
 go_wp2_with fail
 refine(cF [4] 0 4 w.heap.size 1 _ (by simp) (by simp) (by simp) rfl (by decide) (by simp)).mono ?_
 rintro e w' ⟨rfl,rfl⟩
 go_wp2
 exact⟨rfl,rfl,rfl⟩
def sQ (a b:Int):Int:=if b<a then b else a
def nM (a b:Int):Int:=if a<b then b else a
theorem cl54 (a b:Int) (w:World):Calls Tryz.prog 249 #[.int .i64 a,.int .i64 b] w fun e w'=>e=.returned (.int .i64 a)∧w'=w:=by
 go_enter Tryz.func249,Tryz.ntmps249
 go_wp2
 go_ret
 exact⟨rfl,rfl⟩
theorem cl55 (a b:Int) (w:World):Calls Tryz.prog 250 #[.int .i64 a,.int .i64 b] w fun e w'=>e=.returned (.int .i64 (wrap64 (a+b)))∧w'=w:=by
 go_enter Tryz.func250,Tryz.ntmps250
 go_wp2
 go_ret
 exact⟨rfl,rfl⟩
theorem cl56 (a b:Int) (w:World):Calls Tryz.prog 251 #[.int .i64 a,.int .i64 b] w fun e w'=>e=.returned (.int .i64 (wrap64 (a - b)))∧w'=w:=by
 go_enter Tryz.func251,Tryz.ntmps251
 go_wp2
 go_ret
 exact⟨rfl,rfl⟩
theorem cl57 (a b:Int) (w:World):Calls Tryz.prog 252 #[.int .i64 a,.int .i64 b] w fun e w'=>e=.returned (.int .i64 (wrap64 (a*b)))∧w'=w:=by
 go_enter Tryz.func252,Tryz.ntmps252
 go_wp2
 go_ret
 exact⟨rfl,rfl⟩
theorem cl61 (a b:Int) (w:World):Calls Tryz.prog 245 #[.int .i64 a,.int .i64 b] w fun e w'=>e=.returned (.bool (a==b))∧w'=w:=by
 go_enter Tryz.func245,Tryz.ntmps245
 go_wp2
 go_ret
 exact⟨rfl,rfl⟩
theorem cl62 (a b:Int) (w:World):Calls Tryz.prog 246 #[.int .i64 a,.int .i64 b] w fun e w'=>e=.returned (.bool (a != b))∧w'=w:=by
 go_enter Tryz.func246,Tryz.ntmps246
 go_wp2
 go_ret
 exact⟨rfl,rfl⟩
theorem cl63 (a b:Int) (w:World):Calls Tryz.prog 247 #[.int .i64 a,.int .i64 b] w fun e w'=>e=.returned (.bool (decide (a<b)))∧w'=w:=by
 go_enter Tryz.func247,Tryz.ntmps247
 go_wp2
 go_ret
 exact⟨rfl,rfl⟩
theorem cl64 (a b:Int) (w:World):Calls Tryz.prog 248 #[.int .i64 a,.int .i64 b] w fun e w'=>e=.returned (.bool (decide (a≤b)))∧w'=w:=by
 go_enter Tryz.func248,Tryz.ntmps248
 go_wp2
 go_ret
 exact⟨rfl,rfl⟩
theorem cl58 (a b:Int) (w:World):Calls Tryz.prog 253 #[.int .i64 a,.int .i64 b] w fun e w'=>e=.returned (.int .i64 (sQ a b))∧w'=w:=by
 unfold sQ
 go_enter Tryz.func253,Tryz.ntmps253
 go_wp2
 all_goals go_ret
 all_goals exact⟨rfl,rfl⟩
theorem cl59 (a b:Int) (w:World):Calls Tryz.prog 254 #[.int .i64 a,.int .i64 b] w fun e w'=>e=.returned (.int .i64 (nM a b))∧w'=w:=by
 unfold nM
 go_enter Tryz.func254,Tryz.ntmps254
 go_wp2
 all_goals go_ret
 all_goals exact⟨rfl,rfl⟩
theorem dS (cap:Array Value) (v:Int) (w:World)
  (h:Calls Tryz.prog 207 cap (w.alloc (.cells #[.int .i64 0] 22)) fun e w'=>e=.returned (.int .i64 v)∧Below (w.heap.size+1) (w.alloc (.cells #[.int .i64 0] 22)) w') :
  Calls Tryz.prog 185 #[.func (.func 207) #[] cap] w fun e w'=>e=.returned (.tuple #[.int .i64 v,.int .i64 0])∧Below w.heap.size w w':=by
 have hmf:∀(fn:Fn) (first cap:Array Value) (w:World),(Instr.makeFunc fn first cap).run Tryz.prog w=.ok (.func fn first cap) w:=fun _ _ _ _=>rfl
 have H:Hid (Calls Tryz.prog 207 cap (w.alloc (.cells #[.int .i64 0] 22)) fun e w'=>e=.returned (.int .i64 v)∧Below (w.heap.size+1) (w.alloc (.cells #[.int .i64 0] 22)) w'):=h
 clear h
 go_enter_defers Tryz.func185,Tryz.ntmps185
 go_wp2_with fail
 refine H.out.mono ?_
 clear H
 rintro e w1 ⟨rfl,hb⟩
 have hc:w1.cell? ⟨w.heap.size,0,none⟩=some (.int .i64 0):=by rw[hb.cell (by simp)];simp
 have hf:w1.frozen? ⟨w.heap.size,0,none⟩=false:=by rw[hb.frozen (by simp)];simp
 have Hb:Hid (Below (w.heap.size+1) (w.alloc (.cells #[.int .i64 0] 22)) w1):=hb
 clear hb
 go_wp2
 refine leaves_cons (f:=221) (args:=#[.pointer (some ⟨w.heap.size,0,none⟩)]) (by simp) (by simp[go_sem]) ?_
 refine(yQ ⟨w.heap.size,0,none⟩ _).mono ?_
 rintro e u' w'' ⟨rfl,rfl,rfl⟩
 simp[Leaves,settle,results,Tryz.results185,go_sem,hc]
 have hb:=Hb.out
 exact((Below.refl _ _).alloc (Nat.le_refl _) _ |>.trans (hb.mono (by omega))).setCell (by simp) _
theorem xU (cap:Array Value) (x:Int) (w:World)
  (h:Calls Tryz.prog 207 cap (w.alloc (.cells #[.int .i64 0] 22)) fun e w'=>e=.panicked [{v:=.iface 22 (.int .i64 x),recovered:=false}]∧Below (w.heap.size+1) (w.alloc (.cells #[.int .i64 0] 22)) w') :
  Calls Tryz.prog 185 #[.func (.func 207) #[] cap] w fun e w'=>e=.returned (.tuple #[.int .i64 0,.int .i64 x])∧Below w.heap.size w w':=by
 have hmf:∀(fn:Fn) (first cap:Array Value) (w:World),(Instr.makeFunc fn first cap).run Tryz.prog w=.ok (.func fn first cap) w:=fun _ _ _ _=>rfl
 have H:Hid (Calls Tryz.prog 207 cap (w.alloc (.cells #[.int .i64 0] 22)) fun e w'=>e=.panicked [{v:=.iface 22 (.int .i64 x),recovered:=false}]∧Below (w.heap.size+1) (w.alloc (.cells #[.int .i64 0] 22)) w'):=h
 clear h
 go_enter_defers Tryz.func185,Tryz.ntmps185
 go_wp2_with fail
 refine H.out.mono ?_
 clear H
 rintro e w1 ⟨rfl,hb⟩
 have hc:w1.cell? ⟨w.heap.size,0,none⟩=some (.int .i64 0):=by rw[hb.cell (by simp)];simp
 have hf:w1.frozen? ⟨w.heap.size,0,none⟩=false:=by rw[hb.frozen (by simp)];simp
 refine leaves_cons (f:=221) (args:=#[.pointer (some ⟨w.heap.size,0,none⟩)]) (by simp) (by simp[go_sem]) ?_
 refine(oG ⟨w.heap.size,0,none⟩ x 0 [] _ hc hf).mono ?_
 rintro e u' w'' ⟨rfl,rfl,rfl⟩
 simp[Leaves,settle,results,Tryz.results185,go_sem,hc]
 exact((Below.refl _ _).alloc (Nat.le_refl _) _ |>.trans (hb.mono (by omega))).setCell (by simp) _
theorem gR (cap:Array Value) (v:Bool) (w:World)
  (h:Calls Tryz.prog 204 cap (w.alloc (.cells #[.int .i64 0] 22)) fun e w'=>e=.returned (.bool v)∧Below (w.heap.size+1) (w.alloc (.cells #[.int .i64 0] 22)) w') :
  Calls Tryz.prog 137 #[.func (.func 204) #[] cap] w fun e w'=>e=.returned (.tuple #[.bool v,.int .i64 0])∧Below w.heap.size w w':=by
 have hmf:∀(fn:Fn) (first cap:Array Value) (w:World),(Instr.makeFunc fn first cap).run Tryz.prog w=.ok (.func fn first cap) w:=fun _ _ _ _=>rfl
 have H:Hid (Calls Tryz.prog 204 cap (w.alloc (.cells #[.int .i64 0] 22)) fun e w'=>e=.returned (.bool v)∧Below (w.heap.size+1) (w.alloc (.cells #[.int .i64 0] 22)) w'):=h
 clear h
 go_enter_defers Tryz.func137,Tryz.ntmps137
 go_wp2_with fail
 refine H.out.mono ?_
 clear H
 rintro e w1 ⟨rfl,hb⟩
 have hc:w1.cell? ⟨w.heap.size,0,none⟩=some (.int .i64 0):=by rw[hb.cell (by simp)];simp
 have hf:w1.frozen? ⟨w.heap.size,0,none⟩=false:=by rw[hb.frozen (by simp)];simp
 have Hb:Hid (Below (w.heap.size+1) (w.alloc (.cells #[.int .i64 0] 22)) w1):=hb
 clear hb
 go_wp2
 refine leaves_cons (f:=164) (args:=#[.pointer (some ⟨w.heap.size,0,none⟩)]) (by simp) (by simp[go_sem]) ?_
 refine(oF ⟨w.heap.size,0,none⟩ _).mono ?_
 rintro e u' w'' ⟨rfl,rfl,rfl⟩
 simp[Leaves,settle,results,Tryz.results137,go_sem,hc]
 have hb:=Hb.out
 exact((Below.refl _ _).alloc (Nat.le_refl _) _ |>.trans (hb.mono (by omega))).setCell (by simp) _
theorem xX (cap:Array Value) (x:Int) (w:World)
  (h:Calls Tryz.prog 204 cap (w.alloc (.cells #[.int .i64 0] 22)) fun e w'=>e=.panicked [{v:=.iface 22 (.int .i64 x),recovered:=false}]∧Below (w.heap.size+1) (w.alloc (.cells #[.int .i64 0] 22)) w') :
  Calls Tryz.prog 137 #[.func (.func 204) #[] cap] w fun e w'=>e=.returned (.tuple #[.bool false,.int .i64 x])∧Below w.heap.size w w':=by
 have hmf:∀(fn:Fn) (first cap:Array Value) (w:World),(Instr.makeFunc fn first cap).run Tryz.prog w=.ok (.func fn first cap) w:=fun _ _ _ _=>rfl
 have H:Hid (Calls Tryz.prog 204 cap (w.alloc (.cells #[.int .i64 0] 22)) fun e w'=>e=.panicked [{v:=.iface 22 (.int .i64 x),recovered:=false}]∧Below (w.heap.size+1) (w.alloc (.cells #[.int .i64 0] 22)) w'):=h
 clear h
 go_enter_defers Tryz.func137,Tryz.ntmps137
 go_wp2_with fail
 refine H.out.mono ?_
 clear H
 rintro e w1 ⟨rfl,hb⟩
 have hc:w1.cell? ⟨w.heap.size,0,none⟩=some (.int .i64 0):=by rw[hb.cell (by simp)];simp
 have hf:w1.frozen? ⟨w.heap.size,0,none⟩=false:=by rw[hb.frozen (by simp)];simp
 refine leaves_cons (f:=164) (args:=#[.pointer (some ⟨w.heap.size,0,none⟩)]) (by simp) (by simp[go_sem]) ?_
 refine(iW ⟨w.heap.size,0,none⟩ x 0 [] _ hc hf).mono ?_
 rintro e u' w'' ⟨rfl,rfl,rfl⟩
 simp[Leaves,settle,results,Tryz.results137,go_sem,hc]
 exact((Below.refl _ _).alloc (Nat.le_refl _) _ |>.trans (hb.mono (by omega))).setCell (by simp) _
theorem xY (cap:Array Value) (v:Bool) (w:World)
  (h:Calls Tryz.prog 138 cap (w.alloc (.cells #[.int .i64 0] 22)) fun e w'=>e=.returned (.bool v)∧Below (w.heap.size+1) (w.alloc (.cells #[.int .i64 0] 22)) w') :
  Calls Tryz.prog 137 #[.func (.func 138) #[] cap] w fun e w'=>e=.returned (.tuple #[.bool v,.int .i64 0])∧Below w.heap.size w w':=by
 have hmf:∀(fn:Fn) (first cap:Array Value) (w:World),(Instr.makeFunc fn first cap).run Tryz.prog w=.ok (.func fn first cap) w:=fun _ _ _ _=>rfl
 have H:Hid (Calls Tryz.prog 138 cap (w.alloc (.cells #[.int .i64 0] 22)) fun e w'=>e=.returned (.bool v)∧Below (w.heap.size+1) (w.alloc (.cells #[.int .i64 0] 22)) w'):=h
 clear h
 go_enter_defers Tryz.func137,Tryz.ntmps137
 go_wp2_with fail
 refine H.out.mono ?_
 clear H
 rintro e w1 ⟨rfl,hb⟩
 have hc:w1.cell? ⟨w.heap.size,0,none⟩=some (.int .i64 0):=by rw[hb.cell (by simp)];simp
 have hf:w1.frozen? ⟨w.heap.size,0,none⟩=false:=by rw[hb.frozen (by simp)];simp
 have Hb:Hid (Below (w.heap.size+1) (w.alloc (.cells #[.int .i64 0] 22)) w1):=hb
 clear hb
 go_wp2
 refine leaves_cons (f:=164) (args:=#[.pointer (some ⟨w.heap.size,0,none⟩)]) (by simp) (by simp[go_sem]) ?_
 refine(oF ⟨w.heap.size,0,none⟩ _).mono ?_
 rintro e u' w'' ⟨rfl,rfl,rfl⟩
 simp[Leaves,settle,results,Tryz.results137,go_sem,hc]
 have hb:=Hb.out
 exact((Below.refl _ _).alloc (Nat.le_refl _) _ |>.trans (hb.mono (by omega))).setCell (by simp) _
theorem gS (cap:Array Value) (x:Int) (w:World)
  (h:Calls Tryz.prog 138 cap (w.alloc (.cells #[.int .i64 0] 22)) fun e w'=>e=.panicked [{v:=.iface 22 (.int .i64 x),recovered:=false}]∧Below (w.heap.size+1) (w.alloc (.cells #[.int .i64 0] 22)) w') :
  Calls Tryz.prog 137 #[.func (.func 138) #[] cap] w fun e w'=>e=.returned (.tuple #[.bool false,.int .i64 x])∧Below w.heap.size w w':=by
 have hmf:∀(fn:Fn) (first cap:Array Value) (w:World),(Instr.makeFunc fn first cap).run Tryz.prog w=.ok (.func fn first cap) w:=fun _ _ _ _=>rfl
 have H:Hid (Calls Tryz.prog 138 cap (w.alloc (.cells #[.int .i64 0] 22)) fun e w'=>e=.panicked [{v:=.iface 22 (.int .i64 x),recovered:=false}]∧Below (w.heap.size+1) (w.alloc (.cells #[.int .i64 0] 22)) w'):=h
 clear h
 go_enter_defers Tryz.func137,Tryz.ntmps137
 go_wp2_with fail
 refine H.out.mono ?_
 clear H
 rintro e w1 ⟨rfl,hb⟩
 have hc:w1.cell? ⟨w.heap.size,0,none⟩=some (.int .i64 0):=by rw[hb.cell (by simp)];simp
 have hf:w1.frozen? ⟨w.heap.size,0,none⟩=false:=by rw[hb.frozen (by simp)];simp
 refine leaves_cons (f:=164) (args:=#[.pointer (some ⟨w.heap.size,0,none⟩)]) (by simp) (by simp[go_sem]) ?_
 refine(iW ⟨w.heap.size,0,none⟩ x 0 [] _ hc hf).mono ?_
 rintro e u' w'' ⟨rfl,rfl,rfl⟩
 simp[Leaves,settle,results,Tryz.results137,go_sem,hc]
 exact((Below.refl _ _).alloc (Nat.le_refl _) _ |>.trans (hb.mono (by omega))).setCell (by simp) _
theorem reckon1_1 (a b:Int) (p0 p1 p2:Nat) (w:World) (h0:w.cell? ⟨p0,0,none⟩=some (.int .i64 1)) (h1:w.cell? ⟨p1,0,none⟩=some (.int .i64 a)) (h2:w.cell? ⟨p2,0,none⟩=some (.int .i64 b)) :
  Calls Tryz.prog 207 #[.pointer (some ⟨p0,0,none⟩),.pointer (some ⟨p1,0,none⟩),.pointer (some ⟨p2,0,none⟩)] w fun e w'=>e=.returned (.int .i64 a)∧Below w.heap.size w w':=by
 have e0:=World.new_ne w _ h0
 have e1:=World.new_ne w _ h1
 have e2:=World.new_ne w _ h2
 go_enter Tryz.func207,Tryz.ntmps207
 go_wp2_with fail
 go_region_held3 (fun w'=>w'.cell? ⟨p0,0,none⟩=some (.int .i64 1)∧w'.cell? ⟨p1,0,none⟩=some (.int .i64 a)∧w'.cell? ⟨p2,0,none⟩=some (.int .i64 b)) (go_keep)
  (first
   | (go_at_call 209;refine(cG _).mono ?_;rintro e w' ⟨rfl,rfl⟩)
   | (go_at_call 208;refine(cE 1 0 (.func (.func 249) #[] #[]) rfl _ _ ?_).mono ?_;(show (w.heap.push _)[w.heap.size]?=_;simp);rintro e w' ⟨rfl,rfl⟩)
   | (go_at_call 249;refine(cl54 _ _ _).mono ?_;rintro e w' ⟨rfl,rfl⟩))
 go_wp2
 go_ret
 exact⟨rfl,((Below.refl _ _).alloc (Nat.le_refl _) _).drew⟩
theorem reckon1_2 (a b:Int) (p0 p1 p2:Nat) (w:World) (h0:w.cell? ⟨p0,0,none⟩=some (.int .i64 2)) (h1:w.cell? ⟨p1,0,none⟩=some (.int .i64 a)) (h2:w.cell? ⟨p2,0,none⟩=some (.int .i64 b)) :
  Calls Tryz.prog 207 #[.pointer (some ⟨p0,0,none⟩),.pointer (some ⟨p1,0,none⟩),.pointer (some ⟨p2,0,none⟩)] w fun e w'=>e=.returned (.int .i64 (wrap64 (a+b)))∧Below w.heap.size w w':=by
 have e0:=World.new_ne w _ h0
 have e1:=World.new_ne w _ h1
 have e2:=World.new_ne w _ h2
 go_enter Tryz.func207,Tryz.ntmps207
 go_wp2_with fail
 go_region_held3 (fun w'=>w'.cell? ⟨p0,0,none⟩=some (.int .i64 2)∧w'.cell? ⟨p1,0,none⟩=some (.int .i64 a)∧w'.cell? ⟨p2,0,none⟩=some (.int .i64 b)) (go_keep)
  (first
   | (go_at_call 209;refine(cG _).mono ?_;rintro e w' ⟨rfl,rfl⟩)
   | (go_at_call 208;refine(cE 2 1 (.func (.func 250) #[] #[]) rfl _ _ ?_).mono ?_;(show (w.heap.push _)[w.heap.size]?=_;simp);rintro e w' ⟨rfl,rfl⟩)
   | (go_at_call 250;refine(cl55 _ _ _).mono ?_;rintro e w' ⟨rfl,rfl⟩))
 go_wp2
 go_ret
 exact⟨rfl,((Below.refl _ _).alloc (Nat.le_refl _) _).drew⟩
theorem reckon1_3 (a b:Int) (p0 p1 p2:Nat) (w:World) (h0:w.cell? ⟨p0,0,none⟩=some (.int .i64 3)) (h1:w.cell? ⟨p1,0,none⟩=some (.int .i64 a)) (h2:w.cell? ⟨p2,0,none⟩=some (.int .i64 b)) :
  Calls Tryz.prog 207 #[.pointer (some ⟨p0,0,none⟩),.pointer (some ⟨p1,0,none⟩),.pointer (some ⟨p2,0,none⟩)] w fun e w'=>e=.returned (.int .i64 (wrap64 (a - b)))∧Below w.heap.size w w':=by
 have e0:=World.new_ne w _ h0
 have e1:=World.new_ne w _ h1
 have e2:=World.new_ne w _ h2
 go_enter Tryz.func207,Tryz.ntmps207
 go_wp2_with fail
 go_region_held3 (fun w'=>w'.cell? ⟨p0,0,none⟩=some (.int .i64 3)∧w'.cell? ⟨p1,0,none⟩=some (.int .i64 a)∧w'.cell? ⟨p2,0,none⟩=some (.int .i64 b)) (go_keep)
  (first
   | (go_at_call 209;refine(cG _).mono ?_;rintro e w' ⟨rfl,rfl⟩)
   | (go_at_call 208;refine(cE 3 2 (.func (.func 251) #[] #[]) rfl _ _ ?_).mono ?_;(show (w.heap.push _)[w.heap.size]?=_;simp);rintro e w' ⟨rfl,rfl⟩)
   | (go_at_call 251;refine(cl56 _ _ _).mono ?_;rintro e w' ⟨rfl,rfl⟩))
 go_wp2
 go_ret
 exact⟨rfl,((Below.refl _ _).alloc (Nat.le_refl _) _).drew⟩
theorem reckon1_4 (a b:Int) (p0 p1 p2:Nat) (w:World) (h0:w.cell? ⟨p0,0,none⟩=some (.int .i64 4)) (h1:w.cell? ⟨p1,0,none⟩=some (.int .i64 a)) (h2:w.cell? ⟨p2,0,none⟩=some (.int .i64 b)) :
  Calls Tryz.prog 207 #[.pointer (some ⟨p0,0,none⟩),.pointer (some ⟨p1,0,none⟩),.pointer (some ⟨p2,0,none⟩)] w fun e w'=>e=.returned (.int .i64 (wrap64 (a*b)))∧Below w.heap.size w w':=by
 have e0:=World.new_ne w _ h0
 have e1:=World.new_ne w _ h1
 have e2:=World.new_ne w _ h2
 go_enter Tryz.func207,Tryz.ntmps207
 go_wp2_with fail
 go_region_held3 (fun w'=>w'.cell? ⟨p0,0,none⟩=some (.int .i64 4)∧w'.cell? ⟨p1,0,none⟩=some (.int .i64 a)∧w'.cell? ⟨p2,0,none⟩=some (.int .i64 b)) (go_keep)
  (first
   | (go_at_call 209;refine(cG _).mono ?_;rintro e w' ⟨rfl,rfl⟩)
   | (go_at_call 208;refine(cE 4 3 (.func (.func 252) #[] #[]) rfl _ _ ?_).mono ?_;(show (w.heap.push _)[w.heap.size]?=_;simp);rintro e w' ⟨rfl,rfl⟩)
   | (go_at_call 252;refine(cl57 _ _ _).mono ?_;rintro e w' ⟨rfl,rfl⟩))
 go_wp2
 go_ret
 exact⟨rfl,((Below.refl _ _).alloc (Nat.le_refl _) _).drew⟩
theorem reckon1_5 (a b:Int) (p0 p1 p2:Nat) (w:World) (h0:w.cell? ⟨p0,0,none⟩=some (.int .i64 5)) (h1:w.cell? ⟨p1,0,none⟩=some (.int .i64 a)) (h2:w.cell? ⟨p2,0,none⟩=some (.int .i64 b)) :
  Calls Tryz.prog 207 #[.pointer (some ⟨p0,0,none⟩),.pointer (some ⟨p1,0,none⟩),.pointer (some ⟨p2,0,none⟩)] w fun e w'=>e=.returned (.int .i64 (sQ a b))∧Below w.heap.size w w':=by
 have e0:=World.new_ne w _ h0
 have e1:=World.new_ne w _ h1
 have e2:=World.new_ne w _ h2
 go_enter Tryz.func207,Tryz.ntmps207
 go_wp2_with fail
 go_region_held3 (fun w'=>w'.cell? ⟨p0,0,none⟩=some (.int .i64 5)∧w'.cell? ⟨p1,0,none⟩=some (.int .i64 a)∧w'.cell? ⟨p2,0,none⟩=some (.int .i64 b)) (go_keep)
  (first
   | (go_at_call 209;refine(cG _).mono ?_;rintro e w' ⟨rfl,rfl⟩)
   | (go_at_call 208;refine(cE 5 4 (.func (.func 253) #[] #[]) rfl _ _ ?_).mono ?_;(show (w.heap.push _)[w.heap.size]?=_;simp);rintro e w' ⟨rfl,rfl⟩)
   | (go_at_call 253;refine(cl58 _ _ _).mono ?_;rintro e w' ⟨rfl,rfl⟩))
 go_wp2
 go_ret
 exact⟨rfl,((Below.refl _ _).alloc (Nat.le_refl _) _).drew⟩
theorem reckon1_6 (a b:Int) (p0 p1 p2:Nat) (w:World) (h0:w.cell? ⟨p0,0,none⟩=some (.int .i64 6)) (h1:w.cell? ⟨p1,0,none⟩=some (.int .i64 a)) (h2:w.cell? ⟨p2,0,none⟩=some (.int .i64 b)) :
  Calls Tryz.prog 207 #[.pointer (some ⟨p0,0,none⟩),.pointer (some ⟨p1,0,none⟩),.pointer (some ⟨p2,0,none⟩)] w fun e w'=>e=.returned (.int .i64 (nM a b))∧Below w.heap.size w w':=by
 have e0:=World.new_ne w _ h0
 have e1:=World.new_ne w _ h1
 have e2:=World.new_ne w _ h2
 go_enter Tryz.func207,Tryz.ntmps207
 go_wp2_with fail
 go_region_held3 (fun w'=>w'.cell? ⟨p0,0,none⟩=some (.int .i64 6)∧w'.cell? ⟨p1,0,none⟩=some (.int .i64 a)∧w'.cell? ⟨p2,0,none⟩=some (.int .i64 b)) (go_keep)
  (first
   | (go_at_call 209;refine(cG _).mono ?_;rintro e w' ⟨rfl,rfl⟩)
   | (go_at_call 208;refine(cE 6 5 (.func (.func 254) #[] #[]) rfl _ _ ?_).mono ?_;(show (w.heap.push _)[w.heap.size]?=_;simp);rintro e w' ⟨rfl,rfl⟩)
   | (go_at_call 254;refine(cl59 _ _ _).mono ?_;rintro e w' ⟨rfl,rfl⟩))
 go_wp2
 go_ret
 exact⟨rfl,((Below.refl _ _).alloc (Nat.le_refl _) _).drew⟩
theorem wQ (op a b:Int) (hf:Instr.findNow (.int .i64) (.int .i64 op) opsMap.toList 0=some none) (p0 p1 p2:Nat) (w:World) (h0:w.cell? ⟨p0,0,none⟩=some (.int .i64 op)) (h1:w.cell? ⟨p1,0,none⟩=some (.int .i64 a)) (h2:w.cell? ⟨p2,0,none⟩=some (.int .i64 b)) :
  Calls Tryz.prog 207 #[.pointer (some ⟨p0,0,none⟩),.pointer (some ⟨p1,0,none⟩),.pointer (some ⟨p2,0,none⟩)] w fun e w'=>e=.panicked [{v:=.iface 22 (.int .i64 4),recovered:=false}]∧Below w.heap.size w w':=by
 have Hf:Hid (Instr.findNow (.int .i64) (.int .i64 op) opsMap.toList 0=some none):=hf
 clear hf
 have e0:=World.new_ne w _ h0
 have e1:=World.new_ne w _ h1
 have e2:=World.new_ne w _ h2
 go_enter Tryz.func207,Tryz.ntmps207
 go_wp2_with fail
 go_region_held (fun w'=>w'.cell? ⟨p0,0,none⟩=some (.int .i64 op)∧w'.cell? ⟨p1,0,none⟩=some (.int .i64 a)∧w'.cell? ⟨p2,0,none⟩=some (.int .i64 b)) (go_keep)
  (first
   | (go_at_call 209;refine(cG _).mono ?_;rintro e w' ⟨rfl,rfl⟩)
   | (go_at_call 208;refine(dM (qG op Hf.out _ _ ?_) (.func (.func 249) #[] #[])).mono ?_;(show (w.heap.push _)[w.heap.size]?=_;simp);rintro e w' (⟨rfl,rfl⟩ | ⟨hF,rfl,rfl⟩);exact⟨rfl,rfl,(((Below.refl _ _).alloc (Nat.le_refl _) _).drew.alloc (by simp) _)⟩)
   | (go_at_call 249;refine(cl54 _ _ _).mono ?_;rintro e w' ⟨rfl,rfl⟩))
 exact(‹Hid False› : Hid False).out.elim
theorem holds1_1 (a b:Int) (p0 p1 p2:Nat) (w:World) (h0:w.cell? ⟨p0,0,none⟩=some (.int .i64 1)) (h1:w.cell? ⟨p1,0,none⟩=some (.int .i64 a)) (h2:w.cell? ⟨p2,0,none⟩=some (.int .i64 b)) :
  Calls Tryz.prog 204 #[.pointer (some ⟨p0,0,none⟩),.pointer (some ⟨p1,0,none⟩),.pointer (some ⟨p2,0,none⟩)] w fun e w'=>e=.returned (.bool (a==b))∧Below w.heap.size w w':=by
 have e0:=World.new_ne w _ h0
 have e1:=World.new_ne w _ h1
 have e2:=World.new_ne w _ h2
 go_enter Tryz.func204,Tryz.ntmps204
 go_wp2_with fail
 go_region_held3 (fun w'=>w'.cell? ⟨p0,0,none⟩=some (.int .i64 1)∧w'.cell? ⟨p1,0,none⟩=some (.int .i64 a)∧w'.cell? ⟨p2,0,none⟩=some (.int .i64 b)) (go_keep)
  (first
   | (go_at_call 206;refine(dC _).mono ?_;rintro e w' ⟨rfl,rfl⟩)
   | (go_at_call 205;refine(dL 1 0 (.func (.func 245) #[] #[]) rfl _ _ ?_).mono ?_;(show (w.heap.push _)[w.heap.size]?=_;simp);rintro e w' ⟨rfl,rfl⟩)
   | (go_at_call 245;refine(cl61 _ _ _).mono ?_;rintro e w' ⟨rfl,rfl⟩))
 go_wp2
 go_ret
 exact⟨rfl,((Below.refl _ _).alloc (Nat.le_refl _) _).drew⟩
theorem holds1_2 (a b:Int) (p0 p1 p2:Nat) (w:World) (h0:w.cell? ⟨p0,0,none⟩=some (.int .i64 2)) (h1:w.cell? ⟨p1,0,none⟩=some (.int .i64 a)) (h2:w.cell? ⟨p2,0,none⟩=some (.int .i64 b)) :
  Calls Tryz.prog 204 #[.pointer (some ⟨p0,0,none⟩),.pointer (some ⟨p1,0,none⟩),.pointer (some ⟨p2,0,none⟩)] w fun e w'=>e=.returned (.bool (a != b))∧Below w.heap.size w w':=by
 have e0:=World.new_ne w _ h0
 have e1:=World.new_ne w _ h1
 have e2:=World.new_ne w _ h2
 go_enter Tryz.func204,Tryz.ntmps204
 go_wp2_with fail
 go_region_held3 (fun w'=>w'.cell? ⟨p0,0,none⟩=some (.int .i64 2)∧w'.cell? ⟨p1,0,none⟩=some (.int .i64 a)∧w'.cell? ⟨p2,0,none⟩=some (.int .i64 b)) (go_keep)
  (first
   | (go_at_call 206;refine(dC _).mono ?_;rintro e w' ⟨rfl,rfl⟩)
   | (go_at_call 205;refine(dL 2 1 (.func (.func 246) #[] #[]) rfl _ _ ?_).mono ?_;(show (w.heap.push _)[w.heap.size]?=_;simp);rintro e w' ⟨rfl,rfl⟩)
   | (go_at_call 246;refine(cl62 _ _ _).mono ?_;rintro e w' ⟨rfl,rfl⟩))
 go_wp2
 go_ret
 exact⟨rfl,((Below.refl _ _).alloc (Nat.le_refl _) _).drew⟩
theorem holds1_3 (a b:Int) (p0 p1 p2:Nat) (w:World) (h0:w.cell? ⟨p0,0,none⟩=some (.int .i64 3)) (h1:w.cell? ⟨p1,0,none⟩=some (.int .i64 a)) (h2:w.cell? ⟨p2,0,none⟩=some (.int .i64 b)) :
  Calls Tryz.prog 204 #[.pointer (some ⟨p0,0,none⟩),.pointer (some ⟨p1,0,none⟩),.pointer (some ⟨p2,0,none⟩)] w fun e w'=>e=.returned (.bool (decide (a<b)))∧Below w.heap.size w w':=by
 have e0:=World.new_ne w _ h0
 have e1:=World.new_ne w _ h1
 have e2:=World.new_ne w _ h2
 go_enter Tryz.func204,Tryz.ntmps204
 go_wp2_with fail
 go_region_held3 (fun w'=>w'.cell? ⟨p0,0,none⟩=some (.int .i64 3)∧w'.cell? ⟨p1,0,none⟩=some (.int .i64 a)∧w'.cell? ⟨p2,0,none⟩=some (.int .i64 b)) (go_keep)
  (first
   | (go_at_call 206;refine(dC _).mono ?_;rintro e w' ⟨rfl,rfl⟩)
   | (go_at_call 205;refine(dL 3 2 (.func (.func 247) #[] #[]) rfl _ _ ?_).mono ?_;(show (w.heap.push _)[w.heap.size]?=_;simp);rintro e w' ⟨rfl,rfl⟩)
   | (go_at_call 247;refine(cl63 _ _ _).mono ?_;rintro e w' ⟨rfl,rfl⟩))
 go_wp2
 go_ret
 exact⟨rfl,((Below.refl _ _).alloc (Nat.le_refl _) _).drew⟩
theorem holds1_4 (a b:Int) (p0 p1 p2:Nat) (w:World) (h0:w.cell? ⟨p0,0,none⟩=some (.int .i64 4)) (h1:w.cell? ⟨p1,0,none⟩=some (.int .i64 a)) (h2:w.cell? ⟨p2,0,none⟩=some (.int .i64 b)) :
  Calls Tryz.prog 204 #[.pointer (some ⟨p0,0,none⟩),.pointer (some ⟨p1,0,none⟩),.pointer (some ⟨p2,0,none⟩)] w fun e w'=>e=.returned (.bool (decide (a≤b)))∧Below w.heap.size w w':=by
 have e0:=World.new_ne w _ h0
 have e1:=World.new_ne w _ h1
 have e2:=World.new_ne w _ h2
 go_enter Tryz.func204,Tryz.ntmps204
 go_wp2_with fail
 go_region_held3 (fun w'=>w'.cell? ⟨p0,0,none⟩=some (.int .i64 4)∧w'.cell? ⟨p1,0,none⟩=some (.int .i64 a)∧w'.cell? ⟨p2,0,none⟩=some (.int .i64 b)) (go_keep)
  (first
   | (go_at_call 206;refine(dC _).mono ?_;rintro e w' ⟨rfl,rfl⟩)
   | (go_at_call 205;refine(dL 4 3 (.func (.func 248) #[] #[]) rfl _ _ ?_).mono ?_;(show (w.heap.push _)[w.heap.size]?=_;simp);rintro e w' ⟨rfl,rfl⟩)
   | (go_at_call 248;refine(cl64 _ _ _).mono ?_;rintro e w' ⟨rfl,rfl⟩))
 go_wp2
 go_ret
 exact⟨rfl,((Below.refl _ _).alloc (Nat.le_refl _) _).drew⟩
theorem holds1_none (op a b:Int) (hf:Instr.findNow (.int .i64) (.int .i64 op) cmpMap.toList 0=some none) (p0 p1 p2:Nat) (w:World) (h0:w.cell? ⟨p0,0,none⟩=some (.int .i64 op)) (h1:w.cell? ⟨p1,0,none⟩=some (.int .i64 a)) (h2:w.cell? ⟨p2,0,none⟩=some (.int .i64 b)) :
  Calls Tryz.prog 204 #[.pointer (some ⟨p0,0,none⟩),.pointer (some ⟨p1,0,none⟩),.pointer (some ⟨p2,0,none⟩)] w fun e w'=>e=.panicked [{v:=.iface 22 (.int .i64 4),recovered:=false}]∧Below w.heap.size w w':=by
 have Hf:Hid (Instr.findNow (.int .i64) (.int .i64 op) cmpMap.toList 0=some none):=hf
 clear hf
 have e0:=World.new_ne w _ h0
 have e1:=World.new_ne w _ h1
 have e2:=World.new_ne w _ h2
 go_enter Tryz.func204,Tryz.ntmps204
 go_wp2_with fail
 go_region_held (fun w'=>w'.cell? ⟨p0,0,none⟩=some (.int .i64 op)∧w'.cell? ⟨p1,0,none⟩=some (.int .i64 a)∧w'.cell? ⟨p2,0,none⟩=some (.int .i64 b)) (go_keep)
  (first
   | (go_at_call 206;refine(dC _).mono ?_;rintro e w' ⟨rfl,rfl⟩)
   | (go_at_call 205;refine(dM (oW op Hf.out _ _ ?_) (.func (.func 245) #[] #[])).mono ?_;(show (w.heap.push _)[w.heap.size]?=_;simp);rintro e w' (⟨rfl,rfl⟩ | ⟨hF,rfl,rfl⟩);exact⟨rfl,rfl,(((Below.refl _ _).alloc (Nat.le_refl _) _).drew.alloc (by simp) _)⟩)
   | (go_at_call 245;refine(cl61 _ _ _).mono ?_;rintro e w' ⟨rfl,rfl⟩))
 exact(‹Hid False› : Hid False).out.elim
theorem oC (p:Addr) (x y:Int) (older:List PanicEntry) (w:World) (hc:w.cell? p=some (.int .i64 y)) (hz:w.frozen? p=false) :
  CallsD Tryz.prog 221 #[.pointer (some p)] (.panicking ({v:=.iface 22 (.int .i64 x),recovered:=false}::older)) w fun e u' w'=>
   e=.returned (.tuple #[])∧u'=.panicking ({v:=.iface 22 (.int .i64 x),recovered:=true}::older)∧w'=w.setCell p (.int .i64 x):=by
 refine callsD_of_wpS Tryz.func221 rfl fun c₀ cs hu=>?_
 apply wpS_seq
 apply wpS_region
 simp[wpOpsS,go_sem,recoverD,hu,Tryz.ntmps221,Exit.thenS]
 apply wpS_seq
 apply wpS_region
 simp[wpOpsS,go_sem,Exit.thenS]
 refine wpS_cond (t:=true) (by simp[Act.eval,Array.replicate]) ?_
 simp only[if_true]
 apply wpS_region
 simp[wpOpsS,go_sem,bG,hc,hz,bodyPostS,results,Tryz.results221]
theorem yN (p:Addr) (w:World) :
  CallsD Tryz.prog 221 #[.pointer (some p)] .returning w fun e u' w'=>e=.returned (.tuple #[])∧u'=.returning∧w'=w:=by
 refine callsD_of_wpS Tryz.func221 rfl fun c₀ cs hu=>?_
 apply wpS_seq
 apply wpS_region
 simp[wpOpsS,go_sem,recoverD,hu,Tryz.ntmps221,Exit.thenS]
 apply wpS_seq
 apply wpS_region
 simp[wpOpsS,go_sem,Exit.thenS]
 refine wpS_cond (t:=false) (by simp[Act.eval,Array.replicate]) ?_
 simp only[Bool.false_eq_true,if_false]
 refine wpS_of_wp (wp_skip ?_)
 cases c₀
 simp_all [bodyPostS,results,Tryz.results221]
theorem yF (F:FuncId) (cap:Array Value) (hF:∀w,Sem.run Tryz.prog (callFunc F cap) w=.ok (.enter F cap) w) (P:Value→World→Prop) (w:World) (hP:∀v w',P v w'→P v (w'.setCell ⟨w.heap.size,0,none⟩ (.int .i64 0)))
  (h:Calls Tryz.prog F cap (w.alloc (.cells #[.int .i64 0] 22)) fun e w'=>∃v,e=.returned v∧P v w'∧Below (w.heap.size+1) (w.alloc (.cells #[.int .i64 0] 22)) w') :
  Calls Tryz.prog 185 #[.func (.func F) #[] cap] w fun e w'=>∃v,e=.returned (.tuple #[v,.int .i64 0])∧P v w'∧Below w.heap.size w w':=by
 have hmf:∀(fn:Fn) (first cap:Array Value) (w:World),(Instr.makeFunc fn first cap).run Tryz.prog w=.ok (.func fn first cap) w:=fun _ _ _ _=>rfl
 have H:Hid (Calls Tryz.prog F cap (w.alloc (.cells #[.int .i64 0] 22)) fun e w'=>∃v,e=.returned v∧P v w'∧Below (w.heap.size+1) (w.alloc (.cells #[.int .i64 0] 22)) w'):=h
 have HP:Hid (∀v w',P v w'→P v (w'.setCell ⟨w.heap.size,0,none⟩ (.int .i64 0))):=hP
 have HF:Hid (∀w,Sem.run Tryz.prog (callFunc F cap) w=.ok (.enter F cap) w):=hF
 clear h hP hF
 go_enter_defers Tryz.func185,Tryz.ntmps185
 go_wp2_with fail
 rw[HF.out,Oper.upon_enter]
 refine H.out.mono ?_
 clear H
 rintro e w1 ⟨v,rfl,hv,hb⟩
 have hc:w1.cell? ⟨w.heap.size,0,none⟩=some (.int .i64 0):=by rw[hb.cell (by simp)];simp
 have hf:w1.frozen? ⟨w.heap.size,0,none⟩=false:=by rw[hb.frozen (by simp)];simp
 have Hb:Hid (Below (w.heap.size+1) (w.alloc (.cells #[.int .i64 0] 22)) w1):=hb
 have HV:Hid (P v (w1.setCell ⟨w.heap.size,0,none⟩ (.int .i64 0))):=HP.out v w1 hv
 clear hb hv HP
 go_wp2
 refine leaves_cons (f:=221) (args:=#[.pointer (some ⟨w.heap.size,0,none⟩)]) (by simp) (by simp[go_sem]) ?_
 refine(yN ⟨w.heap.size,0,none⟩ _).mono ?_
 rintro e u' w'' ⟨rfl,rfl,rfl⟩
 simp[Leaves,settle,results,Tryz.results185,go_sem,hc]
 have hb:=Hb.out
 exact⟨HV.out,((Below.refl _ _).alloc (Nat.le_refl _) _ |>.trans (hb.mono (by omega))).setCell (by simp) _⟩
theorem yG (F:FuncId) (cap:Array Value) (hF:∀w,Sem.run Tryz.prog (callFunc F cap) w=.ok (.enter F cap) w) (x:Int) (w:World)
  (h:Calls Tryz.prog F cap (w.alloc (.cells #[.int .i64 0] 22)) fun e w'=>e=.panicked [{v:=.iface 22 (.int .i64 x),recovered:=false}]∧Below (w.heap.size+1) (w.alloc (.cells #[.int .i64 0] 22)) w') :
  Calls Tryz.prog 185 #[.func (.func F) #[] cap] w fun e w'=>e=.returned (.tuple #[.int .i64 0,.int .i64 x])∧Below w.heap.size w w':=by
 have hmf:∀(fn:Fn) (first cap:Array Value) (w:World),(Instr.makeFunc fn first cap).run Tryz.prog w=.ok (.func fn first cap) w:=fun _ _ _ _=>rfl
 have H:Hid (Calls Tryz.prog F cap (w.alloc (.cells #[.int .i64 0] 22)) fun e w'=>e=.panicked [{v:=.iface 22 (.int .i64 x),recovered:=false}]∧Below (w.heap.size+1) (w.alloc (.cells #[.int .i64 0] 22)) w'):=h
 have HF:Hid (∀w,Sem.run Tryz.prog (callFunc F cap) w=.ok (.enter F cap) w):=hF
 clear h hF
 go_enter_defers Tryz.func185,Tryz.ntmps185
 go_wp2_with fail
 rw[HF.out,Oper.upon_enter]
 refine H.out.mono ?_
 clear H
 rintro e w1 ⟨rfl,hb⟩
 have hc:w1.cell? ⟨w.heap.size,0,none⟩=some (.int .i64 0):=by rw[hb.cell (by simp)];simp
 have hf:w1.frozen? ⟨w.heap.size,0,none⟩=false:=by rw[hb.frozen (by simp)];simp
 refine leaves_cons (f:=221) (args:=#[.pointer (some ⟨w.heap.size,0,none⟩)]) (by simp) (by simp[go_sem]) ?_
 refine(oC ⟨w.heap.size,0,none⟩ x 0 [] _ hc hf).mono ?_
 rintro e u' w'' ⟨rfl,rfl,rfl⟩
 simp[Leaves,settle,results,Tryz.results185,go_sem,hc]
 exact((Below.refl _ _).alloc (Nat.le_refl _) _ |>.trans (hb.mono (by omega))).setCell (by simp) _
theorem tk {P:Program} {ops:Array Oper} {Q:Exit→Act→World→Prop} {md:Region.Mode} {S:World→Prop} {oi:Oper} {v:Value} {fuel:Nat} {listed l2:Array Bool} {a a2:Act} {w:World} (i:Nat) (h:wpAnyH P md ops Q S fuel l2 a2 w)
  (hi:ops[i]?=some oi:=by (simp only[List.getElem?_toArray,List.getElem?_cons_succ,List.getElem?_cons_zero]) <;> rfl)
  (hs:Region.noSelect ops=true:=by kernel_rfl) (hf:Region.free md ops listed i=true:=by kernel_rfl) (hr:(Region.ready md ops listed).contains i=true:=by kernel_rfl)
  (hw:Region.wanted oi (yielded ops a.tmps)=true:=by rfl) (hS:S w:=by assumption)
  (hv:∀w,S w→(execOp a.eval oi).run P w=.ok (.value v) w:=by (intro w hSw;go_simp;first | done | with_reducible rfl))
  (hQ:∀c a w,Q (.panic c) (a.put oi.dst v) w→Q (.panic c) a w:=by exact fun _ _ _ h=>h)
  (hl:listed.setIfInBounds i true=l2:=by (try simp only[List.setIfInBounds_toArray,List.set_cons_zero,List.set_cons_succ]) <;> rfl)
  (ha:a.put oi.dst v=a2:=by (try simp only[Act.put,List.setIfInBounds_toArray,List.set_cons_zero,List.set_cons_succ]) <;> rfl):wpAnyH P md ops Q S (fuel+1) listed a w:=by
 subst hl ha
 exact wpAnyH_take hi hs hf hr hQ (Or.inl ⟨hw,hv⟩) hS h
theorem tf {P:Program} {ops:Array Oper} {Q:Exit→Act→World→Prop} {md:Region.Mode} {S:World→Prop} {oi:Oper} {fuel:Nat} {listed l2:Array Bool} {a a2:Act} {w:World} (i:Nat) (h:wpAnyH P md ops Q S fuel l2 a2 w)
  (hi:ops[i]?=some oi:=by (simp only[List.getElem?_toArray,List.getElem?_cons_succ,List.getElem?_cons_zero]) <;> rfl)
  (hs:Region.noSelect ops=true:=by kernel_rfl) (hf:Region.free md ops listed i=true:=by kernel_rfl) (hr:(Region.ready md ops listed).contains i=true:=by kernel_rfl)
  (hw:Region.wanted oi (yielded ops a.tmps)=false:=by rfl) (hS:S w:=by assumption)
  (hQ:∀c a w,Q (.panic c) (a.put oi.dst undef) w→Q (.panic c) a w:=by exact fun _ _ _ h=>h)
  (hl:listed.setIfInBounds i true=l2:=by (try simp only[List.setIfInBounds_toArray,List.set_cons_zero,List.set_cons_succ]) <;> rfl)
  (ha:a.put oi.dst undef=a2:=by (try simp only[Act.put,List.setIfInBounds_toArray,List.set_cons_zero,List.set_cons_succ]) <;> rfl):wpAnyH P md ops Q S (fuel+1) listed a w:=by
 subst hl ha
 exact wpAnyH_take hi hs hf hr hQ (Or.inr ⟨hw,rfl⟩) hS h
theorem rc {P:Program} {ops:Array Oper} {Q:Exit→Act→World→Prop} {md:Region.Mode} {S:World→Prop} {fuel:Nat} {listed:Array Bool} {a:Act} {w:World} {i:Nat} {o:Oper} {rs:List Nat}
  (h:∀K':Act→World→Prop,Shut (∀a w,S w→(S w→wpAnyH P md ops Q S fuel (listed.setIfInBounds i true) a w)→K' a w)→if Region.wanted o (yielded ops a.tmps)=true then Oper.wp P o a w K' Q else K' (a.put o.dst undef) w)
  (hs:AllReadyH P md ops Q S fuel listed a w rs)
  (ho:ops[i]?=some o:=by (simp only[List.getElem?_toArray,List.getElem?_cons_succ,List.getElem?_cons_zero]) <;> rfl):AllReadyH P md ops Q S fuel listed a w (i::rs):=AllReadyH.cons ho h hs
theorem r1 {P:Program} {ops:Array Oper} {Q:Exit→Act→World→Prop} {md:Region.Mode} {S:World→Prop} {fuel:Nat} {listed:Array Bool} {a:Act} {w:World} {o:Oper} (i:Nat)
  (h:∀K':Act→World→Prop,Shut (∀a w,S w→(S w→wpAnyH P md ops Q S fuel (listed.setIfInBounds i true) a w)→K' a w)→if Region.wanted o (yielded ops a.tmps)=true then Oper.wp P o a w K' Q else K' (a.put o.dst undef) w)
  (hr:Region.ready md ops listed=[i]:=by kernel_rfl)
  (ho:ops[i]?=some o:=by (simp only[List.getElem?_toArray,List.getElem?_cons_succ,List.getElem?_cons_zero]) <;> rfl):wpAnyH P md ops Q S (fuel+1) listed a w:=wpAnyH_ready hr (by simp) (AllReadyH.cons ho h AllReadyH.nil)
end Go.Proofs.YtcgpkonfneofdaaGreatDoor
