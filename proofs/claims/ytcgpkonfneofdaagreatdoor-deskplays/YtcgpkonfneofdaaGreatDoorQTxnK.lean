/- Conditions: those that each theorem states. -/
import Derived.WalkKit
import Derived.WalkSpells
import Derived.WalkLawsBesides
import Derived.Defers
import Derived.Recover
import Derived.ProofKit
import Derived.Laws.Pointers
import Derived.Deep.RegionHeld3
import Derived.Deep.QuietTactic
import Derived.BigQuiet
import Derived.Maps.OwnSet
import Derived.Test.YtcgpkonfneofdaaGreatDoorRows
import Derived.Deep.RegionHeld
import Derived.OpenShut
import Derived.ChangeOld
import Derived.Lib.SmallJoins
import Derived.Lib.SliceRun
set_option maxRecDepth 100000
set_option maxHeartbeats 8000000
namespace Go.Proofs.YtcgpkonfneofdaaGreatDoor
open Go.RowKit Go.Proofs.Tryz
open Go.Value renaming slice->J,int->Y,bool->bo,pointer->pd,agg->ag,tuple->tu,string->sg,iface->fc
open Go.IntKind renaming i64->I
open Go.Obj renaming cells->U
open Go.Ending renaming returned->rt,panicked->pg
open Option renaming some->M,none->Q
variable {w w1 w' w2:World} {p:Prop} {n fuel base size lo hi:Nat} {P:Program} {ops:Array Oper} {v v1 v2 v3 v4:Value} {listed l2:Array Bool} {a:Option Addr} {a2:Act} {p1 p2 p3 p4:Addr}
theorem nm {α:Type} (x:α):∃W,W=x:=⟨_,rfl⟩
theorem br {b:Nat}:Below b w w:=Below.refl b w
theorem om (h:p:=by omega):p:=h
theorem dc (h:p:=by decide):p:=h
theorem sm (h:p:=by simp):p:=h
theorem kr (h:p:=by kernel_rfl):p:=h
theorem mfn (fn:Fn) (first cap:Array Value) (w:World):(Instr.makeFunc fn first cap).run Tryz.prog w=.ok (.func fn first cap) w:=rfl
theorem nr:n<=n:=Nat.le_refl n
theorem nz:0<=n:=Nat.zero_le n
theorem nd:type_of% @Nat.lt_of_lt_of_le:=@Nat.lt_of_lt_of_le
theorem nh:type_of% @Nat.le_trans:=@Nat.le_trans
theorem ni:type_of% @World.cell?_alloc_lt:=@World.cell?_alloc_lt
theorem nj:type_of% @List.length_append:=@List.length_append
theorem nk:type_of% @Nat.lt_succ_self:=@Nat.lt_succ_self
theorem nl:type_of% @Nat.not_lt_zero:=@Nat.not_lt_zero
theorem np:type_of% @World.block_lt_of_cell?:=@World.block_lt_of_cell?
theorem nt:type_of% @World.cell?_setCell_far:=@World.cell?_setCell_far
theorem nu:type_of% @World.cell?_of_block:=@World.cell?_of_block
theorem nv:type_of% @World.frozen?_of_block:=@World.frozen?_of_block
theorem nw:type_of% @Nat.zero_add:=@Nat.zero_add
theorem ny:type_of% @List.map_append:=@List.map_append
theorem n7:type_of% @Below.refl:=@Below.refl
theorem n8:type_of% @World.ownsRow_nil:=@World.ownsRow_nil
theorem n9:type_of% @World.size_setCell:=@World.size_setCell
theorem lb:type_of% @World.grownBy_alloc:=@World.grownBy_alloc
theorem ld:type_of% @List.take_length:=@List.take_length
theorem le:type_of% @List.take_of_length_le:=@List.take_of_length_le
theorem lh:type_of% @List.length_cons:=@List.length_cons
theorem li:type_of% @List.getD_eq_getElem?_getD:=@List.getD_eq_getElem?_getD
theorem ll:type_of% @Nat.le_succ:=@Nat.le_succ
theorem lm:type_of% @List.length_map:=@List.length_map
theorem lp:type_of% @List.take_succ_eq_append_getElem:=@List.take_succ_eq_append_getElem
theorem lq:type_of% @Int.toNat_natCast:=@Int.toNat_natCast
theorem lu:type_of% @List.append_assoc:=@List.append_assoc
theorem lv:type_of% @World.ownsRow_lit:=@World.ownsRow_lit
theorem lx:type_of% @Nat.lt_succ_of_lt:=@Nat.lt_succ_of_lt
theorem ly:type_of% @List.mem_cons_of_mem:=@List.mem_cons_of_mem
theorem lz:type_of% @List.length_singleton:=@List.length_singleton
theorem l5:type_of% @Nat.mul_le_mul:=@Nat.mul_le_mul
theorem l6:type_of% @List.length_take:=@List.length_take
theorem l7:type_of% @Nat.mod_lt:=@Nat.mod_lt
theorem l9:type_of% @Below.grown:=@Below.grown
theorem we:type_of% @List.length_set:=@List.length_set
theorem wg:type_of% @Int.eq_ofNat_of_zero_le:=@Int.eq_ofNat_of_zero_le
theorem wh:type_of% @List.drop_of_length_le:=@List.drop_of_length_le
theorem wi:type_of% @Nat.le_of_lt:=@Nat.le_of_lt
theorem wj:type_of% @List.getElem?_eq_getElem:=@List.getElem?_eq_getElem
theorem wk:type_of% @Bool.true_and:=@Bool.true_and
theorem wl:type_of% @List.mem_cons_self:=@List.mem_cons_self
theorem wm:type_of% @List.any_eq_true:=@List.any_eq_true
theorem wo:type_of% @Below.heap_setCell:=@Below.heap_setCell
theorem wt:type_of% @Nat.succ_pos:=@Nat.succ_pos
theorem wu:type_of% @List.range_succ:=@List.range_succ
theorem wv:type_of% @World.grownBy.refl:=@World.grownBy.refl
theorem ww:type_of% @List.getElem_mem:=@List.getElem_mem
theorem kb:type_of% @List.mem_singleton:=@List.mem_singleton
theorem ke:type_of% @List.append_nil:=@List.append_nil
theorem kg:type_of% @Nat.lt_of_le_of_lt:=@Nat.lt_of_le_of_lt
theorem kh:type_of% @List.eq_nil_of_length_eq_zero:=@List.eq_nil_of_length_eq_zero
abbrev Kr (n:FuncId) (a:Array Value) (w:World) (v:Value):Prop:=Calls Tryz.prog n a w fun e w'=>e=.returned v/\Below w.heap.size w w'
abbrev Kp (n:FuncId) (a:Array Value) (w:World) (v:Int):Prop:=Calls Tryz.prog n a w fun e w'=>e=.panicked [{v:=.iface 22 (.int .i64 v),recovered:=false}]/\Below w.heap.size w w'
theorem uj (h:p:=by
 go_wp2;go_ret;exact⟨rfl,rfl⟩):p:=h
theorem uq (h:p:=by
 exact(br.alloc nr _ |>.trans (hb.mono om)).setCell sm _):p:=h
theorem v8 (h:p:=by
 have H:=Hi h;clear h;go_enter_defers func137,ntmps137
 go_wp2_with fail
 refine H.out.mono ?_;clear H;rintro e w1 ⟨rfl,hb⟩;have hc:w1.cell? ⟨w.heap.size,0,Q⟩=Y I 0:=by rw[hb.cell sm];simp
 have hf:w1.frozen? ⟨w.heap.size,0,Q⟩=false:=by rw[hb.frozen sm];simp
 have Hb:=Hi hb;clear hb;go_wp2;refine leaves_cons (f:=164) (args:=#[pd (M ⟨w.heap.size,0,Q⟩)]) sm (by simp[go_sem]) ?_;refine(sS ⟨w.heap.size,0,Q⟩ _).mono ?_;rintro e u' w'' ⟨rfl,rfl,rfl⟩;simp[Leaves,settle,results,results137,go_sem,hc];have hb:=Hb.out;exact uq):p:=h
theorem vh (h:p:=by
 have H:=Hi h;clear h;go_enter_defers func137,ntmps137
 go_wp2_with fail
 refine H.out.mono ?_;clear H;rintro e w1 ⟨rfl,hb⟩;have hc:w1.cell? ⟨w.heap.size,0,Q⟩=Y I 0:=by rw[hb.cell sm];simp
 have hf:w1.frozen? ⟨w.heap.size,0,Q⟩=false:=by rw[hb.frozen sm];simp
 refine leaves_cons (f:=164) (args:=#[pd (M ⟨w.heap.size,0,Q⟩)]) sm (by simp[go_sem]) ?_;refine(lV ⟨w.heap.size,0,Q⟩ x 0 [] _ hc hf).mono ?_;exact Vx):p:=h
theorem x8 (h:p:=by
 refine callsD_of_wpS func221 rfl fun c₀ cs hu=>?_
 apply wpS_seq;apply wpS_region;simp[wpOpsS,go_sem,recoverD,hu,ntmps221,Exit.thenS];apply wpS_seq;apply wpS_region;simp[wpOpsS,go_sem,Exit.thenS];refine wpS_cond (t:=false) (by simp[Act.eval,Array.replicate]) ?_;simp only[Bool.false_eq_true,if_false];refine wpS_of_wp (wp_skip ?_)
 cases c₀
 simp_all [bodyPostS,results,results221]):p:=h
theorem x9 (h:p:=by
 refine callsD_of_wpS func164 rfl fun c₀ cs hu=>?_
 apply wpS_seq;apply wpS_region;simp[wpOpsS,go_sem,recoverD,hu,ntmps164,Exit.thenS];apply wpS_seq;apply wpS_region;simp[wpOpsS,go_sem,Exit.thenS];refine wpS_cond (t:=false) (by simp[Act.eval,Array.replicate]) ?_;simp only[Bool.false_eq_true,if_false];refine wpS_of_wp (wp_skip ?_)
 cases c₀
 simp_all [bodyPostS,results,results164]):p:=h
theorem xi (h:p:=by
 refine callsD_of_wpS func221 rfl fun c₀ cs hu=>?_
 apply wpS_seq;apply wpS_region;simp[wpOpsS,go_sem,recoverD,hu,ntmps221,Exit.thenS];apply wpS_seq;apply wpS_region;simp[wpOpsS,go_sem,Exit.thenS];refine wpS_cond (t:=true) (by simp[Act.eval,Array.replicate]) ?_;simp only[if_true];apply wpS_region;simp[wpOpsS,go_sem,cQ,hc,hz,bodyPostS,results,results221]):p:=h
theorem xj (h:p:=by
 refine callsD_of_wpS func164 rfl fun c₀ cs hu=>?_
 apply wpS_seq;apply wpS_region;simp[wpOpsS,go_sem,recoverD,hu,ntmps164,Exit.thenS];apply wpS_seq;apply wpS_region;simp[wpOpsS,go_sem,Exit.thenS];refine wpS_cond (t:=true) (by simp[Act.eval,Array.replicate]) ?_;simp only[if_true];apply wpS_region;simp[wpOpsS,go_sem,cQ,hc,hz,bodyPostS,results,results164]):p:=h
theorem U5 (h:p:=by
 go_wp2_with fail
 refine(dK [4] 0 4 w.heap.size 1 _ sm sm sm rfl dc sm).mono ?_;rintro e w' ⟨rfl,rfl⟩;go_wp2;exact⟨rfl,rfl,rfl⟩):p:=h
theorem Vu (h:p:=by
 rintro e u' w'' ⟨rfl,rfl,rfl⟩;simp[Leaves,settle,results,results185,go_sem,hc];exact uq):p:=h
theorem Vx (h:p:=by
 rintro e u' w'' ⟨rfl,rfl,rfl⟩;simp[Leaves,settle,results,results137,go_sem,hc];exact uq):p:=h
theorem Vz (h:p:=by
 go_wp2;go_round
 case rel=>exact⟨k+1,by omega,by go_num⟩
 case measure=>simp[intOf];omega):p:=h
theorem Hi (h:p):Hid p:=h
theorem leave_ok (es:List Int) (b cap:Nat) (w:World) (hl:es.length<=8) (h0:∀k,es.getD k 0=0)
  (hc:∀k,k<es.length->w.cell? ⟨b,k,Q⟩=Y I (es.getD k 0)) :
  Calls prog 15 #[J (M ⟨b,0,Q⟩) es.length cap] w fun e w'=>e=rt (tu #[])/\w'=w:=by
 go_enter func15,ntmps15;go_wp2
 go_loop [3,6] (fun _ i=>∃k:Nat,k<=es.length/\i=Y I k) (fun _ i=>es.length - (intOf i).toNat)
 case atStart=>exact⟨0,nz,rfl⟩
 case round=>
  obtain⟨k,hk,rfl⟩:=hrel;by_cases hlt:k<es.length
  ·have hck:w.cell? ⟨b,k,Q⟩=Y I 0:=by rw[hc k hlt,h0 k]
   clear hc h0;exact Vz
  ·go_wp2;go_end0;exact⟨rfl,rfl⟩
theorem dK (es:List Int) (n:Nat) (x:Int) (b cap:Nat) (w:World) (hl:es.length<=8) (hn:n<es.length) (h0:∀k,k<n->es.getD k 0=0) (hx:es.getD n 0=x) (hxn:¬x=0)
  (hc:∀k,k<es.length->w.cell? ⟨b,k,Q⟩=Y I (es.getD k 0)) :
  Calls prog 15 #[J (M ⟨b,0,Q⟩) es.length cap] w fun e w'=>e=pg [{v:=fc 22 (Y I x),recovered:=false}]/\w'=w:=by
 go_enter func15,ntmps15;go_wp2
 go_loop [3,6] (fun _ i=>∃k:Nat,k<=n/\i=Y I k) (fun _ i=>es.length - (intOf i).toNat)
 case atStart=>exact⟨0,nz,rfl⟩
 case round=>
  obtain⟨k,hk,rfl⟩:=hrel;by_cases hlt:k<n
  ·have hck:w.cell? ⟨b,k,Q⟩=Y I 0:=by rw[hc k om,h0 k hlt]
   clear hc h0 hx;have hkl:k<es.length:=om;exact Vz
  ·have hkn:k=n:=om;subst hkn;have hck:w.cell? ⟨b,k,Q⟩=Y I x:=by rw[hc k hn,hx]
   have hb:(x != 0)=true:=by simpa using hxn
   clear hc h0 hx hlt;go_wp2;exact⟨rfl,rfl,rfl⟩
theorem cQ (x:Int) (w:World):(Instr.typeAssert (fc 22 (Y I x)) 20 22 false).run prog w=.ok (Y I x) w:=by kernel_rfl
theorem sT (p:Addr) (x y:Int) (older:List PanicEntry) (w:World) (hc:w.cell? p=M (Y I y)) (hz:w.frozen? p=false) :
  CallsD prog 221 #[pd (M p)] (.panicking ({v:=fc 22 (Y I x),recovered:=false}::older)) w fun e u' w'=>
   e=rt (tu #[])/\u'=.panicking ({v:=fc 22 (Y I x),recovered:=true}::older)/\w'=w.setCell p (Y I x):=by
 exact xi
theorem catch53_idle (p:Addr) (w:World) :
  CallsD prog 221 #[pd (M p)] .returning w fun e u' w'=>e=rt (tu #[])/\u'=.returning/\w'=w:=by
 exact x8
theorem lV (p:Addr) (x y:Int) (older:List PanicEntry) (w:World) (hc:w.cell? p=M (Y I y)) (hz:w.frozen? p=false) :
  CallsD prog 164 #[pd (M p)] (.panicking ({v:=fc 22 (Y I x),recovered:=false}::older)) w fun e u' w'=>
   e=rt (tu #[])/\u'=.panicking ({v:=fc 22 (Y I x),recovered:=true}::older)/\w'=w.setCell p (Y I x):=by
 exact xj
theorem sS (p:Addr) (w:World) :
  CallsD prog 164 #[pd (M p)] .returning w fun e u' w'=>e=rt (tu #[])/\u'=.returning/\w'=w:=by
 exact x9
theorem sR (p:Addr) (x y:Int) (older:List PanicEntry) (w:World) (hc:w.cell? p=M (Y I y)) (hz:w.frozen? p=false) :
  CallsD prog 257 #[pd (M p)] (.panicking ({v:=fc 22 (Y I x),recovered:=false}::older)) w fun e u' w'=>
   e=rt (tu #[])/\u'=.panicking ({v:=fc 22 (Y I x),recovered:=true}::older)/\w'=w.setCell p (Y I x):=by
 refine callsD_of_wpS func257 rfl fun c₀ cs hu=>?_
 apply wpS_seq;apply wpS_region;simp[wpOpsS,go_sem,recoverD,hu,ntmps257,Exit.thenS];apply wpS_seq;apply wpS_region;simp[wpOpsS,go_sem,Exit.thenS];refine wpS_cond (t:=true) (by simp[Act.eval,Array.replicate]) ?_;simp only[if_true];apply wpS_region;simp[wpOpsS,go_sem,cQ,hc,hz,bodyPostS,results,results257]
theorem catch69_idle (p:Addr) (w:World) :
  CallsD prog 257 #[pd (M p)] .returning w fun e u' w'=>e=rt (tu #[])/\u'=.returning/\w'=w:=by
 refine callsD_of_wpS func257 rfl fun c₀ cs hu=>?_
 apply wpS_seq;apply wpS_region;simp[wpOpsS,go_sem,recoverD,hu,ntmps257,Exit.thenS];apply wpS_seq;apply wpS_region;simp[wpOpsS,go_sem,Exit.thenS];refine wpS_cond (t:=false) (by simp[Act.eval,Array.replicate]) ?_;simp only[Bool.false_eq_true,if_false];refine wpS_of_wp (wp_skip ?_)
 cases c₀
 simp_all [bodyPostS,results,results257]
theorem push_set {α:Type} (a:Array α) (x y:α):(a.push x).setIfInBounds a.size y=a.push y:=by
 apply Array.ext_getElem?;intro i;rw[Array.getElem?_setIfInBounds,Array.getElem?_push,Array.getElem?_push];by_cases h:a.size=i
 ·subst h;simp
 ·rw[if_neg h,if_neg (fun e=>h e.symm),if_neg (fun e=>h e.symm)]
theorem jL {t e:TypeId} (ht:prog.underlying t=M (.map 3 e)) (w:World) (es:Array MapEntry) (clock:Nat) (n:Int) (v:Value) (hn:Instr.findNow (.int .i64) (Y I n) es.toList 0=M Q) :
  (Instr.mapUpdate t (.map (M w.heap.size)) (Y I n) v).run prog (w.alloc (.map es clock))=.ok () (w.alloc (.map (es.push ⟨Y I n,v,clock⟩) (clock+1))):=by
 have hb:(w.alloc (.map es clock)).heap[w.heap.size]?=M (.map es clock):=by show (w.heap.push _)[w.heap.size]?=_;simp
 have hk:MapKept.IsKey (.int .i64) (Y I n):=by simp[MapKept.IsKey]
 simp[Instr.mapUpdate,run_underlying ht,MapKept.run_getObj_map hb,MapKept.run_checkKey underlying3 hk,MapKept.run_findKey underlying3 hn,MapKept.run_setObj_map _ hb,Result.andThen]
 have he:(w.alloc (.map es clock)).heap.setIfInBounds w.heap.size (.map (es.push ⟨Y I n,v,clock⟩) (clock+1))=w.heap.push (.map (es.push ⟨Y I n,v,clock⟩) (clock+1)):=by
  show (w.heap.push _).setIfInBounds w.heap.size _=_;exact push_set _ _ _
 rw[he];rfl
theorem aAs {t e:TypeId} (ht:prog.underlying t=M (.map 3 e)) (w:World) (es:Array MapEntry) (clock r:Nat) (hb:w.heap[r]?=M (.map es clock)) (n:Int) (j:Nat) (v:Value) (hn:Instr.findNow (.int .i64) (Y I n) es.toList 0=M (M (j,v))) :
  (Instr.lookup t (.map (M r)) (Y I n) true).run prog w=.ok (tu #[v,bo true]) w:=by
 have hk:MapKept.IsKey (.int .i64) (Y I n):=by simp[MapKept.IsKey]
 simp[Instr.lookup,run_underlying ht,MapKept.run_getObj_map hb,MapKept.run_checkKey underlying3 hk,MapKept.run_findKey underlying3 hn,Result.andThen]
theorem aAt {t e:TypeId} (ht:prog.underlying t=M (.map 3 e)) (w:World) (es:Array MapEntry) (clock r:Nat) (hb:w.heap[r]?=M (.map es clock)) (n:Int) (z:Value) (hz:∀w,(zeroValue e).run prog w=.ok z w) (hn:Instr.findNow (.int .i64) (Y I n) es.toList 0=M Q) :
  (Instr.lookup t (.map (M r)) (Y I n) true).run prog w=.ok (tu #[z,bo false]) w:=by
 have hk:MapKept.IsKey (.int .i64) (Y I n):=by simp[MapKept.IsKey]
 simp[Instr.lookup,run_underlying ht,MapKept.run_getObj_map hb,MapKept.run_checkKey underlying3 hk,MapKept.run_findKey underlying3 hn,Result.andThen,hz]
theorem fT {f:FuncId} {args:Array Value} {R:Ending->World->Prop} (h:Calls P f args w R) (v:Value) :
  Calls P f args w fun e w'=>R e w'∨(Hid False/\e=rt v/\w'=w):=h.mono fun _ _ h=>Or.inl h
def opsMap:Array MapEntry:=#[⟨Y I 1,.func (.func 249) #[] #[],0⟩,⟨Y I 2,.func (.func 250) #[] #[],1⟩,⟨Y I 3,.func (.func 251) #[] #[],2⟩,⟨Y I 4,.func (.func 252) #[] #[],3⟩,⟨Y I 5,.func (.func 253) #[] #[],4⟩,⟨Y I 6,.func (.func 254) #[] #[],5⟩]
theorem dQ (w:World) :
  Calls prog 209 #[] w fun e w'=>e=rt (.map (M w.heap.size))/\w'=w.alloc (.map opsMap 6):=by
 have hmm:=@run_makeMap prog;have h0:=fun (w:World)=>jL underlying234 w #[] 0 1 (.func (.func 249) #[] #[]) rfl
 have h1:=fun (w:World)=>jL underlying234 w #[⟨Y I 1,.func (.func 249) #[] #[],0⟩] 1 2 (.func (.func 250) #[] #[]) rfl
 have h2:=fun (w:World)=>jL underlying234 w #[⟨Y I 1,.func (.func 249) #[] #[],0⟩,⟨Y I 2,.func (.func 250) #[] #[],1⟩] 2 3 (.func (.func 251) #[] #[]) rfl
 have h3:=fun (w:World)=>jL underlying234 w #[⟨Y I 1,.func (.func 249) #[] #[],0⟩,⟨Y I 2,.func (.func 250) #[] #[],1⟩,⟨Y I 3,.func (.func 251) #[] #[],2⟩] 3 4 (.func (.func 252) #[] #[]) rfl
 have h4:=fun (w:World)=>jL underlying234 w #[⟨Y I 1,.func (.func 249) #[] #[],0⟩,⟨Y I 2,.func (.func 250) #[] #[],1⟩,⟨Y I 3,.func (.func 251) #[] #[],2⟩,⟨Y I 4,.func (.func 252) #[] #[],3⟩] 4 5 (.func (.func 253) #[] #[]) rfl
 have h5:=fun (w:World)=>jL underlying234 w #[⟨Y I 1,.func (.func 249) #[] #[],0⟩,⟨Y I 2,.func (.func 250) #[] #[],1⟩,⟨Y I 3,.func (.func 251) #[] #[],2⟩,⟨Y I 4,.func (.func 252) #[] #[],3⟩,⟨Y I 5,.func (.func 253) #[] #[],4⟩] 5 6 (.func (.func 254) #[] #[]) rfl
 simp only[List.push_toArray,List.nil_append,List.cons_append,Nat.reduceAdd,Nat.zero_add]at h0 h1 h2 h3 h4 h5;go_enter func209,ntmps209;exact uj
theorem dI (op:Int) (j:Nat) (v:Value) (hf:Instr.findNow (.int .i64) (Y I op) opsMap.toList 0=M (M (j,v))) (r:Nat) (w:World) (hr:w.heap[r]?=M (.map opsMap 6)) :
  Calls prog 208 #[.map (M r),Y I op] w fun e w'=>e=rt v/\w'=w:=by
 have hl:=aAs underlying234 w opsMap 6 r hr op j v hf;clear hf hr;go_enter func208,ntmps208;exact uj
theorem vD (op:Int) (hf:Instr.findNow (.int .i64) (Y I op) opsMap.toList 0=M Q) (r:Nat) (w:World) (hr:w.heap[r]?=M (.map opsMap 6)) :
  Calls prog 208 #[.map (M r),Y I op] w fun e w'=>e=pg [{v:=fc 22 (Y I 4),recovered:=false}]/\w'=w.alloc (U #[Y I 4] 22):=by
 have hl:=aAt underlying234 w opsMap 6 r hr op .nilFunc (fun _=>rfl) hf;clear hf hr;go_enter func208,ntmps208;exact U5
def cmpMap:Array MapEntry:=#[⟨Y I 1,.func (.func 245) #[] #[],0⟩,⟨Y I 2,.func (.func 246) #[] #[],1⟩,⟨Y I 3,.func (.func 247) #[] #[],2⟩,⟨Y I 4,.func (.func 248) #[] #[],3⟩]
theorem fH (w:World) :
  Calls prog 206 #[] w fun e w'=>e=rt (.map (M w.heap.size))/\w'=w.alloc (.map cmpMap 4):=by
 have hmm:=@run_makeMap prog;have h0:=fun (w:World)=>jL underlying231 w #[] 0 1 (.func (.func 245) #[] #[]) rfl
 have h1:=fun (w:World)=>jL underlying231 w #[⟨Y I 1,.func (.func 245) #[] #[],0⟩] 1 2 (.func (.func 246) #[] #[]) rfl
 have h2:=fun (w:World)=>jL underlying231 w #[⟨Y I 1,.func (.func 245) #[] #[],0⟩,⟨Y I 2,.func (.func 246) #[] #[],1⟩] 2 3 (.func (.func 247) #[] #[]) rfl
 have h3:=fun (w:World)=>jL underlying231 w #[⟨Y I 1,.func (.func 245) #[] #[],0⟩,⟨Y I 2,.func (.func 246) #[] #[],1⟩,⟨Y I 3,.func (.func 247) #[] #[],2⟩] 3 4 (.func (.func 248) #[] #[]) rfl
 simp only[List.push_toArray,List.nil_append,List.cons_append,Nat.reduceAdd,Nat.zero_add]at h0 h1 h2 h3;go_enter func206,ntmps206;exact uj
theorem fM (op:Int) (j:Nat) (v:Value) (hf:Instr.findNow (.int .i64) (Y I op) cmpMap.toList 0=M (M (j,v))) (r:Nat) (w:World) (hr:w.heap[r]?=M (.map cmpMap 4)) :
  Calls prog 205 #[.map (M r),Y I op] w fun e w'=>e=rt v/\w'=w:=by
 have hl:=aAs underlying231 w cmpMap 4 r hr op j v hf;clear hf hr;go_enter func205,ntmps205;exact uj
theorem tT (op:Int) (hf:Instr.findNow (.int .i64) (Y I op) cmpMap.toList 0=M Q) (r:Nat) (w:World) (hr:w.heap[r]?=M (.map cmpMap 4)) :
  Calls prog 205 #[.map (M r),Y I op] w fun e w'=>e=pg [{v:=fc 22 (Y I 4),recovered:=false}]/\w'=w.alloc (U #[Y I 4] 22):=by
 have hl:=aAt underlying231 w cmpMap 4 r hr op .nilFunc (fun _=>rfl) hf;clear hf hr;go_enter func205,ntmps205;exact U5
def qR (a b:Int):Int:=if b<a then b else a
def nG (a b:Int):Int:=if a<b then b else a
theorem cl54 (a b:Int) (w:World):Calls prog 249 #[Y I a,Y I b] w fun e w'=>e=rt (Y I a)/\w'=w:=by
 go_enter func249,ntmps249;exact uj
theorem cl55 (a b:Int) (w:World):Calls prog 250 #[Y I a,Y I b] w fun e w'=>e=rt (Y I (wrap64 (a+b)))/\w'=w:=by
 go_enter func250,ntmps250;exact uj
theorem cl56 (a b:Int) (w:World):Calls prog 251 #[Y I a,Y I b] w fun e w'=>e=rt (Y I (wrap64 (a - b)))/\w'=w:=by
 go_enter func251,ntmps251;exact uj
theorem cl57 (a b:Int) (w:World):Calls prog 252 #[Y I a,Y I b] w fun e w'=>e=rt (Y I (wrap64 (a*b)))/\w'=w:=by
 go_enter func252,ntmps252;exact uj
theorem cl61 (a b:Int) (w:World):Calls prog 245 #[Y I a,Y I b] w fun e w'=>e=rt (bo (a==b))/\w'=w:=by
 go_enter func245,ntmps245;exact uj
theorem cl62 (a b:Int) (w:World):Calls prog 246 #[Y I a,Y I b] w fun e w'=>e=rt (bo (a != b))/\w'=w:=by
 go_enter func246,ntmps246;exact uj
theorem cl63 (a b:Int) (w:World):Calls prog 247 #[Y I a,Y I b] w fun e w'=>e=rt (bo (decide (a<b)))/\w'=w:=by
 go_enter func247,ntmps247;exact uj
theorem cl64 (a b:Int) (w:World):Calls prog 248 #[Y I a,Y I b] w fun e w'=>e=rt (bo (decide (a<=b)))/\w'=w:=by
 go_enter func248,ntmps248;exact uj
theorem cl58 (a b:Int) (w:World):Calls prog 253 #[Y I a,Y I b] w fun e w'=>e=rt (Y I (qR a b))/\w'=w:=by
 unfold qR;go_enter func253,ntmps253;go_wp2
 all_goals go_ret
 all_goals exact⟨rfl,rfl⟩
theorem cl59 (a b:Int) (w:World):Calls prog 254 #[Y I a,Y I b] w fun e w'=>e=rt (Y I (nG a b))/\w'=w:=by
 unfold nG;go_enter func254,ntmps254;go_wp2
 all_goals go_ret
 all_goals exact⟨rfl,rfl⟩
theorem gI (cap:Array Value) (v:Int) (w:World)
  (h:Calls prog 207 cap (w.alloc (U #[Y I 0] 22)) fun e w'=>e=rt (Y I v)/\Below (w.heap.size+1) (w.alloc (U #[Y I 0] 22)) w') :
  Kr 185 #[.func (.func 207) #[] cap] w (tu #[Y I v,Y I 0]):=by
 have H:=Hi h;clear h;go_enter_defers func185,ntmps185
 go_wp2_with fail
 refine H.out.mono ?_;clear H;rintro e w1 ⟨rfl,hb⟩;have hc:w1.cell? ⟨w.heap.size,0,Q⟩=Y I 0:=by rw[hb.cell sm];simp
 have hf:w1.frozen? ⟨w.heap.size,0,Q⟩=false:=by rw[hb.frozen sm];simp
 have Hb:=Hi hb;clear hb;go_wp2;refine leaves_cons (f:=221) (args:=#[pd (M ⟨w.heap.size,0,Q⟩)]) sm (by simp[go_sem]) ?_;refine(catch53_idle ⟨w.heap.size,0,Q⟩ _).mono ?_;rintro e u' w'' ⟨rfl,rfl,rfl⟩;simp[Leaves,settle,results,results185,go_sem,hc];have hb:=Hb.out;exact uq
theorem caught_r_pan (cap:Array Value) (x:Int) (w:World)
  (h:Calls prog 207 cap (w.alloc (U #[Y I 0] 22)) fun e w'=>e=pg [{v:=fc 22 (Y I x),recovered:=false}]/\Below (w.heap.size+1) (w.alloc (U #[Y I 0] 22)) w') :
  Kr 185 #[.func (.func 207) #[] cap] w (tu #[Y I 0,Y I x]):=by
 have H:=Hi h;clear h;go_enter_defers func185,ntmps185
 go_wp2_with fail
 refine H.out.mono ?_;clear H;rintro e w1 ⟨rfl,hb⟩;have hc:w1.cell? ⟨w.heap.size,0,Q⟩=Y I 0:=by rw[hb.cell sm];simp
 have hf:w1.frozen? ⟨w.heap.size,0,Q⟩=false:=by rw[hb.frozen sm];simp
 refine leaves_cons (f:=221) (args:=#[pd (M ⟨w.heap.size,0,Q⟩)]) sm (by simp[go_sem]) ?_;refine(sT ⟨w.heap.size,0,Q⟩ x 0 [] _ hc hf).mono ?_;exact Vu
theorem kG (cap:Array Value) (v:Bool) (w:World)
  (h:Calls prog 204 cap (w.alloc (U #[Y I 0] 22)) fun e w'=>e=rt (bo v)/\Below (w.heap.size+1) (w.alloc (U #[Y I 0] 22)) w') :
  Kr 137 #[.func (.func 204) #[] cap] w (tu #[bo v,Y I 0]):=by
 exact v8
theorem caught_h_pan (cap:Array Value) (x:Int) (w:World)
  (h:Calls prog 204 cap (w.alloc (U #[Y I 0] 22)) fun e w'=>e=pg [{v:=fc 22 (Y I x),recovered:=false}]/\Below (w.heap.size+1) (w.alloc (U #[Y I 0] 22)) w') :
  Kr 137 #[.func (.func 204) #[] cap] w (tu #[bo false,Y I x]):=by
 exact vh
theorem caught_c_ret (cap:Array Value) (v:Bool) (w:World)
  (h:Calls prog 138 cap (w.alloc (U #[Y I 0] 22)) fun e w'=>e=rt (bo v)/\Below (w.heap.size+1) (w.alloc (U #[Y I 0] 22)) w') :
  Kr 137 #[.func (.func 138) #[] cap] w (tu #[bo v,Y I 0]):=by
 exact v8
theorem kH (cap:Array Value) (x:Int) (w:World)
  (h:Calls prog 138 cap (w.alloc (U #[Y I 0] 22)) fun e w'=>e=pg [{v:=fc 22 (Y I x),recovered:=false}]/\Below (w.heap.size+1) (w.alloc (U #[Y I 0] 22)) w') :
  Kr 137 #[.func (.func 138) #[] cap] w (tu #[bo false,Y I x]):=by
 exact vh
theorem tk {Qq:Exit->Act->World->Prop} {md:Region.Mode} {S:World->Prop} {oi:Oper} {a:Act} (i:Nat) (h:wpAnyH P md ops Qq S fuel l2 a2 w)
  (hi:ops[i]?=M oi:=by (simp only[List.getElem?_toArray,List.getElem?_cons_succ,List.getElem?_cons_zero]) <;> rfl)
  (hs:Region.noSelect ops=true:=by kernel_rfl) (hf:Region.free md ops listed i=true:=by kernel_rfl) (hr:(Region.ready md ops listed).contains i=true:=by kernel_rfl)
  (hw:Region.wanted oi (yielded ops a.tmps)=true:=by rfl) (hS:S w:=by assumption)
  (hv:∀w,S w->(execOp a.eval oi).run P w=.ok (.value v) w:=by (intro w hSw;go_simp;first | done | with_reducible rfl))
  (hQ:∀c a w,Qq (.panic c) (a.put oi.dst v) w->Qq (.panic c) a w:=by exact fun _ _ _ h=>h)
  (hl:listed.setIfInBounds i true=l2:=by (try simp only[List.setIfInBounds_toArray,List.set_cons_zero,List.set_cons_succ]) <;> rfl)
  (ha:a.put oi.dst v=a2:=by (try simp only[Act.put,List.setIfInBounds_toArray,List.set_cons_zero,List.set_cons_succ]) <;> rfl):wpAnyH P md ops Qq S (fuel+1) listed a w:=by
 subst hl ha;exact wpAnyH_take hi hs hf hr hQ (Or.inl ⟨hw,hv⟩) hS h
theorem tf {Qq:Exit->Act->World->Prop} {md:Region.Mode} {S:World->Prop} {oi:Oper} {a:Act} (i:Nat) (h:wpAnyH P md ops Qq S fuel l2 a2 w)
  (hi:ops[i]?=M oi:=by (simp only[List.getElem?_toArray,List.getElem?_cons_succ,List.getElem?_cons_zero]) <;> rfl)
  (hs:Region.noSelect ops=true:=by kernel_rfl) (hf:Region.free md ops listed i=true:=by kernel_rfl) (hr:(Region.ready md ops listed).contains i=true:=by kernel_rfl)
  (hw:Region.wanted oi (yielded ops a.tmps)=false:=by rfl) (hS:S w:=by assumption)
  (hQ:∀c a w,Qq (.panic c) (a.put oi.dst undef) w->Qq (.panic c) a w:=by exact fun _ _ _ h=>h)
  (hl:listed.setIfInBounds i true=l2:=by (try simp only[List.setIfInBounds_toArray,List.set_cons_zero,List.set_cons_succ]) <;> rfl)
  (ha:a.put oi.dst undef=a2:=by (try simp only[Act.put,List.setIfInBounds_toArray,List.set_cons_zero,List.set_cons_succ]) <;> rfl):wpAnyH P md ops Qq S (fuel+1) listed a w:=by
 subst hl ha;exact wpAnyH_take hi hs hf hr hQ (Or.inr ⟨hw,rfl⟩) hS h
theorem rq {Qq:Exit->Act->World->Prop} {md:Region.Mode} {S:World->Prop} {a:Act} {i:Nat} {o:Oper} {rs:List Nat}
  (h:∀K':Act->World->Prop,Shut (∀a w,S w->(S w->wpAnyH P md ops Qq S fuel (listed.setIfInBounds i true) a w)->K' a w)->if Region.wanted o (yielded ops a.tmps)=true then Oper.wp P o a w K' Qq else K' (a.put o.dst undef) w)
  (hs:AllReadyH P md ops Qq S fuel listed a w rs)
  (ho:ops[i]?=M o:=by (simp only[List.getElem?_toArray,List.getElem?_cons_succ,List.getElem?_cons_zero]) <;> rfl):AllReadyH P md ops Qq S fuel listed a w (i::rs):=AllReadyH.cons ho h hs
theorem r1 {Qq:Exit->Act->World->Prop} {md:Region.Mode} {S:World->Prop} {a:Act} {o:Oper} (i:Nat)
  (h:∀K':Act->World->Prop,Shut (∀a w,S w->(S w->wpAnyH P md ops Qq S fuel (listed.setIfInBounds i true) a w)->K' a w)->if Region.wanted o (yielded ops a.tmps)=true then Oper.wp P o a w K' Qq else K' (a.put o.dst undef) w)
  (hr:Region.ready md ops listed=[i]:=by kernel_rfl)
  (ho:ops[i]?=M o:=by (simp only[List.getElem?_toArray,List.getElem?_cons_succ,List.getElem?_cons_zero]) <;> rfl):wpAnyH P md ops Qq S (fuel+1) listed a w:=wpAnyH_ready hr sm (AllReadyH.cons ho h AllReadyH.nil)
theorem uz (h:p:=by
 go_wp2;go_ret;exact⟨rfl,(br.alloc nr _).drew⟩):p:=h
theorem vu (h:p:=by
 have hb:=Hb.out;exact⟨HV.out,(br.alloc nr _ |>.trans (hb.mono om)).setCell sm _⟩):p:=h
theorem xq (h:p:=by
 exact(‹Hid False› : Hid False).out.elim):p:=h
theorem reckon1_1 (a b:Int) (p0 p1 p2:Nat) (w:World) (h0:w.cell? ⟨p0,0,Q⟩=Y I 1) (h1:w.cell? ⟨p1,0,Q⟩=Y I a) (h2:w.cell? ⟨p2,0,Q⟩=Y I b) :
  Kr 207 #[pd (M ⟨p0,0,Q⟩),pd (M ⟨p1,0,Q⟩),pd (M ⟨p2,0,Q⟩)] w (Y I a):=by
 go_enter func207,ntmps207
 go_wp2_with fail
 go_region_held3 (fun w'=>w'.cell? ⟨p0,0,Q⟩=Y I 1/\w'.cell? ⟨p1,0,Q⟩=Y I a/\w'.cell? ⟨p2,0,Q⟩=Y I b) (go_keep)
  (first
   | (go_at_call 209;refine(dQ _).mono ?_;rintro e w' ⟨rfl,rfl⟩)
   | (go_at_call 208;refine(dI 1 0 (.func (.func 249) #[] #[]) rfl _ _ ?_).mono ?_;(show (w.heap.push _)[w.heap.size]?=_;simp);rintro e w' ⟨rfl,rfl⟩)
   | (go_at_call 249;refine(cl54 _ _ _).mono ?_;rintro e w' ⟨rfl,rfl⟩))
 exact uz
theorem reckon1_2 (a b:Int) (p0 p1 p2:Nat) (w:World) (h0:w.cell? ⟨p0,0,Q⟩=Y I 2) (h1:w.cell? ⟨p1,0,Q⟩=Y I a) (h2:w.cell? ⟨p2,0,Q⟩=Y I b) :
  Kr 207 #[pd (M ⟨p0,0,Q⟩),pd (M ⟨p1,0,Q⟩),pd (M ⟨p2,0,Q⟩)] w (Y I (wrap64 (a+b))):=by
 go_enter func207,ntmps207
 go_wp2_with fail
 go_region_held3 (fun w'=>w'.cell? ⟨p0,0,Q⟩=Y I 2/\w'.cell? ⟨p1,0,Q⟩=Y I a/\w'.cell? ⟨p2,0,Q⟩=Y I b) (go_keep)
  (first
   | (go_at_call 209;refine(dQ _).mono ?_;rintro e w' ⟨rfl,rfl⟩)
   | (go_at_call 208;refine(dI 2 1 (.func (.func 250) #[] #[]) rfl _ _ ?_).mono ?_;(show (w.heap.push _)[w.heap.size]?=_;simp);rintro e w' ⟨rfl,rfl⟩)
   | (go_at_call 250;refine(cl55 _ _ _).mono ?_;rintro e w' ⟨rfl,rfl⟩))
 exact uz
theorem reckon1_3 (a b:Int) (p0 p1 p2:Nat) (w:World) (h0:w.cell? ⟨p0,0,Q⟩=Y I 3) (h1:w.cell? ⟨p1,0,Q⟩=Y I a) (h2:w.cell? ⟨p2,0,Q⟩=Y I b) :
  Kr 207 #[pd (M ⟨p0,0,Q⟩),pd (M ⟨p1,0,Q⟩),pd (M ⟨p2,0,Q⟩)] w (Y I (wrap64 (a - b))):=by
 go_enter func207,ntmps207
 go_wp2_with fail
 go_region_held3 (fun w'=>w'.cell? ⟨p0,0,Q⟩=Y I 3/\w'.cell? ⟨p1,0,Q⟩=Y I a/\w'.cell? ⟨p2,0,Q⟩=Y I b) (go_keep)
  (first
   | (go_at_call 209;refine(dQ _).mono ?_;rintro e w' ⟨rfl,rfl⟩)
   | (go_at_call 208;refine(dI 3 2 (.func (.func 251) #[] #[]) rfl _ _ ?_).mono ?_;(show (w.heap.push _)[w.heap.size]?=_;simp);rintro e w' ⟨rfl,rfl⟩)
   | (go_at_call 251;refine(cl56 _ _ _).mono ?_;rintro e w' ⟨rfl,rfl⟩))
 exact uz
theorem reckon1_4 (a b:Int) (p0 p1 p2:Nat) (w:World) (h0:w.cell? ⟨p0,0,Q⟩=Y I 4) (h1:w.cell? ⟨p1,0,Q⟩=Y I a) (h2:w.cell? ⟨p2,0,Q⟩=Y I b) :
  Kr 207 #[pd (M ⟨p0,0,Q⟩),pd (M ⟨p1,0,Q⟩),pd (M ⟨p2,0,Q⟩)] w (Y I (wrap64 (a*b))):=by
 go_enter func207,ntmps207
 go_wp2_with fail
 go_region_held3 (fun w'=>w'.cell? ⟨p0,0,Q⟩=Y I 4/\w'.cell? ⟨p1,0,Q⟩=Y I a/\w'.cell? ⟨p2,0,Q⟩=Y I b) (go_keep)
  (first
   | (go_at_call 209;refine(dQ _).mono ?_;rintro e w' ⟨rfl,rfl⟩)
   | (go_at_call 208;refine(dI 4 3 (.func (.func 252) #[] #[]) rfl _ _ ?_).mono ?_;(show (w.heap.push _)[w.heap.size]?=_;simp);rintro e w' ⟨rfl,rfl⟩)
   | (go_at_call 252;refine(cl57 _ _ _).mono ?_;rintro e w' ⟨rfl,rfl⟩))
 exact uz
theorem reckon1_5 (a b:Int) (p0 p1 p2:Nat) (w:World) (h0:w.cell? ⟨p0,0,Q⟩=Y I 5) (h1:w.cell? ⟨p1,0,Q⟩=Y I a) (h2:w.cell? ⟨p2,0,Q⟩=Y I b) :
  Kr 207 #[pd (M ⟨p0,0,Q⟩),pd (M ⟨p1,0,Q⟩),pd (M ⟨p2,0,Q⟩)] w (Y I (qR a b)):=by
 go_enter func207,ntmps207
 go_wp2_with fail
 go_region_held3 (fun w'=>w'.cell? ⟨p0,0,Q⟩=Y I 5/\w'.cell? ⟨p1,0,Q⟩=Y I a/\w'.cell? ⟨p2,0,Q⟩=Y I b) (go_keep)
  (first
   | (go_at_call 209;refine(dQ _).mono ?_;rintro e w' ⟨rfl,rfl⟩)
   | (go_at_call 208;refine(dI 5 4 (.func (.func 253) #[] #[]) rfl _ _ ?_).mono ?_;(show (w.heap.push _)[w.heap.size]?=_;simp);rintro e w' ⟨rfl,rfl⟩)
   | (go_at_call 253;refine(cl58 _ _ _).mono ?_;rintro e w' ⟨rfl,rfl⟩))
 exact uz
theorem reckon1_6 (a b:Int) (p0 p1 p2:Nat) (w:World) (h0:w.cell? ⟨p0,0,Q⟩=Y I 6) (h1:w.cell? ⟨p1,0,Q⟩=Y I a) (h2:w.cell? ⟨p2,0,Q⟩=Y I b) :
  Kr 207 #[pd (M ⟨p0,0,Q⟩),pd (M ⟨p1,0,Q⟩),pd (M ⟨p2,0,Q⟩)] w (Y I (nG a b)):=by
 go_enter func207,ntmps207
 go_wp2_with fail
 go_region_held3 (fun w'=>w'.cell? ⟨p0,0,Q⟩=Y I 6/\w'.cell? ⟨p1,0,Q⟩=Y I a/\w'.cell? ⟨p2,0,Q⟩=Y I b) (go_keep)
  (first
   | (go_at_call 209;refine(dQ _).mono ?_;rintro e w' ⟨rfl,rfl⟩)
   | (go_at_call 208;refine(dI 6 5 (.func (.func 254) #[] #[]) rfl _ _ ?_).mono ?_;(show (w.heap.push _)[w.heap.size]?=_;simp);rintro e w' ⟨rfl,rfl⟩)
   | (go_at_call 254;refine(cl59 _ _ _).mono ?_;rintro e w' ⟨rfl,rfl⟩))
 exact uz
theorem reckon1_none (op a b:Int) (hf:Instr.findNow (.int .i64) (Y I op) opsMap.toList 0=M Q) (p0 p1 p2:Nat) (w:World) (h0:w.cell? ⟨p0,0,Q⟩=Y I op) (h1:w.cell? ⟨p1,0,Q⟩=Y I a) (h2:w.cell? ⟨p2,0,Q⟩=Y I b) :
  Kp 207 #[pd (M ⟨p0,0,Q⟩),pd (M ⟨p1,0,Q⟩),pd (M ⟨p2,0,Q⟩)] w 4:=by
 have Hf:=Hi hf;clear hf;go_enter func207,ntmps207
 go_wp2_with fail
 go_region_held (fun w'=>w'.cell? ⟨p0,0,Q⟩=Y I op/\w'.cell? ⟨p1,0,Q⟩=Y I a/\w'.cell? ⟨p2,0,Q⟩=Y I b) (go_keep)
  (first
   | (go_at_call 209;refine(dQ _).mono ?_;rintro e w' ⟨rfl,rfl⟩)
   | (go_at_call 208;refine(fT (vD op Hf.out _ _ ?_) (.func (.func 249) #[] #[])).mono ?_;(show (w.heap.push _)[w.heap.size]?=_;simp);rintro e w' (⟨rfl,rfl⟩ | ⟨hF,rfl,rfl⟩);exact⟨rfl,rfl,((br.alloc nr _).drew.alloc sm _)⟩)
   | (go_at_call 249;refine(cl54 _ _ _).mono ?_;rintro e w' ⟨rfl,rfl⟩))
 exact xq
theorem holds1_1 (a b:Int) (p0 p1 p2:Nat) (w:World) (h0:w.cell? ⟨p0,0,Q⟩=Y I 1) (h1:w.cell? ⟨p1,0,Q⟩=Y I a) (h2:w.cell? ⟨p2,0,Q⟩=Y I b) :
  Kr 204 #[pd (M ⟨p0,0,Q⟩),pd (M ⟨p1,0,Q⟩),pd (M ⟨p2,0,Q⟩)] w (bo (a==b)):=by
 go_enter func204,ntmps204
 go_wp2_with fail
 go_region_held3 (fun w'=>w'.cell? ⟨p0,0,Q⟩=Y I 1/\w'.cell? ⟨p1,0,Q⟩=Y I a/\w'.cell? ⟨p2,0,Q⟩=Y I b) (go_keep)
  (first
   | (go_at_call 206;refine(fH _).mono ?_;rintro e w' ⟨rfl,rfl⟩)
   | (go_at_call 205;refine(fM 1 0 (.func (.func 245) #[] #[]) rfl _ _ ?_).mono ?_;(show (w.heap.push _)[w.heap.size]?=_;simp);rintro e w' ⟨rfl,rfl⟩)
   | (go_at_call 245;refine(cl61 _ _ _).mono ?_;rintro e w' ⟨rfl,rfl⟩))
 exact uz
theorem holds1_2 (a b:Int) (p0 p1 p2:Nat) (w:World) (h0:w.cell? ⟨p0,0,Q⟩=Y I 2) (h1:w.cell? ⟨p1,0,Q⟩=Y I a) (h2:w.cell? ⟨p2,0,Q⟩=Y I b) :
  Kr 204 #[pd (M ⟨p0,0,Q⟩),pd (M ⟨p1,0,Q⟩),pd (M ⟨p2,0,Q⟩)] w (bo (a != b)):=by
 go_enter func204,ntmps204
 go_wp2_with fail
 go_region_held3 (fun w'=>w'.cell? ⟨p0,0,Q⟩=Y I 2/\w'.cell? ⟨p1,0,Q⟩=Y I a/\w'.cell? ⟨p2,0,Q⟩=Y I b) (go_keep)
  (first
   | (go_at_call 206;refine(fH _).mono ?_;rintro e w' ⟨rfl,rfl⟩)
   | (go_at_call 205;refine(fM 2 1 (.func (.func 246) #[] #[]) rfl _ _ ?_).mono ?_;(show (w.heap.push _)[w.heap.size]?=_;simp);rintro e w' ⟨rfl,rfl⟩)
   | (go_at_call 246;refine(cl62 _ _ _).mono ?_;rintro e w' ⟨rfl,rfl⟩))
 exact uz
theorem holds1_3 (a b:Int) (p0 p1 p2:Nat) (w:World) (h0:w.cell? ⟨p0,0,Q⟩=Y I 3) (h1:w.cell? ⟨p1,0,Q⟩=Y I a) (h2:w.cell? ⟨p2,0,Q⟩=Y I b) :
  Kr 204 #[pd (M ⟨p0,0,Q⟩),pd (M ⟨p1,0,Q⟩),pd (M ⟨p2,0,Q⟩)] w (bo (decide (a<b))):=by
 go_enter func204,ntmps204
 go_wp2_with fail
 go_region_held3 (fun w'=>w'.cell? ⟨p0,0,Q⟩=Y I 3/\w'.cell? ⟨p1,0,Q⟩=Y I a/\w'.cell? ⟨p2,0,Q⟩=Y I b) (go_keep)
  (first
   | (go_at_call 206;refine(fH _).mono ?_;rintro e w' ⟨rfl,rfl⟩)
   | (go_at_call 205;refine(fM 3 2 (.func (.func 247) #[] #[]) rfl _ _ ?_).mono ?_;(show (w.heap.push _)[w.heap.size]?=_;simp);rintro e w' ⟨rfl,rfl⟩)
   | (go_at_call 247;refine(cl63 _ _ _).mono ?_;rintro e w' ⟨rfl,rfl⟩))
 exact uz
theorem holds1_4 (a b:Int) (p0 p1 p2:Nat) (w:World) (h0:w.cell? ⟨p0,0,Q⟩=Y I 4) (h1:w.cell? ⟨p1,0,Q⟩=Y I a) (h2:w.cell? ⟨p2,0,Q⟩=Y I b) :
  Kr 204 #[pd (M ⟨p0,0,Q⟩),pd (M ⟨p1,0,Q⟩),pd (M ⟨p2,0,Q⟩)] w (bo (decide (a<=b))):=by
 go_enter func204,ntmps204
 go_wp2_with fail
 go_region_held3 (fun w'=>w'.cell? ⟨p0,0,Q⟩=Y I 4/\w'.cell? ⟨p1,0,Q⟩=Y I a/\w'.cell? ⟨p2,0,Q⟩=Y I b) (go_keep)
  (first
   | (go_at_call 206;refine(fH _).mono ?_;rintro e w' ⟨rfl,rfl⟩)
   | (go_at_call 205;refine(fM 4 3 (.func (.func 248) #[] #[]) rfl _ _ ?_).mono ?_;(show (w.heap.push _)[w.heap.size]?=_;simp);rintro e w' ⟨rfl,rfl⟩)
   | (go_at_call 248;refine(cl64 _ _ _).mono ?_;rintro e w' ⟨rfl,rfl⟩))
 exact uz
theorem holds1_none (op a b:Int) (hf:Instr.findNow (.int .i64) (Y I op) cmpMap.toList 0=M Q) (p0 p1 p2:Nat) (w:World) (h0:w.cell? ⟨p0,0,Q⟩=Y I op) (h1:w.cell? ⟨p1,0,Q⟩=Y I a) (h2:w.cell? ⟨p2,0,Q⟩=Y I b) :
  Kp 204 #[pd (M ⟨p0,0,Q⟩),pd (M ⟨p1,0,Q⟩),pd (M ⟨p2,0,Q⟩)] w 4:=by
 have Hf:=Hi hf;clear hf;go_enter func204,ntmps204
 go_wp2_with fail
 go_region_held (fun w'=>w'.cell? ⟨p0,0,Q⟩=Y I op/\w'.cell? ⟨p1,0,Q⟩=Y I a/\w'.cell? ⟨p2,0,Q⟩=Y I b) (go_keep)
  (first
   | (go_at_call 206;refine(fH _).mono ?_;rintro e w' ⟨rfl,rfl⟩)
   | (go_at_call 205;refine(fT (tT op Hf.out _ _ ?_) (.func (.func 245) #[] #[])).mono ?_;(show (w.heap.push _)[w.heap.size]?=_;simp);rintro e w' (⟨rfl,rfl⟩ | ⟨hF,rfl,rfl⟩);exact⟨rfl,rfl,((br.alloc nr _).drew.alloc sm _)⟩)
   | (go_at_call 245;refine(cl61 _ _ _).mono ?_;rintro e w' ⟨rfl,rfl⟩))
 exact xq
theorem UB (h:p:=by
 rw[ni _ _ _ (by simp;omega),ni _ _ _ (by simp;omega),ni _ _ _ sm];simp):p:=h
theorem UF (h:p:=by
 go_wp2_with fail
 refine H.out.mono ?_;clear H;rintro e w1 ⟨rfl,hb⟩;have Hb:=up3 hb;clear hb;go_wp2;go_ret2;exact⟨rfl,Hb⟩):p:=h
theorem Xd (h:p:=by
 simpa using this):p:=h
def fK (op a b:Int):Int:=if op=1 then a else if op=2 then wrap64 (a+b) else if op=3 then wrap64 (a - b) else if op=4 then wrap64 (a*b) else if op=5 then qR a b else if op=6 then nG a b else 0
def dG (op:Int):Int:=if 1<=op/\op<=6 then 0 else 4
def iN (k a b:Int):Bool:=if k=1 then a==b else if k=2 then a != b else if k=3 then decide (a<b) else if k=4 then decide (a<=b) else false
def eK (k:Int):Int:=if 1<=k/\k<=4 then 0 else 4
theorem new_cell (w:World) (v:Value) (T:TypeId):(w.alloc (U #[v] T)).cell? ⟨w.heap.size,0,Q⟩=M v:=by simp
theorem box3 (op a b:Int) (w:World) (o:Obj) :
  letI Z:=(((w.alloc (U #[Y I op] 3)).alloc (U #[Y I a] 3)).alloc (U #[Y I b] 3)).alloc o;Z.cell? ⟨w.heap.size,0,Q⟩=Y I op/\Z.cell? ⟨w.heap.size+1,0,Q⟩=Y I a/\Z.cell? ⟨w.heap.size+2,0,Q⟩=Y I b:=by
 refine⟨?_,?_,?_⟩
 ·exact UB
 ·rw[ni _ _ _ sm,ni _ _ _ sm];simp
 ·rw[ni _ _ _ sm];have:=new_cell ((w.alloc (U #[Y I op] 3)).alloc (U #[Y I a] 3)) (Y I b) 3;exact Xd
theorem up3 {x y z:Obj} (hb:Below (((w.alloc x).alloc y).alloc z).heap.size (((w.alloc x).alloc y).alloc z) w1):Below w.heap.size w w1:=
 (((br.alloc nr x).alloc sm y).alloc (by simp;omega) z).trans (hb.mono (by simp;omega))
theorem iZ (op a b:Int) (v:Int) (e:Int) (w:World)
  (h:Calls prog 185 #[.func (.func 207) #[] #[pd (M ⟨w.heap.size,0,Q⟩),pd (M ⟨w.heap.size+1,0,Q⟩),pd (M ⟨w.heap.size+2,0,Q⟩)]] (((w.alloc (U #[Y I op] 3)).alloc (U #[Y I a] 3)).alloc (U #[Y I b] 3)) fun e' w'=>e'=rt (tu #[Y I v,Y I e])/\Below (((w.alloc (U #[Y I op] 3)).alloc (U #[Y I a] 3)).alloc (U #[Y I b] 3)).heap.size (((w.alloc (U #[Y I op] 3)).alloc (U #[Y I a] 3)).alloc (U #[Y I b] 3)) w') :
  Calls prog 171 #[Y I op,Y I a,Y I b] w fun e' w'=>e'=rt (tu #[Y I v,Y I e])/\Below w.heap.size w w':=by
 have H:=Hi h;clear h;go_enter func171,ntmps171;exact UF
theorem oM (op a b:Int) (v:Bool) (e:Int) (w:World)
  (h:Calls prog 137 #[.func (.func 204) #[] #[pd (M ⟨w.heap.size,0,Q⟩),pd (M ⟨w.heap.size+1,0,Q⟩),pd (M ⟨w.heap.size+2,0,Q⟩)]] (((w.alloc (U #[Y I op] 3)).alloc (U #[Y I a] 3)).alloc (U #[Y I b] 3)) fun e' w'=>e'=rt (tu #[bo v,Y I e])/\Below (((w.alloc (U #[Y I op] 3)).alloc (U #[Y I a] 3)).alloc (U #[Y I b] 3)).heap.size (((w.alloc (U #[Y I op] 3)).alloc (U #[Y I a] 3)).alloc (U #[Y I b] 3)) w') :
  Calls prog 169 #[Y I op,Y I a,Y I b] w fun e' w'=>e'=rt (tu #[bo v,Y I e])/\Below w.heap.size w w':=by
 have H:=Hi h;clear h;go_enter func169,ntmps169;exact UF
theorem qH (op a b:Int) (w:World) :
  Calls prog 171 #[Y I op,Y I a,Y I b] w fun e' w'=>e'=rt (tu #[Y I (fK op a b),Y I (dG op)])/\Below w.heap.size w w':=by
 have hbx:=box3 op a b w (U #[Y I 0] 22);by_cases h1:op=1
 ·subst h1;exact iZ 1 a b _ _ w (gI _ _ _ (((reckon1_1 a b _ _ _ _ hbx.1 hbx.2.1 hbx.2.2)).mono (fun e w' h=>⟨h.1,by simpa using h.2⟩)))
 by_cases h2:op=2
 ·subst h2;exact iZ 2 a b _ _ w (gI _ _ _ (((reckon1_2 a b _ _ _ _ hbx.1 hbx.2.1 hbx.2.2)).mono (fun e w' h=>⟨h.1,by simpa using h.2⟩)))
 by_cases h3:op=3
 ·subst h3;exact iZ 3 a b _ _ w (gI _ _ _ (((reckon1_3 a b _ _ _ _ hbx.1 hbx.2.1 hbx.2.2)).mono (fun e w' h=>⟨h.1,by simpa using h.2⟩)))
 by_cases h4:op=4
 ·subst h4;exact iZ 4 a b _ _ w (gI _ _ _ (((reckon1_4 a b _ _ _ _ hbx.1 hbx.2.1 hbx.2.2)).mono (fun e w' h=>⟨h.1,by simpa using h.2⟩)))
 by_cases h5:op=5
 ·subst h5;exact iZ 5 a b _ _ w (gI _ _ _ (((reckon1_5 a b _ _ _ _ hbx.1 hbx.2.1 hbx.2.2)).mono (fun e w' h=>⟨h.1,by simpa using h.2⟩)))
 by_cases h6:op=6
 ·subst h6;exact iZ 6 a b _ _ w (gI _ _ _ (((reckon1_6 a b _ _ _ _ hbx.1 hbx.2.1 hbx.2.2)).mono (fun e w' h=>⟨h.1,by simpa using h.2⟩)))
 ·have b1:(op==1)=false:=by simpa using h1
  have b2:(op==2)=false:=by simpa using h2
  have b3:(op==3)=false:=by simpa using h3
  have b4:(op==4)=false:=by simpa using h4
  have b5:(op==5)=false:=by simpa using h5
  have b6:(op==6)=false:=by simpa using h6
  have hf:Instr.findNow (.int .i64) (Y I op) opsMap.toList 0=M Q:=by simp only[opsMap,Instr.findNow,Instr.sameNow,if_true,b1,b2,b3,b4,b5,b6]
  have hv:fK op a b=0:=by simp[fK,h1,h2,h3,h4,h5,h6]
  have he:dG op=4:=by unfold dG;rw[if_neg om]
  rw[hv,he];exact iZ op a b _ _ w (caught_r_pan _ _ _ (((reckon1_none op a b hf _ _ _ _ hbx.1 hbx.2.1 hbx.2.2)).mono (fun e w' h=>⟨h.1,by simpa using h.2⟩)))
theorem pG (op a b:Int) (w:World) :
  Calls prog 169 #[Y I op,Y I a,Y I b] w fun e' w'=>e'=rt (tu #[bo (iN op a b),Y I (eK op)])/\Below w.heap.size w w':=by
 have hbx:=box3 op a b w (U #[Y I 0] 22);by_cases h1:op=1
 ·subst h1;exact oM 1 a b _ _ w (kG _ _ _ (((holds1_1 a b _ _ _ _ hbx.1 hbx.2.1 hbx.2.2)).mono (fun e w' h=>⟨h.1,by simpa using h.2⟩)))
 by_cases h2:op=2
 ·subst h2;exact oM 2 a b _ _ w (kG _ _ _ (((holds1_2 a b _ _ _ _ hbx.1 hbx.2.1 hbx.2.2)).mono (fun e w' h=>⟨h.1,by simpa using h.2⟩)))
 by_cases h3:op=3
 ·subst h3;exact oM 3 a b _ _ w (kG _ _ _ (((holds1_3 a b _ _ _ _ hbx.1 hbx.2.1 hbx.2.2)).mono (fun e w' h=>⟨h.1,by simpa using h.2⟩)))
 by_cases h4:op=4
 ·subst h4;exact oM 4 a b _ _ w (kG _ _ _ (((holds1_4 a b _ _ _ _ hbx.1 hbx.2.1 hbx.2.2)).mono (fun e w' h=>⟨h.1,by simpa using h.2⟩)))
 ·have b1:(op==1)=false:=by simpa using h1
  have b2:(op==2)=false:=by simpa using h2
  have b3:(op==3)=false:=by simpa using h3
  have b4:(op==4)=false:=by simpa using h4
  have hf:Instr.findNow (.int .i64) (Y I op) cmpMap.toList 0=M Q:=by simp only[cmpMap,Instr.findNow,Instr.sameNow,if_true,b1,b2,b3,b4]
  have hv:iN op a b=false:=by simp[iN,h1,h2,h3,h4]
  have he:eK op=4:=by unfold eK;rw[if_neg om]
  rw[hv,he];exact oM op a b _ _ w (caught_h_pan _ _ _ (((holds1_none op a b hf _ _ _ _ hbx.1 hbx.2.1 hbx.2.2)).mono (fun e w' h=>⟨h.1,by simpa using h.2⟩)))
theorem x5 (h:p:=by
 go_enter func135,ntmps135;go_wp2
 all_goals go_ret2
 all_goals exact⟨rfl,rfl⟩):p:=h
theorem yd (h:p:=by
 rw[hv];clear hv;go_enter func170,ntmps170;exact uj):p:=h
theorem yp (h:p:=by
 go_enter func133,ntmps133;go_wp2
 all_goals go_ret2
 all_goals exact⟨rfl,rfl⟩):p:=h
theorem zh (h:p:=by
 go_enter func163,ntmps163;exact uj):p:=h
theorem UR (h:p:=by
 have hv:bH 2 n reads=3:=by unfold bH;rw[if_neg om,if_neg om,if_neg om,if_pos om]
 exact yd):p:=h
theorem Vm (h:p:=by
 have d0:decide (0<=reads)=true:=by simp;omega
 have d1:decide (reads<=4)=true:=by simp;omega
 exact zh):p:=h
theorem gE (op a b:Int) (w:World) :
  Calls prog 135 #[Y I op,Y I a,Y I b] w fun e' w'=>e'=rt (tu #[Y I (fK op a b),Y I (dG op)])/\w'=w:=by
 by_cases h1:op=1
 ·subst h1;have hv:fK 1 a b=a:=by simp[fK]
  have he:dG 1=0:=by simp[dG]
  rw[hv,he];clear hv he;exact x5
 by_cases h2:op=2
 ·subst h2;have hv:fK 2 a b=wrap64 (a+b):=by simp[fK]
  have he:dG 2=0:=by simp[dG]
  rw[hv,he];clear hv he h1;exact x5
 by_cases h3:op=3
 ·subst h3;have hv:fK 3 a b=wrap64 (a - b):=by simp[fK]
  have he:dG 3=0:=by simp[dG]
  rw[hv,he];clear hv he h1 h2;exact x5
 by_cases h4:op=4
 ·subst h4;have hv:fK 4 a b=wrap64 (a*b):=by simp[fK]
  have he:dG 4=0:=by simp[dG]
  rw[hv,he];clear hv he h1 h2 h3;exact x5
 by_cases h5:op=5
 ·subst h5;have hv:fK 5 a b=qR a b:=by simp[fK]
  have he:dG 5=0:=by simp[dG]
  rw[hv,he];clear hv he h1 h2 h3 h4;unfold qR;exact x5
 by_cases h6:op=6
 ·subst h6;have hv:fK 6 a b=nG a b:=by simp[fK]
  have he:dG 6=0:=by simp[dG]
  rw[hv,he];clear hv he h1 h2 h3 h4 h5;unfold nG;exact x5
 ·have hv:fK op a b=0:=by simp[fK,h1,h2,h3,h4,h5,h6]
  have he:dG op=4:=by unfold dG;rw[if_neg om]
  rw[hv,he];clear hv he;have b1:(op==1)=false:=by simpa using h1
  have b2:(op==2)=false:=by simpa using h2
  have b3:(op==3)=false:=by simpa using h3
  have b4:(op==4)=false:=by simpa using h4
  have b5:(op==5)=false:=by simpa using h5
  have b6:(op==6)=false:=by simpa using h6
  clear h1 h2 h3 h4 h5 h6;go_enter func135,ntmps135;go_wp2;go_ret2;exact⟨rfl,rfl⟩
theorem iC (op a b:Int) (w:World) :
  Calls prog 133 #[Y I op,Y I a,Y I b] w fun e' w'=>e'=rt (tu #[bo (iN op a b),Y I (eK op)])/\w'=w:=by
 by_cases h1:op=1
 ·subst h1;have hv:iN 1 a b=(a==b):=by simp[iN]
  have he:eK 1=0:=by simp[eK]
  rw[hv,he];clear hv he;exact yp
 by_cases h2:op=2
 ·subst h2;have hv:iN 2 a b=(a != b):=by simp[iN]
  have he:eK 2=0:=by simp[eK]
  rw[hv,he];clear hv he h1;exact yp
 by_cases h3:op=3
 ·subst h3;have hv:iN 3 a b=decide (a<b):=by simp[iN]
  have he:eK 3=0:=by simp[eK]
  rw[hv,he];clear hv he h1 h2;exact yp
 by_cases h4:op=4
 ·subst h4;have hv:iN 4 a b=decide (a<=b):=by simp[iN]
  have he:eK 4=0:=by simp[eK]
  rw[hv,he];clear hv he h1 h2 h3;exact yp
 ·have hv:iN op a b=false:=by simp[iN,h1,h2,h3,h4]
  have he:eK op=4:=by unfold eK;rw[if_neg om]
  rw[hv,he];clear hv he;have b1:(op==1)=false:=by simpa using h1
  have b2:(op==2)=false:=by simpa using h2
  have b3:(op==3)=false:=by simpa using h3
  have b4:(op==4)=false:=by simpa using h4
  clear h1 h2 h3 h4;go_enter func133,ntmps133;go_wp2;go_ret2;exact⟨rfl,rfl⟩
def bH (k n reads:Int):Int:=if reads<0∨4<reads then 3 else if k=1 then 0 else if ¬k=2 then 4 else if n<0∨reads<=n then 3 else 0
theorem eO (k n reads:Int) (w:World) (hr:(Lit.int I reads).wf=true) :
  Calls prog 170 #[ag #[Y I k,Y I n],Y I reads] w fun e' w'=>e'=rt (Y I (bH k n reads))/\w'=w.alloc (U #[Y I k,Y I n] 97):=by
 have hr1:reads<=9223372036854775807:=by have h:=hr;simp only[Lit.wf,Bool.and_eq_true,decide_eq_true_eq]at h;exact h.2
 have hr0 : -9223372036854775808<=reads:=by have h:=hr;simp only[Lit.wf,Bool.and_eq_true,decide_eq_true_eq]at h;exact h.1
 clear hr;by_cases h1:reads<0
 ·have hv:bH k n reads=3:=by unfold bH;rw[if_pos om]
  exact yd
 by_cases h2:4<reads
 ·have hv:bH k n reads=3:=by unfold bH;rw[if_pos om]
  exact yd
 by_cases h3:k=1
 ·subst h3;have hv:bH 1 n reads=0:=by unfold bH;rw[if_neg om,if_pos rfl]
  exact yd
 have b3:(k==1)=false:=by simpa using h3
 have c3:(k != 1)=true:=by simpa using h3
 by_cases h4:k=2
 ·subst h4;clear h3 b3 c3;by_cases h5:n<0
  ·exact UR
  by_cases h6:reads<=n
  ·exact UR
  have hv:bH 2 n reads=0:=by unfold bH;rw[if_neg om,if_neg om,if_neg om,if_neg om]
  exact yd
 ·have b4:(k==2)=false:=by simpa using h4
  have c4:(k != 2)=true:=by simpa using h4
  have hv:bH k n reads=4:=by unfold bH;rw[if_neg om,if_neg h3,if_pos h4]
  rw[hv];clear hv h3 h4;go_enter func170,ntmps170;exact uj
theorem bS (k n reads:Int) (w:World) (hr:(Lit.int I reads).wf=true) :
  Calls prog 163 #[ag #[Y I k,Y I n],Y I reads] w fun e' w'=>e'=rt (Y I (bH k n reads))/\w'=w.alloc (U #[Y I k,Y I n] 97):=by
 have hr1:reads<=9223372036854775807:=by have h:=hr;simp only[Lit.wf,Bool.and_eq_true,decide_eq_true_eq]at h;exact h.2
 have hr0 : -9223372036854775808<=reads:=by have h:=hr;simp only[Lit.wf,Bool.and_eq_true,decide_eq_true_eq]at h;exact h.1
 clear hr;by_cases h1:reads<0
 ·have hv:bH k n reads=3:=by unfold bH;rw[if_pos om]
  rw[hv];clear hv;have d0:decide (0<=reads)=false:=by simp;omega
  exact zh
 by_cases h2:4<reads
 ·have hv:bH k n reads=3:=by unfold bH;rw[if_pos om]
  rw[hv];clear hv;have d0:decide (0<=reads)=true:=by simp;omega
  have d1:decide (reads<=4)=false:=by simp;omega
  exact zh
 by_cases h3:k=1
 ·subst h3;have hv:bH 1 n reads=0:=by unfold bH;rw[if_neg om,if_pos rfl]
  rw[hv];clear hv;exact Vm
 have b3:(k==1)=false:=by simpa using h3
 have c3:(k != 1)=true:=by simpa using h3
 by_cases h4:k=2
 ·subst h4;clear h3 b3 c3;by_cases h5:n<0
  ·have hv:bH 2 n reads=3:=by unfold bH;rw[if_neg om,if_neg om,if_neg om,if_pos om]
   rw[hv];clear hv;have d0:decide (0<=reads)=true:=by simp;omega
   have d1:decide (reads<=4)=true:=by simp;omega
   have d2:decide (0<=n)=false:=by simp;omega
   exact zh
  by_cases h6:reads<=n
  ·have hv:bH 2 n reads=3:=by unfold bH;rw[if_neg om,if_neg om,if_neg om,if_pos om]
   rw[hv];clear hv;have d0:decide (0<=reads)=true:=by simp;omega
   have d1:decide (reads<=4)=true:=by simp;omega
   have d2:decide (0<=n)=true:=by simp;omega
   have d3:decide (n<=reads - 1)=false:=by simp;omega
   exact zh
  have hv:bH 2 n reads=0:=by unfold bH;rw[if_neg om,if_neg om,if_neg om,if_neg om]
  rw[hv];clear hv;have d0:decide (0<=reads)=true:=by simp;omega
  have d1:decide (reads<=4)=true:=by simp;omega
  have d2:decide (0<=n)=true:=by simp;omega
  have d3:decide (n<=reads - 1)=true:=by simp;omega
  exact zh
 ·have b4:(k==2)=false:=by simpa using h4
  have c4:(k != 2)=true:=by simpa using h4
  have hv:bH k n reads=4:=by unfold bH;rw[if_neg om,if_neg h3,if_pos h4]
  rw[hv];clear hv h3 h4;exact Vm
theorem Ug (h:p:=by
 go_enter func284,ntmps284
 go_wp2_with fail
 refine(eO _ _ _ _ hw).mono ?_;rintro e w1 ⟨rfl,rfl⟩;go_wp2;go_ret2;exact⟨by rw[H0.out];rfl,rfl⟩):p:=h
theorem Vp (h:p:=by
 subst hs;intro i hi;refine⟨w.heap.size,0,rfl,by simp,?_⟩
 match i,hi with
 | 0,_=>simp
 | 1,_=>simp):p:=h
def IsInts (w:World) (a:Option Addr) (zs:List Int):Prop:=
 ∀i,i<zs.length->∃b off,a=M ⟨b,off,Q⟩/\b<w.heap.size/\w.cell? ⟨b,off+i,Q⟩=Y I (zs.getD i 0)
theorem IsInts.below {zs:List Int} (h:IsInts w a zs) (hb:Below w.heap.size w w'):IsInts w' a zs:=by
 intro i hi;obtain⟨b,off,ha,hlt,hc⟩:=h i hi;exact⟨b,off,ha,nd hlt hb.size,by rw[hb.cell (p:=⟨b,off+i,Q⟩) hlt];exact hc⟩
def dN (k n:Int) (zs:List Int):Int:=if bH k n zs.length=0 then (if k=1 then n else zs.getD n.toNat 0) else 0
theorem chk_two {k n:Int} {l:Int} (h:bH k n l=0) (hk:¬k=1):k=2/\0<=n/\n<l:=by
 unfold bH at h;by_cases c1:l<0∨4<l
 ·rw[if_pos c1]at h;omega
 ·rw[if_neg c1,if_neg hk]at h;by_cases c2:k=2
  ·rw[if_neg om]at h;by_cases c3:n<0∨l<=n
   ·rw[if_pos c3]at h;omega
   ·omega
  ·rw[if_pos c2]at h;omega
theorem value_any (k n:Int) (zs:List Int) (a:Option Addr) (cap:Nat) (w:World) (hl:zs.length<=maxLen) (hz:IsInts w a zs) :
  Calls prog 284 #[ag #[Y I k,Y I n],J a zs.length cap] w fun e' w'=>e'=rt (tu #[Y I (dN k n zs),Y I (bH k n zs.length)])/\w'=(w.alloc (U #[Y I k,Y I n] 97)).alloc (U #[Y I k,Y I n] 97):=by
 have hw:(Lit.int I (zs.length:Int)).wf=true:=WalkArith.wf_i64 (by unfold maxLen at hl;omega);by_cases h0:bH k n zs.length=0
 ·have hb:(bH k n zs.length != 0)=false:=by simp[h0]
  by_cases hk:k=1
  ·subst hk;have hv:dN 1 n zs=n:=by unfold dN;rw[if_pos h0,if_pos rfl]
   rw[hv];have H0:=Hi h0;clear hv hz h0;exact Ug
  ·obtain⟨rfl,hn0,hn1⟩:=chk_two h0 hk;obtain⟨m,rfl⟩:=wg hn0;have hv:dN 2 (m:Int) zs=zs.getD m 0:=by unfold dN;rw[if_pos h0,if_neg hk,lq]
   rw[hv];obtain⟨b,off,rfl,hlt,hc⟩:=hz m om
   have hc2:∀o1 o2,((w.alloc o1).alloc o2).cell? ⟨b,off+m,Q⟩=Y I (zs.getD m 0):=by
    intro o1 o2;rw[ni _ _ _ (by simp;omega),ni _ _ _ (by simpa using hlt)];exact hc
   generalize zs.getD m 0=z at *;have H0:=Hi h0;clear hv hz h0 hc;exact Ug
 ·have hb:(bH k n zs.length != 0)=true:=by simpa using h0
  have hv:dN k n zs=0:=by unfold dN;rw[if_neg h0]
  rw[hv];clear hv hz h0;go_enter func284,ntmps284
  go_wp2_with fail
  refine(eO _ _ _ _ hw).mono ?_;rintro e w1 ⟨rfl,rfl⟩;go_wp2;go_ret2;exact⟨rfl,rfl⟩
theorem eZ (k n:Int) (zs:List Int) (a:Option Addr) (cap:Nat) (w:World) (hz:IsInts w a zs) (h0:bH k n zs.length=0) :
  Calls prog 134 #[ag #[Y I k,Y I n],J a zs.length cap] w fun e' w'=>e'=rt (Y I (dN k n zs))/\w'=w.alloc (U #[Y I k,Y I n] 97):=by
 by_cases hk:k=1
 ·subst hk;have hv:dN 1 n zs=n:=by unfold dN;rw[if_pos h0,if_pos rfl]
  rw[hv];clear hv hz h0;go_enter func134,ntmps134;exact uj
 ·obtain⟨rfl,hn0,hn1⟩:=chk_two h0 hk;obtain⟨m,rfl⟩:=wg hn0;have hv:dN 2 (m:Int) zs=zs.getD m 0:=by unfold dN;rw[if_pos h0,if_neg hk,lq]
  rw[hv];obtain⟨b,off,rfl,hlt,hc⟩:=hz m om
  have hc2:∀o1,(w.alloc o1).cell? ⟨b,off+m,Q⟩=Y I (zs.getD m 0):=by
   intro o1;rw[ni _ _ _ (by simpa using hlt)];exact hc
  generalize zs.getD m 0=z at *;clear hv hz h0 hc;go_enter func134,ntmps134;exact uj
theorem kA (n:Int) (w:World):Calls prog 101 #[Y I n] w fun e' w'=>e'=rt (ag #[Y I 2,Y I n])/\w'=w.alloc (U #[Y I 2,Y I n] 97):=by
 go_enter func101,ntmps101;go_wp2;exact bodyPost_ret (v:=ag #[Y I 2,Y I n]) (by simp[results,results101,go_sem]) rfl ⟨rfl,rfl⟩
theorem fJ (n:Int) (w:World):Calls prog 100 #[Y I n] w fun e' w'=>e'=rt (ag #[Y I 1,Y I n])/\w'=w.alloc (U #[Y I 1,Y I n] 97):=by
 go_enter func100,ntmps100;go_wp2;exact bodyPost_ret (v:=ag #[Y I 1,Y I n]) (by simp[results,results100,go_sem]) rfl ⟨rfl,rfl⟩
theorem isInts_two (w:World) (s:Nat) (x y:Int) (hs:s=w.heap.size):IsInts (w.alloc (U #[Y I x,Y I y] 3)) (M ⟨s,0,Q⟩) [x,y]:=by
 exact Vp
theorem aC {a b c:World} (h:Below a.heap.size a b) (k:Below b.heap.size b c):Below a.heap.size a c:=h.trans (k.mono h.size)
theorem aA {a:World} (h:Below a.heap.size a w) (o:Obj):Below a.heap.size a (w.alloc o):=h.alloc h.size o
theorem aD {a:World} (h:Below a.heap.size a w):Below a.heap.size a w.drew:=h.drew
theorem gb (h:p:=by repeat (first | assumption | exact Below.refl _ _ | refine aD ?_ | refine aA ?_ _ | refine aC ?_ (by assumption))):p:=h
theorem aG {a:World} (h:Below a.heap.size a w) {p:Addr} (hp:a.heap.size<=p.block) (u:Value):Below a.heap.size a (w.setCell p u):=h.setCell hp u
section
open Go.ChangeShapes Go.WideShapes Go.ChangeAt Go.RowKit
theorem ownK:ownKnob prog.godebug=Q:=by kernel_rfl
theorem laidOutK:laidOutB prog=true:=by kernel_rfl
end
theorem ui (h:p:=by
 obtain⟨k,hk,rfl,hno,hnx⟩:=hrel;by_cases hlt:k<zs.length
 ·have hlt':k<ys.length:=by have:=HL.out;omega
  obtain⟨b,off,rfl,hb,hc⟩:=hz k hlt;obtain⟨b',off',rfl,hb',hc'⟩:=hy k hlt';have hs:=Hi (hno.out.trans (aAd zs ys k hlt hlt'));have hc:=(hnx.cell (p:=⟨b,off+k,Q⟩) hb).trans hc;have hc':=(hnx.cell (p:=⟨b',off'+k,Q⟩) hb').trans hc';have HX:=Hi hnx;generalize zs.getD k 0=x at *;generalize ys.getD k 0=y at *;clear hno hz hy hnx;have i1:(0:Int)<=(k:Int):=om;have i2:(k:Int)<(zs.length:Int):=om;have i3:(k:Int)<(ys.length:Int):=om;by_cases h1:x=y
  ·have H':Hid (zs=ys↔zs.drop (k+1)=ys.drop (k+1)):=hs.out.trans (by simp[h1]);have h2:(x != y)=false:=by simpa using h1
   clear hs h1;exact Ul
  ·have H':Hid (¬zs=ys):=by
    intro e;exact h1 (hs.out.1 e).1
   have h2:(x != y)=true:=by simpa using h1
   clear hs h1
   go_wp2_with fail
   go_quiet (fail)
   go_wp2;go_ret;exact⟨by rw[decide_eq_false H'.out];rfl,below_drewN HX.out _⟩
 ·have H':Hid (zs=ys):=by
   refine hno.out.2 ?_;have:=HL.out;rw[wh om,wh om]
  clear hno hz hy;go_wp2;go_ret;exact⟨by rw[decide_eq_true H'.out];rfl,hnx⟩):p:=h
theorem yb (h:p:=by
 go_wp2;go_round
 case rel=>exact⟨k+1,by omega,by go_num,H'⟩
 case measure=>simp[intOf];omega):p:=h
theorem Ue (h:p:=by
 go_wp2;go_ret;exact⟨by rw[H'.out];rfl,rfl⟩):p:=h
theorem Ul (h:p:=by
 go_wp2_with fail
 go_quiet (fail)
 go_wp2;go_roundw
 case rel=>exact⟨k+1,by omega,by go_num,H',below_drewN HX.out _⟩
 case measure=>simp[intOf];omega):p:=h
theorem UI (h:p:=by
 have h0:=hno.out;rw[wh om]at h0;exact h0):p:=h
theorem Xa (h:p:=by
 simp[List.getD,h]):p:=h
theorem Xm (h:p:=by
 go_wp2;go_ret;exact⟨by rw[decide_eq_false H'.out];rfl,br⟩):p:=h
theorem iR {α:Type} (l:List α) (k:Nat) (d:α) (h:k<l.length):l.drop k=l.getD k d::l.drop (k+1):=by
 rw[List.drop_eq_getElem_cons h];exact Xa
def cO:List Int->Int
 | []=>0
 | z::t=>if z<0∨8<=z then 3 else cO t
def dP:List Int->Int
 | []=>0
 | [_]=>0
 | x::y::t=>if y<=x then 1 else dP (y::t)
def aH:List Int->Int
 | []=>0
 | e::l=>if e=0 then aH l else e
theorem oE (l:List Int) (k:Nat) (h:k<l.length):cO (l.drop k)=if l.getD k 0<0∨8<=l.getD k 0 then 3 else cO (l.drop (k+1)):=by
 rw[iR l k 0 h];rfl
theorem qG (l:List Int) (k:Nat) (h:k+1<l.length):dP (l.drop k)=if l.getD (k+1) 0<=l.getD k 0 then 1 else dP (l.drop (k+1)):=by
 rw[iR l k 0 om,iR l (k+1) 0 h];rfl
theorem tH (l:List Int) (k:Nat) (h:l.length<=k+1):dP (l.drop k)=0:=by
 have hl:(l.drop k).length<=1:=by rw[List.length_drop];omega
 match hd:l.drop k,hl with
 | [],_=>rfl
 | [_],_=>rfl
def xO (v:Int):List Int->Int->Int
 | [],_=>-1
 | z::t,i=>if v=z then i else xO v t (i+1)
theorem idxE_step (v:Int) (l:List Int) (k:Nat) (h:k<l.length):xO v (l.drop k) k=if v=l.getD k 0 then (k:Int) else xO v (l.drop (k+1)) (k+1:Nat):=by
 rw[iR l k 0 h];rfl
theorem idxE_mem (v:Int):∀(l:List Int) (i:Int),0<=i->decide (0<=xO v l i)=decide (v∈l)
 | [],i,_=>by simp[xO]
 | z::t,i,h=>by
  unfold xO;by_cases hv:v=z
  ·rw[if_pos hv];simp[hv,h]
  ·rw[if_neg hv,idxE_mem v t (i+1) om];simp[hv]
theorem mem_step (v:Int) (l:List Int) (k:Nat) (h:k<l.length):(v∈l.drop k)↔(l.getD k 0=v∨v∈l.drop (k+1)):=by
 rw[iR l k 0 h,List.mem_cons];exact or_congr_left eq_comm
theorem aAd (l m:List Int) (k:Nat) (h:k<l.length) (h':k<m.length):(l.drop k=m.drop k)↔(l.getD k 0=m.getD k 0/\l.drop (k+1)=m.drop (k+1)):=by
 rw[iR l k 0 h,iR m k 0 h',List.cons.injEq]
theorem iK (zs:List Int) (a:Option Addr) (cap:Nat) (w:World) (hl:zs.length<=maxLen) (hz:IsInts w a zs) :
  Calls prog 167 #[J a zs.length cap] w fun e w'=>e=rt (Y I (cO zs))/\w'=w:=by
 unfold maxLen at hl;go_enter func167,ntmps167;go_wp2
 go_loop [4,7] (fun _ i=>∃k:Nat,k<=zs.length/\i=Y I k/\Hid (cO zs=cO (zs.drop k))) (fun _ i=>zs.length - (intOf i).toNat)
 case atStart=>exact⟨0,nz,rfl,rfl⟩
 case round=>
  obtain⟨k,hk,rfl,hno⟩:=hrel;by_cases hlt:k<zs.length
  ·obtain⟨b,off,rfl,hb,hc⟩:=hz k hlt;have hs:=Hi (hno.out.trans (oE zs k hlt));generalize zs.getD k 0=z at *;clear hno hz;by_cases h1:z<0
   ·have H':=Hi (hs.out.trans (if_pos om));clear hs;exact Ue
   ·by_cases h2:8<=z
    ·have H':=Hi (hs.out.trans (if_pos om));clear hs;exact Ue
    ·have H':=Hi (hs.out.trans (if_neg om));clear hs;exact yb
  ·have H':Hid (cO zs=0):=by
    exact UI
   clear hno hz;exact Ue
theorem jH (zs:List Int) (a:Option Addr) (cap:Nat) (w:World) (hl:zs.length<=maxLen) (hz:IsInts w a zs) :
  Kr 168 #[J a zs.length cap] w (Y I (dP zs)):=by
 unfold maxLen at hl;go_enter func168,ntmps168;go_wp2
 go_loopw [3] (fun i wr=>∃k:Nat,k<=zs.length/\i=Y I (k+1:Nat)/\Hid (dP zs=dP (zs.drop k))/\Below w.heap.size w wr) (fun i _=>zs.length+1 - (intOf i).toNat)
 case atStart=>exact⟨0,nz,rfl,rfl,br⟩
 case round=>
  obtain⟨k,hk,rfl,hno,hnx⟩:=hrel;by_cases hlt:k+1<zs.length
  ·obtain⟨b,off,rfl,hb,hc⟩:=hz (k+1) hlt;obtain⟨b',off',hbo,hb',hc'⟩:=hz k om;simp only[Option.some.injEq,Addr.mk.injEq,and_true]at hbo;obtain⟨rfl,rfl⟩:=hbo;have hc:=(hnx.cell (p:=⟨b,off+(k+1),Q⟩) hb).trans hc;have hc':=(hnx.cell (p:=⟨b,off+k,Q⟩) hb).trans hc';have HX:=Hi hnx;clear hnx;have hs:=Hi (hno.out.trans (qG zs k hlt));generalize zs.getD (k+1) 0=y at *;generalize zs.getD k 0=x at *;clear hno hz;have i1:(0:Int)<=(k:Int)+1:=om;have i2:((k:Int)+1)<(zs.length:Int):=om;by_cases hyx:y<=x
   ·have H':=Hi (hs.out.trans (if_pos hyx));clear hs
    go_wp2_with fail
    go_quiet (fail)
    go_wp2;go_ret;exact⟨by rw[H'.out];rfl,below_drewN HX.out _⟩
   ·have H':=Hi (hs.out.trans (if_neg hyx));clear hs;exact Ul
  ·have H':=Hi (hno.out.trans (tH zs k om));clear hno hz;go_wp2;go_ret;exact⟨by rw[H'.out];rfl,hnx⟩
theorem index_any (v:Int) (zs:List Int) (a:Option Addr) (cap:Nat) (w:World) (hl:zs.length<=maxLen) (hz:IsInts w a zs) :
  Calls prog 282 #[J a zs.length cap,Y I v] w fun e w'=>e=rt (Y I (xO v zs 0))/\w'=w:=by
 unfold maxLen at hl;go_enter func282,ntmps282;go_wp2
 go_loop [5,8] (fun _ i=>∃k:Nat,k<=zs.length/\i=Y I k/\Hid (xO v zs 0=xO v (zs.drop k) k)) (fun _ i=>zs.length - (intOf i).toNat)
 case atStart=>exact⟨0,nz,rfl,rfl⟩
 case round=>
  obtain⟨k,hk,rfl,hno⟩:=hrel;by_cases hlt:k<zs.length
  ·obtain⟨b,off,rfl,hb,hc⟩:=hz k hlt;have hs:=Hi (hno.out.trans (idxE_step v zs k hlt));generalize zs.getD k 0=z at *;clear hno hz;by_cases h1:v=z
   ·have H':=Hi (hs.out.trans (if_pos h1));have h2:(v==z)=true:=by simpa using h1
    clear hs h1;exact Ue
   ·have H':=Hi (hs.out.trans (if_neg h1));have h2:(v==z)=false:=by simpa using h1
    clear hs h1;exact yb
  ·have H':Hid (xO v zs 0 = -1):=by
    exact UI
   clear hno hz;exact Ue
theorem cY (v:Int) (zs:List Int) (a:Option Addr) (cap:Nat) (w:World) (hl:zs.length<=maxLen) (hz:IsInts w a zs) :
  Calls prog 270 #[J a zs.length cap,Y I v] w fun e w'=>e=rt (bo (decide (v∈zs)))/\w'=w:=by
 have H:=Hi (idxE_mem v zs 0 (Int.le_refl _));go_enter func270,ntmps270
 go_wp2_with fail
 refine(index_any v zs a cap _ hl hz).mono ?_;rintro e w' ⟨rfl,rfl⟩;clear hz;generalize xO v zs 0=r at *;go_wp2;go_ret;exact⟨by rw[<-H.out];rfl,rfl⟩
theorem rH (zs ys:List Int) (a a':Option Addr) (cap cap':Nat) (w:World) (hl:zs.length<=maxLen) (hz:IsInts w a zs) (hy:IsInts w a' ys) :
  Kr 99 #[J a zs.length cap,J a' ys.length cap'] w (bo (decide (zs=ys))):=by
 unfold maxLen at hl;by_cases hlen:zs.length=ys.length
 ·have hbl:((zs.length:Int) != (ys.length:Int))=false:=by simp[hlen]
  have HL:=Hi hlen;clear hlen;go_enter func99,ntmps99;go_wp2
  go_loopw [5] (fun i wr=>∃k:Nat,k<=zs.length/\i=Y I k/\Hid (zs=ys↔zs.drop k=ys.drop k)/\Below w.heap.size w wr) (fun i _=>zs.length - (intOf i).toNat)
  case atStart=>exact⟨0,nz,rfl,Iff.rfl,br⟩
  case round=>exact ui
 ·have H':Hid (¬zs=ys):=fun e=>hlen (by rw[e])
  have hbl:((zs.length:Int) != (ys.length:Int))=true:=by simp;omega
  clear hlen hz hy;go_enter func99,ntmps99;exact Xm
theorem xw (h:p:=by
 go_enter func165,ntmps165;go_wp2;go_ret;exact⟨by rw[H.out];rfl,rfl⟩):p:=h
theorem Un (h:p:=by
 have H':=Hi (hs.out.2 (.inl h1));have h2:(z==key)=true:=by simpa using h1
 clear hs h1;go_wp2;go_ret;exact⟨by rw[decide_eq_true H'.out];rfl,rfl⟩):p:=h
theorem Xk (h:p:=by
 clear hno hz;go_wp2;go_ret;exact⟨by rw[decide_eq_false H'.out];rfl,rfl⟩):p:=h
section
structure Gd where
 k:Int
 ak:Int
 an:Int
 bk:Int
 bn:Int
structure St where
 key:Int
 op:Int
 ak:Int
 an:Int
 bk:Int
 bn:Int
def g0:Gd:=⟨0,0,0,0,0⟩
def s0:St:=⟨0,0,0,0,0,0⟩
def aJ (ss:List St):List Int:=ss.map St.key
def IsGs (w:World) (a:Option Addr) (gs:List Gd):Prop:=
 ∀i,i<gs.length->∃b off,a=M ⟨b,off,Q⟩/\b<w.heap.size/\w.cell? ⟨b,off+i*5,Q⟩=Y I (gs.getD i g0).k/\w.cell? ⟨b,off+i*5+1,Q⟩=Y I (gs.getD i g0).ak/\
  w.cell? ⟨b,off+i*5+2,Q⟩=Y I (gs.getD i g0).an/\w.cell? ⟨b,off+i*5+3,Q⟩=Y I (gs.getD i g0).bk/\w.cell? ⟨b,off+i*5+4,Q⟩=Y I (gs.getD i g0).bn
def IsSs (w:World) (a:Option Addr) (ss:List St):Prop:=
 ∀i,i<ss.length->∃b off,a=M ⟨b,off,Q⟩/\b<w.heap.size/\w.cell? ⟨b,off+i*6,Q⟩=Y I (ss.getD i s0).key/\w.cell? ⟨b,off+i*6+1,Q⟩=Y I (ss.getD i s0).op/\
  w.cell? ⟨b,off+i*6+2,Q⟩=Y I (ss.getD i s0).ak/\w.cell? ⟨b,off+i*6+3,Q⟩=Y I (ss.getD i s0).an/\w.cell? ⟨b,off+i*6+4,Q⟩=Y I (ss.getD i s0).bk/\w.cell? ⟨b,off+i*6+5,Q⟩=Y I (ss.getD i s0).bn
theorem IsGs.below {gs:List Gd} (h:IsGs w a gs) (hb:Below w.heap.size w w'):IsGs w' a gs:=by
 intro i hi;obtain⟨b,off,ha,hlt,h0,h1,h2,h3,h4⟩:=h i hi;refine⟨b,off,ha,nd hlt hb.size,?_,?_,?_,?_,?_⟩ <;> (rw[hb.cell hlt];assumption)
theorem IsSs.below {ss:List St} (h:IsSs w a ss) (hb:Below w.heap.size w w'):IsSs w' a ss:=by
 intro i hi;obtain⟨b,off,ha,hlt,h0,h1,h2,h3,h4,h5⟩:=h i hi;refine⟨b,off,ha,nd hlt hb.size,?_,?_,?_,?_,?_,?_⟩ <;> (rw[hb.cell hlt];assumption)
structure IsTx (w:World) (ra ga sa:Option Addr) (rs:List Int) (gs:List Gd) (ss:List St):Prop where
 r:IsInts w ra rs
 g:IsGs w ga gs
 s:IsSs w sa ss
 lr:rs.length<=maxLen
 lg:gs.length<=maxLen
 ls:ss.length<=maxLen
theorem IsTx.below {ra ga sa:Option Addr} {rs:List Int} {gs:List Gd} {ss:List St} (h:IsTx w ra ga sa rs gs ss) (hb:Below w.heap.size w w'):IsTx w' ra ga sa rs gs ss:=
 ⟨h.r.below hb,h.g.below hb,h.s.below hb,h.lr,h.lg,h.ls⟩
theorem cM (ss:List St):(aJ ss).length=ss.length:=by simp[aJ]
theorem jR (ss:List St) (k:Nat) (h:k<ss.length):(aJ ss).getD k 0=(ss.getD k s0).key:=by
 simp[aJ,List.getD,h]
def cW (r g s:Nat):Int:=if 4<r∨2<g∨3<s∨s=0 then 2 else 0
variable (ra ga sa:Option Addr) (rc gc sc:Nat) (rs:List Int) (gs:List Gd) (ss:List St)
theorem jA (key:Int) (w:World) (ht:IsTx w ra ga sa rs gs ss) :
  Calls prog 129 #[ag #[J ra rs.length rc,J ga gs.length gc,J sa ss.length sc],Y I key] w fun e w'=>e=rt (bo (decide (key∈rs)))/\w'=w.alloc (U #[J ra rs.length rc,J ga gs.length gc,J sa ss.length sc] 95):=by
 obtain⟨hz,_,_,hl,_,_⟩:=ht;unfold maxLen at hl;go_enter func129,ntmps129;go_wp2
 go_loop [5] (fun i=>∃k:Nat,k<=rs.length/\i=Y I k/\Hid (key∈rs↔key∈rs.drop k)) (fun i=>rs.length - (intOf i).toNat)
 case atStart=>exact⟨0,nz,rfl,Iff.rfl⟩
 case round=>
  obtain⟨k,hk,rfl,hno⟩:=hrel;by_cases hlt:k<rs.length
  ·obtain⟨b,off,rfl,hb,hc⟩:=hz k hlt;have hs:=Hi (hno.out.trans (mem_step key rs k hlt));have hc:=fun o=>(ni (w:=w) (o:=o) (a:=⟨b,off+k,Q⟩) hb).trans hc
   generalize rs.getD k 0=z at *;clear hno hz;by_cases h1:z=key
   ·exact Un
   ·have H':Hid (key∈rs↔key∈rs.drop (k+1)):=hs.out.trans (by simp[h1]);have h2:(z==key)=false:=by simpa using h1
    clear hs h1;exact yb
  ·have H':Hid (¬key∈rs):=by
    intro h;have h0:=hno.out.1 h;rw[wh om]at h0;simp at h0
   exact Xk
theorem dL (key:Int) (w:World) (ht:IsTx w ra ga sa rs gs ss) :
  Calls prog 130 #[ag #[J ra rs.length rc,J ga gs.length gc,J sa ss.length sc],Y I key] w fun e w'=>e=rt (bo (decide (key∈aJ ss)))/\w'=w.alloc (U #[J ra rs.length rc,J ga gs.length gc,J sa ss.length sc] 95):=by
 obtain⟨_,_,hz,_,_,hl⟩:=ht;unfold maxLen at hl;have hkl:=cM ss;have HL:=Hi hkl;clear hkl;go_enter func130,ntmps130;go_wp2
 go_loop [5] (fun i=>∃k:Nat,k<=ss.length/\i=Y I k/\Hid (key∈aJ ss↔key∈(aJ ss).drop k)) (fun i=>ss.length - (intOf i).toNat)
 case atStart=>exact⟨0,nz,rfl,Iff.rfl⟩
 case round=>
  obtain⟨k,hk,rfl,hno⟩:=hrel;by_cases hlt:k<ss.length
  ·obtain⟨b,off,rfl,hb,hc,_,_,_,_,_⟩:=hz k hlt
   have hs:Hid (key∈aJ ss↔((ss.getD k s0).key=key∨key∈(aJ ss).drop (k+1))):=by
    have:=hno.out.trans (mem_step key (aJ ss) k (by rw[HL.out];exact hlt));rw[jR ss k hlt]at this;exact this
   have hc:=fun o=>(ni (w:=w) (o:=o) (a:=⟨b,off+k*6,Q⟩) hb).trans hc
   generalize (ss.getD k s0).key=z at *;clear hno hz;by_cases h1:z=key
   ·exact Un
   ·have H':Hid (key∈aJ ss↔key∈(aJ ss).drop (k+1)):=hs.out.trans (by simp[h1]);have h2:(z==key)=false:=by simpa using h1
    clear hs h1;exact yb
  ·have H':Hid (¬key∈aJ ss):=by
    intro h;have h0:=hno.out.1 h;rw[wh (by rw[HL.out];omega)]at h0;simp at h0
   exact Xk
theorem lZ (w:World) (ht:IsTx w ra ga sa rs gs ss) :
  Calls prog 165 #[ag #[J ra rs.length rc,J ga gs.length gc,J sa ss.length sc]] w fun e w'=>e=rt (Y I (cW rs.length gs.length ss.length))/\w'=w.alloc (U #[J ra rs.length rc,J ga gs.length gc,J sa ss.length sc] 95):=by
 obtain⟨_,_,_,hlr,hlg,hls⟩:=ht;unfold maxLen at hlr hlg hls;generalize rs.length=r at *;generalize gs.length=g at *;generalize ss.length=s at *;by_cases h1:4<r
 ·have H:Hid (cW r g s=2):=if_pos om;have b1:(4:Int)<(r:Int):=om;exact xw
 ·by_cases h2:2<g
  ·have H:Hid (cW r g s=2):=if_pos om;have b1:¬(4:Int)<(r:Int):=om;have b2:(2:Int)<(g:Int):=om;exact xw
  ·by_cases h3:3<s
   ·have H:Hid (cW r g s=2):=if_pos om;have b1:¬(4:Int)<(r:Int):=om;have b2:¬(2:Int)<(g:Int):=om;have b3:(3:Int)<(s:Int):=om;exact xw
   ·by_cases h4:s=0
    ·have H:Hid (cW r g s=2):=if_pos om;subst h4;have b1:¬(4:Int)<(r:Int):=om;have b2:¬(2:Int)<(g:Int):=om;exact xw
    ·have H:Hid (cW r g s=0):=if_neg om;have b1:¬(4:Int)<(r:Int):=om;have b2:¬(2:Int)<(g:Int):=om;have b3:¬(3:Int)<(s:Int):=om;have b4:((s:Int)==0)=false:=by simp;omega
     exact xw
end
theorem ut (h:p:=by
 repeat (first | assumption | exact br | refine aD ?_ | refine aA ?_ _ | refine aC ?_ (by assumption))):p:=h
theorem xx (h:p:=by
 refine⟨Q,0,by rw[hn,h0],fun i hi=>?_⟩;omega):p:=h
theorem Uc (h:p:=by
 rw[hkk,le (by rw[hkl.out];exact nr)]at hown;exact hown):p:=h
theorem Uz (h:p:=by
 intro j u hj
 match j,hj with
 | 0,hj=>simp at hj;subst hj;simp[Addr.add]):p:=h
theorem UD (h:p:=by
 refine(hbW.cell (by simp;omega)).trans ?_;rw[ni _ _ _ (by simp;omega),ni _ _ _ sm];simp):p:=h
theorem UE (h:p:=by
 have hc:=h.cellAt i om;rw[nw,hc];simp[List.getD,hi]):p:=h
theorem VH (h:p:=by
 go_roundw
 case rel=>exact⟨k+1,by omega,by go_num,R,RB⟩
 case measure=>simp[intOf];omega):p:=h
section
theorem info3:(prog.info? 3).map (fun i=>(i.zero,i.size,i.bytes))=M (M (Y I 0),1,8):=by kernel_rfl
theorem gF {zs:List Int} (h:w.ownsRow base 3 1 v n (zs.map (Y I))):∃a cap,v=J a zs.length cap/\IsInts w a zs:=by
 have hn:zs.length=n:=by have:=h.1;simpa using this
 rcases h.2 with ⟨rfl,h0⟩ | ⟨g,cap,cur,rfl,hb,hg,hnc,hcm,hcs,htake⟩
 ·exact xx
 ·refine⟨M ⟨g,0,Q⟩,cap,by rw[hn],fun i hi=>⟨g,0,rfl,(Array.getElem?_eq_some_iff.1 hg).1,?_⟩⟩;exact UE
theorem lP (w:World) (x:Int) (s:Nat) (hs:s=w.heap.size):∀j u,[Y I x][j]?=M u->(w.alloc (U #[Y I x] 3)).cell? ((⟨s,0,Q⟩:Addr).add j)=M u:=by
 subst hs;exact Uz
theorem take_keys (ss:List St) (k:Nat) (h:k<ss.length):(aJ ss).take (k+1)=(aJ ss).take k++[(ss.getD k s0).key]:=by
 rw[lp (by rw[cM];exact h)];simp[aJ,List.getD,h]
variable (ra ga sa:Option Addr) (rc gc sc:Nat) (rs:List Int) (gs:List Gd) (ss:List St)
theorem setKeys_own (w:World) (ht:IsTx w ra ga sa rs gs ss) (h3:ss.length<=3) :
  Calls prog 166 #[ag #[J ra rs.length rc,J ga gs.length gc,J sa ss.length sc]] w fun e w'=>∃v,e=rt v/\w'.ownsRow (w.heap.size+1) 3 1 v ss.length ((aJ ss).map (Y I))/\Below w.heap.size w w':=by
 obtain⟨_,_,hz,_,_,_⟩:=ht;obtain⟨i0,hi,hz0,hz1,hz2⟩:=info_parts info3;have hkl:=Hi (cM ss);go_enter func166,ntmps166;go_wp2
 go_loopw [3,5,9] (fun v _ i wr=>∃k:Nat,k<=ss.length/\i=Y I k/\wr.ownsRow (w.heap.size+1) 3 1 v k (((aJ ss).take k).map (Y I))/\Below (w.heap.size+1) (w.alloc (U #[J ra rs.length rc,J ga gs.length gc,J sa ss.length sc] 95)) wr) (fun _ _ i _=>ss.length - (intOf i).toNat)
 case atStart=>exact⟨0,nz,rfl,n8 _ _ _ _,br⟩
 case round=>
  obtain⟨k,hk,rfl,hown,hnx⟩:=hrel;have hsz:w.heap.size+1<=wr.heap.size:=by have:=hnx.size;simpa using this
  by_cases hlt:k<ss.length
  ·obtain⟨b,off,rfl,hb,c0,c1,c2,c3,c4,c5⟩:=hz k hlt
   have up:∀j u,w.cell? _=M u->wr.cell? _=M u:=fun j u h=>
    (hnx.cell (p:=⟨b,j,Q⟩) (lx hb)).trans ((ni _ _ ⟨b,j,Q⟩ hb).trans h)
   have d0:=up _ _ c0;have d1:=up _ _ c1;have d2:=up _ _ c2;have d3:=up _ _ c3;have d4:=up _ _ c4;have d5:=up _ _ c5;have HT:=Hi (take_keys ss k hlt);clear c0 c1 c2 c3 c4 c5 up hz;generalize (ss.getD k s0)=s at *;obtain⟨key,op,ak,an,bk,bn⟩:=s;simp only at d0 d1 d2 d3 d4 d5
   go_wp2_with (first
    | (at_builtin;refine wpList_append_own _ rfl _ _ 41 rfl (w.heap.size+1) 3 i0 (Y I 0) 1 8 underlying41 hi hz0 hz1 hz2 rfl dc _ _ _ rfl ((hown.alloc _).alloc _) ⟨wr.heap.size+1,0,Q⟩ 1 1 [Y I key] rfl rfl (lP _ _ _ sm) (ints_oneCell I [key]) (by unfold maxLen;omega) om (by simp;omega) ?_;intro v' w1 hown' hgrow _)
    | go_in)
   have R:w1.ownsRow (w.heap.size+1) 3 1 v' (k+1) (((aJ ss).take (k+1)).map (Y I)):=by rw[HT.out,ny];exact hown'
   have RB:=(((hnx.alloc om _).alloc (by simp;omega) _).grown hgrow (by simp;omega) (fun j hj=>(hown.lt j hj).1));clear hown' hgrow hown hnx d0 d1 d2 d3 d4 d5;go_wp2;exact VH
  ·have R:wr.ownsRow (w.heap.size+1) 3 1 u3 ss.length ((aJ ss).map (Y I)):=by
    have hkk:k=ss.length:=om;exact Uc
   have RB:=(aA br _).trans (hnx.mono om);clear hown hnx hz;go_wp2;go_ret;exact⟨_,rfl,R,RB⟩
theorem lH (w:World) (ht:IsTx w ra ga sa rs gs ss) (h3:ss.length<=3) :
  Calls prog 166 #[ag #[J ra rs.length rc,J ga gs.length gc,J sa ss.length sc]] w fun e w'=>∃ka kc,e=rt (J ka (aJ ss).length kc)/\IsInts w' ka (aJ ss)/\Below w.heap.size w w':=
 (setKeys_own ra ga sa rc gc sc rs gs ss w ht h3).mono fun e w' ⟨v,he,ho,hb⟩=>by
  obtain⟨a,cap,rfl,hz⟩:=gF ho;exact⟨a,cap,he,hz,hb⟩
theorem aW:∀(es:List Int),aH es=0->∀k,es.getD k 0=0
 | [],_,k=>by simp
 | e::l,h,k=>by
  unfold aH at h;by_cases he:e=0
  ·rw[if_pos he]at h
   cases k with
   | zero=>simpa using he
   | succ k=>simpa using aW l h k
  ·rw[if_neg he]at h;exact absurd h he
theorem rW:∀(es:List Int),¬aH es=0->∃n,n<es.length/\(∀k,k<n->es.getD k 0=0)/\es.getD n 0=aH es
 | [],h=>absurd rfl h
 | e::l,h=>by
  unfold aH at h;by_cases he:e=0
  ·rw[if_pos he]at h;obtain⟨n,h1,h2,h3⟩:=rW l h;refine⟨n+1,by simp;omega,fun k hk=>?_,?_⟩
   ·cases k with
    | zero=>simpa using he
    | succ k=>simpa using h2 k om
   ·rw[aH,if_pos he,<-h3];simp
  ·exact⟨0,by simp,fun k hk=>absurd hk om,by rw[aH,if_neg he];simp⟩
theorem aQ (es:List Int) (b cap:Nat) (w:World) (hl:es.length<=8) (h:aH es=0) (hc:∀k,k<es.length->w.cell? ⟨b,k,Q⟩=Y I (es.getD k 0)) :
  Calls prog 15 #[J (M ⟨b,0,Q⟩) es.length cap] w fun e w'=>e=rt (tu #[])/\w'=w:=leave_ok es b cap w hl (aW es h) hc
theorem dR (es:List Int) (b cap:Nat) (w:World) (hl:es.length<=8) (h:¬aH es=0) (hc:∀k,k<es.length->w.cell? ⟨b,k,Q⟩=Y I (es.getD k 0)) :
  Calls prog 15 #[J (M ⟨b,0,Q⟩) es.length cap] w fun e w'=>e=pg [{v:=fc 22 (Y I (aH es)),recovered:=false}]/\w'=w:=by
 obtain⟨n,h1,h2,h3⟩:=rW es h;exact dK es n (aH es) b cap w hl h1 h2 h3 h hc
theorem dS (w:World) (s:Nat) (x:Int) (hs:s=w.heap.size):∀k,k < [x].length->(w.alloc (U #[Y I x] 22)).cell? ⟨s,k,Q⟩=Y I ([x].getD k 0):=by
 subst hs;intro k hk
 match k,hk with
 | 0,_=>simp
theorem lS (w:World) (s:Nat) (x y:Int) (hs:s=w.heap.size):∀k,k < [x,y].length->(w.alloc (U #[Y I x,Y I y] 22)).cell? ⟨s,k,Q⟩=Y I ([x,y].getD k 0):=by
 subst hs;intro k hk
 match k,hk with
 | 0,_=>simp
 | 1,_=>simp
theorem aBk (w:World) (s:Nat) (x y z:Int) (hs:s=w.heap.size):∀k,k < [x,y,z].length->(w.alloc (U #[Y I x,Y I y,Y I z] 22)).cell? ⟨s,k,Q⟩=Y I ([x,y,z].getD k 0):=by
 subst hs;intro k hk
 match k,hk with
 | 0,_=>simp
 | 1,_=>simp
 | 2,_=>simp
theorem errs4 (w:World) (s:Nat) (x y z u:Int) (hs:s=w.heap.size):∀k,k < [x,y,z,u].length->(w.alloc (U #[Y I x,Y I y,Y I z,Y I u] 22)).cell? ⟨s,k,Q⟩=Y I ([x,y,z,u].getD k 0):=by
 subst hs;intro k hk
 match k,hk with
 | 0,_=>simp
 | 1,_=>simp
 | 2,_=>simp
 | 3,_=>simp
theorem aB {W:World} {p:Addr} (hb:Below W.heap.size W w') (q:W.cell? p=M v):w'.cell? p=M v:=(hb.cell (np W p q)).trans q
theorem ext1 {W:World} {p:Addr} (hb:Below W.heap.size W w') (q:W.cell? p=M v):Below W.heap.size W w'/\w'.cell? p=M v:=⟨hb,aB hb q⟩
def jS (rs:List Int) (ss:List St):Int:=aH [cO rs,cO (aJ ss),dP rs,dP (aJ ss)]
theorem bI (r g s:Nat) (h:cW r g s=0):r<=4/\g<=2/\s<=3/\0<s:=by
 unfold cW at h;by_cases c:4<r∨2<g∨3<s∨s=0
 ·rw[if_pos c]at h;omega
 ·omega
theorem many_two (r g s:Nat) (h:¬cW r g s=0):cW r g s=2:=by
 unfold cW at *;by_cases c:4<r∨2<g∨3<s∨s=0
 ·rw[if_pos c]
 ·rw[if_neg c]at h;exact absurd rfl h
theorem yG (w:World) (ht:IsTx w ra ga sa rs gs ss) (hm:¬cW rs.length gs.length ss.length=0) :
  Kp 139 #[ag #[J ra rs.length rc,J ga gs.length gc,J sa ss.length sc]] w 2:=by
 have H2:=Hi (many_two _ _ _ hm);have ht1:=fun o=>ht.below (aA (n7 w.heap.size w) o)
 clear hm;go_enter func139,ntmps139
 go_wp2_with fail
 refine(lZ ra ga sa rc gc sc rs gs ss _ (ht1 _)).mono ?_;rintro e w' ⟨rfl,rfl⟩;rw[H2.out];clear H2 ht ht1
 go_wp2_with fail
 refine(dK [2] 0 2 _ 1 _ sm sm sm rfl dc (dS _ _ _ sm)).mono ?_;rintro e w' ⟨rfl,rfl⟩;go_wp2;refine⟨rfl,rfl,?_⟩
 repeat (first | exact br | refine aA ?_ _)
theorem nK (w:World) (ht:IsTx w ra ga sa rs gs ss) (hm:cW rs.length gs.length ss.length=0) (hk:jS rs ss=0) :
  Kr 139 #[ag #[J ra rs.length rc,J ga gs.length gc,J sa ss.length sc]] w (tu #[]):=by
 obtain⟨hr4,_,hs3,_⟩:=bI _ _ _ hm;have H0:=Hi hm;have HK:=Hi hk;have hkl:Hid ((aJ ss).length<=maxLen):=by rw[cM];exact ht.ls
 have HT:=Hi ht;clear hm hk ht;go_enter func139,ntmps139
 go_wp2_with fail
 refine(lZ ra ga sa rc gc sc rs gs ss _ (HT.out.below (aA br _))).mono ?_;rintro e w' ⟨rfl,rfl⟩;rw[H0.out];clear H0
 go_wp2_with fail
 refine(aQ [0] _ 1 _ sm rfl (dS _ _ _ sm)).mono ?_;rintro e w' ⟨rfl,rfl⟩
 go_wp2_with fail
 refine(lH ra ga sa rc gc sc rs gs ss _ (HT.out.below gb) hs3).mono ?_;rintro e W ⟨ka,kc,rfl,hka,hbW⟩;have hW:Below w.heap.size w W:=gb
 have q0:W.cell? ⟨w.heap.size,0,Q⟩=J ra rs.length rc:=by
  exact UD
 have hra:=Hi (HT.out.r.below hW);have hlr:=Hi HT.out.lr;have hks:=Hi hka;clear HT hka hbW
 go_wp2_with fail
 go_region_held3 (fun w'=>Below W.heap.size W w'/\w'.cell? ⟨w.heap.size,0,Q⟩=J ra rs.length rc) ((go_split_ands;refine ext1 ?_ q0;repeat (first | assumption | exact br | refine aD ?_ | refine aA ?_ _ | refine aC ?_ (by assumption))))
  (first
   | (go_at_call_of 167 (J ra rs.length rc);refine(iK rs ra rc _ hlr.out ?_).mono ?_;(refine hra.out.below ?_;go_split_ands;repeat (first | assumption | exact br | refine aD ?_ | refine aA ?_ _ | refine aC ?_ (by assumption)));rintro e w' ⟨rfl,rfl⟩)
   | (go_at_call_of 167 (J ka (aJ ss).length kc);refine(iK (aJ ss) ka kc _ hkl.out ?_).mono ?_;(refine hks.out.below ?_;go_split_ands;repeat (first | assumption | exact br | refine aD ?_ | refine aA ?_ _ | refine aC ?_ (by assumption)));rintro e w' ⟨rfl,rfl⟩)
   | (go_at_call_of 168 (J ra rs.length rc);refine(jH rs ra rc _ hlr.out ?_).mono ?_;(refine hra.out.below ?_;go_split_ands;repeat (first | assumption | exact br | refine aD ?_ | refine aA ?_ _ | refine aC ?_ (by assumption)));rintro e w' ⟨rfl,hbx⟩)
   | (go_at_call_of 168 (J ka (aJ ss).length kc);refine(jH (aJ ss) ka kc _ hkl.out ?_).mono ?_;(refine hks.out.below ?_;go_split_ands;repeat (first | assumption | exact br | refine aD ?_ | refine aA ?_ _ | refine aC ?_ (by assumption)));rintro e w' ⟨rfl,hbx⟩)
   | (go_at_call 15;refine(aQ [cO rs,cO (aJ ss),dP rs,dP (aJ ss)] _ 4 _ sm HK.out ?_).mono ?_;(exact errs4 _ _ _ _ _ _ sm);rintro e w' ⟨rfl,rfl⟩))
 go_end0;refine⟨rfl,aC hW ?_⟩;go_split_ands;exact ut
theorem zW (w:World) (ht:IsTx w ra ga sa rs gs ss) (hm:cW rs.length gs.length ss.length=0) (hk:¬jS rs ss=0) :
  Kp 139 #[ag #[J ra rs.length rc,J ga gs.length gc,J sa ss.length sc]] w (jS rs ss):=by
 obtain⟨hr4,_,hs3,_⟩:=bI _ _ _ hm;have H0:=Hi hm;have HK:=Hi hk;have hkl:Hid ((aJ ss).length<=maxLen):=by rw[cM];exact ht.ls
 have HT:=Hi ht;clear hm hk ht;go_enter func139,ntmps139
 go_wp2_with fail
 refine(lZ ra ga sa rc gc sc rs gs ss _ (HT.out.below (aA br _))).mono ?_;rintro e w' ⟨rfl,rfl⟩;rw[H0.out];clear H0
 go_wp2_with fail
 refine(aQ [0] _ 1 _ sm rfl (dS _ _ _ sm)).mono ?_;rintro e w' ⟨rfl,rfl⟩
 go_wp2_with fail
 refine(lH ra ga sa rc gc sc rs gs ss _ (HT.out.below gb) hs3).mono ?_;rintro e W ⟨ka,kc,rfl,hka,hbW⟩;have hW:Below w.heap.size w W:=gb
 have q0:W.cell? ⟨w.heap.size,0,Q⟩=J ra rs.length rc:=by
  exact UD
 have hra:=Hi (HT.out.r.below hW);have hlr:=Hi HT.out.lr;have hks:=Hi hka;clear HT hka hbW
 go_wp2_with fail
 go_region_held (fun w'=>Below W.heap.size W w'/\w'.cell? ⟨w.heap.size,0,Q⟩=J ra rs.length rc) ((go_split_ands;refine ext1 ?_ q0;repeat (first | assumption | exact br | refine aD ?_ | refine aA ?_ _ | refine aC ?_ (by assumption))))
  (first
   | (go_at_call_of 167 (J ra rs.length rc);refine(iK rs ra rc _ hlr.out ?_).mono ?_;(refine hra.out.below ?_;go_split_ands;repeat (first | assumption | exact br | refine aD ?_ | refine aA ?_ _ | refine aC ?_ (by assumption)));rintro e w' ⟨rfl,rfl⟩)
   | (go_at_call_of 167 (J ka (aJ ss).length kc);refine(iK (aJ ss) ka kc _ hkl.out ?_).mono ?_;(refine hks.out.below ?_;go_split_ands;repeat (first | assumption | exact br | refine aD ?_ | refine aA ?_ _ | refine aC ?_ (by assumption)));rintro e w' ⟨rfl,rfl⟩)
   | (go_at_call_of 168 (J ra rs.length rc);refine(jH rs ra rc _ hlr.out ?_).mono ?_;(refine hra.out.below ?_;go_split_ands;repeat (first | assumption | exact br | refine aD ?_ | refine aA ?_ _ | refine aC ?_ (by assumption)));rintro e w' ⟨rfl,hbx⟩)
   | (go_at_call_of 168 (J ka (aJ ss).length kc);refine(jH (aJ ss) ka kc _ hkl.out ?_).mono ?_;(refine hks.out.below ?_;go_split_ands;repeat (first | assumption | exact br | refine aD ?_ | refine aA ?_ _ | refine aC ?_ (by assumption)));rintro e w' ⟨rfl,hbx⟩)
   | (go_at_call 15;refine(fT (dR [cO rs,cO (aJ ss),dP rs,dP (aJ ss)] _ 4 _ sm HK.out ?_) (tu #[])).mono ?_;(exact errs4 _ _ _ _ _ _ sm);rintro e w' (⟨rfl,rfl⟩ | ⟨hF,rfl,rfl⟩);(refine⟨rfl,rfl,aC hW ?_⟩;go_split_ands;repeat (first | assumption | exact br | refine aD ?_ | refine aA ?_ _ | refine aC ?_ (by assumption)))))
 exact xq
end
theorem vy (h:p:=by
 go_wp2;go_roundw
 case rel=>
  refine⟨k'+1,by omega,by go_num,HN,RB.out.trans (Below.mono (B:=W.heap.size) ?_ (nh hsz (by rw[<-hG];exact HWr.out.size)))⟩;go_split_ands;exact ut
 case measure=>simp[intOf];omega):p:=h
theorem zo (h:p:=by
 have h0:=hno.out;rw[wh (by simp;omega)]at h0;exact h0):p:=h
section
def dZ (n:Nat) (g:Gd):Int:=aH [eK g.k,bH g.ak g.an n,bH g.bk g.bn n]
def dY (n:Nat) (s:St):Int:=aH [dG s.op,bH s.ak s.an n,bH s.bk s.bn n]
theorem gG {α:Type} (f:α->Int) (l:List α) (d:α) (k:Nat) (h:k<l.length):aH ((l.map f).drop k)=if f (l.getD k d)=0 then aH ((l.map f).drop (k+1)) else f (l.getD k d):=by
 rw[iR (l.map f) k 0 (by simpa using h)];have e:(l.map f).getD k 0=f (l.getD k d):=by simp[List.getD,h]
 rw[e];rfl
theorem ext5 {W:World} {p5:Addr} {v5:Value} (hb:Below W.heap.size W w') (q1:W.cell? p1=M v1) (q2:W.cell? p2=M v2) (q3:W.cell? p3=M v3) (q4:W.cell? p4=M v4) (q5:W.cell? p5=M v5) :
  Below W.heap.size W w'/\w'.cell? p1=M v1/\w'.cell? p2=M v2/\w'.cell? p3=M v3/\w'.cell? p4=M v4/\w'.cell? p5=M v5:=⟨hb,aB hb q1,aB hb q2,aB hb q3,aB hb q4,aB hb q5⟩
variable (ra ga sa:Option Addr) (rc gc sc:Nat) (rs:List Int) (gs:List Gd) (ss:List St)
theorem nU (w:World) (ht:IsTx w ra ga sa rs gs ss) :
  Calls prog 140 #[ag #[J ra rs.length rc,J ga gs.length gc,J sa ss.length sc]] w fun e w'=>((aH (gs.map (dZ rs.length))=0/\e=rt (tu #[]))∨(¬aH (gs.map (dZ rs.length))=0/\e=pg [{v:=fc 22 (Y I (aH (gs.map (dZ rs.length)))),recovered:=false}]))/\Below w.heap.size w w':=by
 have hwr:Hid ((Lit.int I (rs.length:Int)).wf=true):=WalkArith.wf_i64 (by have:=ht.lr;unfold maxLen at this;omega);obtain⟨_,hz,_,_,hl,_⟩:=ht;unfold maxLen at hl;go_enter func140,ntmps140;go_wp2
 go_loopw [3,4,5,9] (fun _ _ _ i wr=>∃k:Nat,k<=gs.length/\i=Y I k/\Hid (aH (gs.map (dZ rs.length))=aH ((gs.map (dZ rs.length)).drop k))/\Below (w.heap.size+1) (w.alloc (U #[J ra rs.length rc,J ga gs.length gc,J sa ss.length sc] 95)) wr) (fun _ _ _ i _=>gs.length - (intOf i).toNat)
 case atStart=>exact⟨0,nz,rfl,rfl,br⟩
 case round=>
  obtain⟨k',hk,rfl,hno,hnx⟩:=hrel;have hsz:w.heap.size+1<=wr.heap.size:=by have:=hnx.size;simpa using this
  have hnx':=(aA br _).trans (hnx.mono om);by_cases hlt:k'<gs.length
  ·obtain⟨b,off,rfl,hb,c0,c1,c2,c3,c4⟩:=hz k' hlt
   have up:∀j u,w.cell? _=M u->wr.cell? _=M u:=fun j u h=>
    (hnx.cell (p:=⟨b,j,Q⟩) (lx hb)).trans ((ni _ _ ⟨b,j,Q⟩ hb).trans h)
   have d0:=up _ _ c0;have d1:=up _ _ c1;have d2:=up _ _ c2;have d3:=up _ _ c3;have d4:=up _ _ c4;have qb:wr.cell? _=J ra rs.length rc:=(hnx.cell (p:=⟨w.heap.size,0,Q⟩) (nk _)).trans sm;have hs:=Hi (hno.out.trans (gG (dZ rs.length) gs g0 k' hlt));clear c0 c1 c2 c3 c4 up hz hno;generalize (gs.getD k' g0)=s at *;obtain⟨k,ak,an,bk,bn⟩:=s;simp only at d0 d1 d2 d3 d4;by_cases hE:dZ rs.length ⟨k,ak,an,bk,bn⟩=0
   ·have HN:=Hi (hs.out.trans (if_pos hE));have HE:Hid (aH [eK k,bH ak an rs.length,bH bk bn rs.length]=0):=hE;clear hs hE
    go_wp2_with fail
    refine(pG k 0 0 _).mono ?_;rintro e W ⟨rfl,hbW⟩;have hWr:Below wr.heap.size wr W:=gb;have hW:=aC hnx' hWr;have q0:=aB hWr qb;have y1:W.cell? ⟨wr.heap.size,1,Q⟩=Y I ak:=(hbW.cell sm).trans sm;have y2:W.cell? ⟨wr.heap.size,2,Q⟩=Y I an:=(hbW.cell sm).trans sm;have y3:W.cell? ⟨wr.heap.size,3,Q⟩=Y I bk:=(hbW.cell sm).trans sm;have y4:W.cell? ⟨wr.heap.size,4,Q⟩=Y I bn:=(hbW.cell sm).trans sm;have RB:Hid (Below (w.heap.size+1) (w.alloc _) W):=hnx.trans (hWr.mono hsz);have HWr:=Hi hWr;generalize hG:wr.heap.size=G at *;clear hbW hWr d0 d1 d2 d3 d4 qb hnx
    go_wp2_with fail
    go_region_held3 (fun w'=>Below W.heap.size W w'/\w'.cell? ⟨w.heap.size,0,Q⟩=J ra rs.length rc/\w'.cell? ⟨G,1,Q⟩=Y I ak/\w'.cell? ⟨G,2,Q⟩=Y I an/\w'.cell? ⟨G,3,Q⟩=Y I bk/\w'.cell? ⟨G,4,Q⟩=Y I bn) ((go_split_ands;refine ext5 ?_ q0 y1 y2 y3 y4;repeat (first | assumption | exact br | refine aD ?_ | refine aA ?_ _ | refine aC ?_ (by assumption))))
     (first
      | (go_at_call_of 170 (ag #[Y I ak,Y I an]);refine(eO ak an rs.length _ hwr.out).mono ?_;rintro e w' ⟨rfl,rfl⟩)
      | (go_at_call_of 170 (ag #[Y I bk,Y I bn]);refine(eO bk bn rs.length _ hwr.out).mono ?_;rintro e w' ⟨rfl,rfl⟩)
      | (go_at_call 15;refine(aQ [eK k,bH ak an rs.length,bH bk bn rs.length] _ 3 _ sm HE.out ?_).mono ?_;(exact aBk _ _ _ _ _ sm);rintro e w' ⟨rfl,rfl⟩))
    exact vy
   ·have HV:Hid (aH _=aH [eK k,bH ak an rs.length,bH bk bn rs.length]):=hs.out.trans (if_neg hE);have HE:Hid (¬aH [eK k,bH ak an rs.length,bH bk bn rs.length]=0):=hE;have HF:Hid (¬aH (gs.map (dZ rs.length))=0):=by rw[HV.out];exact hE
    clear hs hE
    go_wp2_with fail
    refine(pG k 0 0 _).mono ?_;rintro e W ⟨rfl,hbW⟩;have hWr:Below wr.heap.size wr W:=gb;have hW:=aC hnx' hWr;have q0:=aB hWr qb;have y1:W.cell? ⟨wr.heap.size,1,Q⟩=Y I ak:=(hbW.cell sm).trans sm;have y2:W.cell? ⟨wr.heap.size,2,Q⟩=Y I an:=(hbW.cell sm).trans sm;have y3:W.cell? ⟨wr.heap.size,3,Q⟩=Y I bk:=(hbW.cell sm).trans sm;have y4:W.cell? ⟨wr.heap.size,4,Q⟩=Y I bn:=(hbW.cell sm).trans sm;have RB:Hid (Below (w.heap.size+1) (w.alloc _) W):=hnx.trans (hWr.mono hsz);have HWr:=Hi hWr;generalize hG:wr.heap.size=G at *;clear hbW hWr d0 d1 d2 d3 d4 qb hnx
    go_wp2_with fail
    go_region_held (fun w'=>Below W.heap.size W w'/\w'.cell? ⟨w.heap.size,0,Q⟩=J ra rs.length rc/\w'.cell? ⟨G,1,Q⟩=Y I ak/\w'.cell? ⟨G,2,Q⟩=Y I an/\w'.cell? ⟨G,3,Q⟩=Y I bk/\w'.cell? ⟨G,4,Q⟩=Y I bn) ((go_split_ands;refine ext5 ?_ q0 y1 y2 y3 y4;repeat (first | assumption | exact br | refine aD ?_ | refine aA ?_ _ | refine aC ?_ (by assumption))))
     (first
      | (go_at_call_of 170 (ag #[Y I ak,Y I an]);refine(eO ak an rs.length _ hwr.out).mono ?_;rintro e w' ⟨rfl,rfl⟩)
      | (go_at_call_of 170 (ag #[Y I bk,Y I bn]);refine(eO bk bn rs.length _ hwr.out).mono ?_;rintro e w' ⟨rfl,rfl⟩)
      | (go_at_call 15;refine(fT (dR [eK k,bH ak an rs.length,bH bk bn rs.length] _ 3 _ sm HE.out ?_) (tu #[])).mono ?_;(exact aBk _ _ _ _ _ sm);rintro e w' (⟨rfl,rfl⟩ | ⟨hF,rfl,rfl⟩);(refine⟨rfl,.inr ⟨HF.out,by rw[HV.out]⟩,aC hW ?_⟩;go_split_ands;repeat (first | assumption | exact br | refine aD ?_ | refine aA ?_ _ | refine aC ?_ (by assumption)))))
    exact xq
  ·have H':Hid (aH (gs.map (dZ rs.length))=0):=by
    exact zo
   clear hno hz hnx;go_wp2;go_end0;exact⟨.inl ⟨H'.out,rfl⟩,hnx'⟩
theorem pV (w:World) (ht:IsTx w ra ga sa rs gs ss) :
  Calls prog 141 #[ag #[J ra rs.length rc,J ga gs.length gc,J sa ss.length sc]] w fun e w'=>((aH (ss.map (dY rs.length))=0/\e=rt (tu #[]))∨(¬aH (ss.map (dY rs.length))=0/\e=pg [{v:=fc 22 (Y I (aH (ss.map (dY rs.length)))),recovered:=false}]))/\Below w.heap.size w w':=by
 have hwr:Hid ((Lit.int I (rs.length:Int)).wf=true):=WalkArith.wf_i64 (by have:=ht.lr;unfold maxLen at this;omega);obtain⟨_,_,hz,_,_,hl⟩:=ht;unfold maxLen at hl;go_enter func141,ntmps141;go_wp2
 go_loopw [3,4,5,9] (fun _ _ _ i wr=>∃k:Nat,k<=ss.length/\i=Y I k/\Hid (aH (ss.map (dY rs.length))=aH ((ss.map (dY rs.length)).drop k))/\Below (w.heap.size+1) (w.alloc (U #[J ra rs.length rc,J ga gs.length gc,J sa ss.length sc] 95)) wr) (fun _ _ _ i _=>ss.length - (intOf i).toNat)
 case atStart=>exact⟨0,nz,rfl,rfl,br⟩
 case round=>
  obtain⟨k',hk,rfl,hno,hnx⟩:=hrel;have hsz:w.heap.size+1<=wr.heap.size:=by have:=hnx.size;simpa using this
  have hnx':=(aA br _).trans (hnx.mono om);by_cases hlt:k'<ss.length
  ·obtain⟨b,off,rfl,hb,c0,c1,c2,c3,c4,c5⟩:=hz k' hlt
   have up:∀j u,w.cell? _=M u->wr.cell? _=M u:=fun j u h=>
    (hnx.cell (p:=⟨b,j,Q⟩) (lx hb)).trans ((ni _ _ ⟨b,j,Q⟩ hb).trans h)
   have d0:=up _ _ c0;have d1:=up _ _ c1;have d2:=up _ _ c2;have d3:=up _ _ c3;have d4:=up _ _ c4;have d5:=up _ _ c5;have qb:wr.cell? _=J ra rs.length rc:=(hnx.cell (p:=⟨w.heap.size,0,Q⟩) (nk _)).trans sm;have hs:=Hi (hno.out.trans (gG (dY rs.length) ss s0 k' hlt));clear c0 c1 c2 c3 c4 c5 up hz hno;generalize (ss.getD k' s0)=s at *;obtain⟨key,op,ak,an,bk,bn⟩:=s;simp only at d0 d1 d2 d3 d4 d5;by_cases hE:dY rs.length ⟨key,op,ak,an,bk,bn⟩=0
   ·have HN:=Hi (hs.out.trans (if_pos hE));have HE:Hid (aH [dG op,bH ak an rs.length,bH bk bn rs.length]=0):=hE;clear hs hE
    go_wp2_with fail
    refine(qH op 0 0 _).mono ?_;rintro e W ⟨rfl,hbW⟩;have hWr:Below wr.heap.size wr W:=gb;have hW:=aC hnx' hWr;have q0:=aB hWr qb;have y1:W.cell? ⟨wr.heap.size,2,Q⟩=Y I ak:=(hbW.cell sm).trans sm;have y2:W.cell? ⟨wr.heap.size,3,Q⟩=Y I an:=(hbW.cell sm).trans sm;have y3:W.cell? ⟨wr.heap.size,4,Q⟩=Y I bk:=(hbW.cell sm).trans sm;have y4:W.cell? ⟨wr.heap.size,5,Q⟩=Y I bn:=(hbW.cell sm).trans sm;have RB:Hid (Below (w.heap.size+1) (w.alloc _) W):=hnx.trans (hWr.mono hsz);have HWr:=Hi hWr;generalize hG:wr.heap.size=G at *;clear hbW hWr d0 d1 d2 d3 d4 d5 qb hnx
    go_wp2_with fail
    go_region_held3 (fun w'=>Below W.heap.size W w'/\w'.cell? ⟨w.heap.size,0,Q⟩=J ra rs.length rc/\w'.cell? ⟨G,2,Q⟩=Y I ak/\w'.cell? ⟨G,3,Q⟩=Y I an/\w'.cell? ⟨G,4,Q⟩=Y I bk/\w'.cell? ⟨G,5,Q⟩=Y I bn) ((go_split_ands;refine ext5 ?_ q0 y1 y2 y3 y4;repeat (first | assumption | exact br | refine aD ?_ | refine aA ?_ _ | refine aC ?_ (by assumption))))
     (first
      | (go_at_call_of 170 (ag #[Y I ak,Y I an]);refine(eO ak an rs.length _ hwr.out).mono ?_;rintro e w' ⟨rfl,rfl⟩)
      | (go_at_call_of 170 (ag #[Y I bk,Y I bn]);refine(eO bk bn rs.length _ hwr.out).mono ?_;rintro e w' ⟨rfl,rfl⟩)
      | (go_at_call 15;refine(aQ [dG op,bH ak an rs.length,bH bk bn rs.length] _ 3 _ sm HE.out ?_).mono ?_;(exact aBk _ _ _ _ _ sm);rintro e w' ⟨rfl,rfl⟩))
    exact vy
   ·have HV:Hid (aH _=aH [dG op,bH ak an rs.length,bH bk bn rs.length]):=hs.out.trans (if_neg hE);have HE:Hid (¬aH [dG op,bH ak an rs.length,bH bk bn rs.length]=0):=hE;have HF:Hid (¬aH (ss.map (dY rs.length))=0):=by rw[HV.out];exact hE
    clear hs hE
    go_wp2_with fail
    refine(qH op 0 0 _).mono ?_;rintro e W ⟨rfl,hbW⟩;have hWr:Below wr.heap.size wr W:=gb;have hW:=aC hnx' hWr;have q0:=aB hWr qb;have y1:W.cell? ⟨wr.heap.size,2,Q⟩=Y I ak:=(hbW.cell sm).trans sm;have y2:W.cell? ⟨wr.heap.size,3,Q⟩=Y I an:=(hbW.cell sm).trans sm;have y3:W.cell? ⟨wr.heap.size,4,Q⟩=Y I bk:=(hbW.cell sm).trans sm;have y4:W.cell? ⟨wr.heap.size,5,Q⟩=Y I bn:=(hbW.cell sm).trans sm;have RB:Hid (Below (w.heap.size+1) (w.alloc _) W):=hnx.trans (hWr.mono hsz);have HWr:=Hi hWr;generalize hG:wr.heap.size=G at *;clear hbW hWr d0 d1 d2 d3 d4 d5 qb hnx
    go_wp2_with fail
    go_region_held (fun w'=>Below W.heap.size W w'/\w'.cell? ⟨w.heap.size,0,Q⟩=J ra rs.length rc/\w'.cell? ⟨G,2,Q⟩=Y I ak/\w'.cell? ⟨G,3,Q⟩=Y I an/\w'.cell? ⟨G,4,Q⟩=Y I bk/\w'.cell? ⟨G,5,Q⟩=Y I bn) ((go_split_ands;refine ext5 ?_ q0 y1 y2 y3 y4;repeat (first | assumption | exact br | refine aD ?_ | refine aA ?_ _ | refine aC ?_ (by assumption))))
     (first
      | (go_at_call_of 170 (ag #[Y I ak,Y I an]);refine(eO ak an rs.length _ hwr.out).mono ?_;rintro e w' ⟨rfl,rfl⟩)
      | (go_at_call_of 170 (ag #[Y I bk,Y I bn]);refine(eO bk bn rs.length _ hwr.out).mono ?_;rintro e w' ⟨rfl,rfl⟩)
      | (go_at_call 15;refine(fT (dR [dG op,bH ak an rs.length,bH bk bn rs.length] _ 3 _ sm HE.out ?_) (tu #[])).mono ?_;(exact aBk _ _ _ _ _ sm);rintro e w' (⟨rfl,rfl⟩ | ⟨hF,rfl,rfl⟩);(refine⟨rfl,.inr ⟨HF.out,by rw[HV.out]⟩,aC hW ?_⟩;go_split_ands;repeat (first | assumption | exact br | refine aD ?_ | refine aA ?_ _ | refine aC ?_ (by assumption)))))
    exact xq
  ·have H':Hid (aH (ss.map (dY rs.length))=0):=by
    exact zo
   clear hno hz hnx;go_wp2;go_end0;exact⟨.inl ⟨H'.out,rfl⟩,hnx'⟩
end
section
def bP (rs:List Int) (gs:List Gd) (ss:List St):Int:=aH [cW rs.length gs.length ss.length,jS rs ss,aH (gs.map (dZ rs.length)),aH (ss.map (dY rs.length))]
variable (ra ga sa:Option Addr) (rc gc sc:Nat) (rs:List Int) (gs:List Gd) (ss:List St)
theorem oR (w:World) (ht:IsTx w ra ga sa rs gs ss) (h:aH (gs.map (dZ rs.length))=0) :
  Kr 140 #[ag #[J ra rs.length rc,J ga gs.length gc,J sa ss.length sc]] w (tu #[]):=
 (nU ra ga sa rc gc sc rs gs ss w ht).mono fun _ _ ⟨hc,hb⟩=>⟨hc.elim (fun x=>x.2) (fun x=>absurd h x.1),hb⟩
theorem vH (w:World) (ht:IsTx w ra ga sa rs gs ss) (h:¬aH (gs.map (dZ rs.length))=0) :
  Kp 140 #[ag #[J ra rs.length rc,J ga gs.length gc,J sa ss.length sc]] w (aH (gs.map (dZ rs.length))):=
 (nU ra ga sa rc gc sc rs gs ss w ht).mono fun _ _ ⟨hc,hb⟩=>⟨hc.elim (fun x=>absurd x.1 h) (fun x=>x.2),hb⟩
theorem checkSets_ok (w:World) (ht:IsTx w ra ga sa rs gs ss) (h:aH (ss.map (dY rs.length))=0) :
  Kr 141 #[ag #[J ra rs.length rc,J ga gs.length gc,J sa ss.length sc]] w (tu #[]):=
 (pV ra ga sa rc gc sc rs gs ss w ht).mono fun _ _ ⟨hc,hb⟩=>⟨hc.elim (fun x=>x.2) (fun x=>absurd h x.1),hb⟩
theorem zU (w:World) (ht:IsTx w ra ga sa rs gs ss) (h:¬aH (ss.map (dY rs.length))=0) :
  Kp 141 #[ag #[J ra rs.length rc,J ga gs.length gc,J sa ss.length sc]] w (aH (ss.map (dY rs.length))):=
 (pV ra ga sa rc gc sc rs gs ss w ht).mono fun _ _ ⟨hc,hb⟩=>⟨hc.elim (fun x=>absurd x.1 h) (fun x=>x.2),hb⟩
theorem chk1_many (p:Nat) (w:World) (h0:w.cell? ⟨p,0,Q⟩=J ra rs.length rc) (h1:w.cell? ⟨p,1,Q⟩=J ga gs.length gc) (h2:w.cell? ⟨p,2,Q⟩=J sa ss.length sc) (ht:IsTx w ra ga sa rs gs ss) (hm:¬cW rs.length gs.length ss.length=0) :
  Kp 138 #[pd (M ⟨p,0,Q⟩)] w (2):=by
 have HM:=Hi hm;clear hm;go_enter func138,ntmps138
 go_wp2_with fail
 refine(yG ra ga sa rc gc sc rs gs ss _ ht HM.out).mono ?_;rintro e w1 ⟨rfl,hb1⟩;go_wp2;exact⟨rfl,rfl,hb1⟩
theorem chk1_keys (p:Nat) (w:World) (h0:w.cell? ⟨p,0,Q⟩=J ra rs.length rc) (h1:w.cell? ⟨p,1,Q⟩=J ga gs.length gc) (h2:w.cell? ⟨p,2,Q⟩=J sa ss.length sc) (ht:IsTx w ra ga sa rs gs ss) (hm:cW rs.length gs.length ss.length=0) (hk:¬jS rs ss=0) :
  Kp 138 #[pd (M ⟨p,0,Q⟩)] w (jS rs ss):=by
 have HM:=Hi hm;have HK:=Hi hk;clear hm hk;go_enter func138,ntmps138
 go_wp2_with fail
 refine(zW ra ga sa rc gc sc rs gs ss _ ht HM.out HK.out).mono ?_;rintro e w1 ⟨rfl,hb1⟩;go_wp2;exact⟨rfl,rfl,hb1⟩
theorem chk1_guards (p:Nat) (w:World) (h0:w.cell? ⟨p,0,Q⟩=J ra rs.length rc) (h1:w.cell? ⟨p,1,Q⟩=J ga gs.length gc) (h2:w.cell? ⟨p,2,Q⟩=J sa ss.length sc) (ht:IsTx w ra ga sa rs gs ss) (hm:cW rs.length gs.length ss.length=0) (hk:jS rs ss=0) (hg:¬aH (gs.map (dZ rs.length))=0) :
  Kp 138 #[pd (M ⟨p,0,Q⟩)] w (aH (gs.map (dZ rs.length))):=by
 have HM:=Hi hm;have HK:=Hi hk;have HG:=Hi hg;clear hm hk hg;go_enter func138,ntmps138
 go_wp2_with fail
 refine(nK ra ga sa rc gc sc rs gs ss _ ht HM.out HK.out).mono ?_;rintro e w1 ⟨rfl,hb1⟩;have B1:=hb1;have k00:=aB B1 h0;have k01:=aB B1 h1;have k02:=aB B1 h2
 go_wp2_with fail
 refine(vH ra ga sa rc gc sc rs gs ss _ (ht.below B1) HG.out).mono ?_;rintro e w2 ⟨rfl,hb2⟩;go_wp2;exact⟨rfl,rfl,aC B1 hb2⟩
theorem chk1_sets (p:Nat) (w:World) (h0:w.cell? ⟨p,0,Q⟩=J ra rs.length rc) (h1:w.cell? ⟨p,1,Q⟩=J ga gs.length gc) (h2:w.cell? ⟨p,2,Q⟩=J sa ss.length sc) (ht:IsTx w ra ga sa rs gs ss) (hm:cW rs.length gs.length ss.length=0) (hk:jS rs ss=0) (hg:aH (gs.map (dZ rs.length))=0) (hs:¬aH (ss.map (dY rs.length))=0) :
  Kp 138 #[pd (M ⟨p,0,Q⟩)] w (aH (ss.map (dY rs.length))):=by
 have HM:=Hi hm;have HK:=Hi hk;have HG:=Hi hg;have HS:=Hi hs;clear hm hk hg hs;go_enter func138,ntmps138
 go_wp2_with fail
 refine(nK ra ga sa rc gc sc rs gs ss _ ht HM.out HK.out).mono ?_;rintro e w1 ⟨rfl,hb1⟩;have B1:=hb1;have k00:=aB B1 h0;have k01:=aB B1 h1;have k02:=aB B1 h2
 go_wp2_with fail
 refine(oR ra ga sa rc gc sc rs gs ss _ (ht.below B1) HG.out).mono ?_;rintro e w2 ⟨rfl,hb2⟩;have B2:=aC B1 hb2;have k10:=aB B2 h0;have k11:=aB B2 h1;have k12:=aB B2 h2
 go_wp2_with fail
 refine(zU ra ga sa rc gc sc rs gs ss _ (ht.below B2) HS.out).mono ?_;rintro e w3 ⟨rfl,hb3⟩;go_wp2;exact⟨rfl,rfl,aC B2 hb3⟩
theorem chk1_ok (p:Nat) (w:World) (h0:w.cell? ⟨p,0,Q⟩=J ra rs.length rc) (h1:w.cell? ⟨p,1,Q⟩=J ga gs.length gc) (h2:w.cell? ⟨p,2,Q⟩=J sa ss.length sc) (ht:IsTx w ra ga sa rs gs ss) (hm:cW rs.length gs.length ss.length=0) (hk:jS rs ss=0) (hg:aH (gs.map (dZ rs.length))=0) (hs:aH (ss.map (dY rs.length))=0) :
  Kr 138 #[pd (M ⟨p,0,Q⟩)] w (bo true):=by
 have HM:=Hi hm;have HK:=Hi hk;have HG:=Hi hg;have HS:=Hi hs;clear hm hk hg hs;go_enter func138,ntmps138
 go_wp2_with fail
 refine(nK ra ga sa rc gc sc rs gs ss _ ht HM.out HK.out).mono ?_;rintro e w1 ⟨rfl,hb1⟩;have B1:=hb1;have k00:=aB B1 h0;have k01:=aB B1 h1;have k02:=aB B1 h2
 go_wp2_with fail
 refine(oR ra ga sa rc gc sc rs gs ss _ (ht.below B1) HG.out).mono ?_;rintro e w2 ⟨rfl,hb2⟩;have B2:=aC B1 hb2;have k10:=aB B2 h0;have k11:=aB B2 h1;have k12:=aB B2 h2
 go_wp2_with fail
 refine(checkSets_ok ra ga sa rc gc sc rs gs ss _ (ht.below B2) HS.out).mono ?_;rintro e w3 ⟨rfl,hb3⟩;have B3:=aC B2 hb3;go_wp2;go_ret;exact⟨rfl,B3⟩
theorem oQ (b:Bool) (x:Int) (w:World)
  (h:Calls prog 137 #[.func (.func 138) #[] #[pd (M ⟨w.heap.size,0,Q⟩)]] (w.alloc (U #[J ra rs.length rc,J ga gs.length gc,J sa ss.length sc] 95)) fun e' w'=>e'=rt (tu #[bo b,Y I x])/\Below (w.alloc (U #[J ra rs.length rc,J ga gs.length gc,J sa ss.length sc] 95)).heap.size (w.alloc (U #[J ra rs.length rc,J ga gs.length gc,J sa ss.length sc] 95)) w') :
  Calls prog 102 #[ag #[J ra rs.length rc,J ga gs.length gc,J sa ss.length sc]] w fun e' w'=>e'=rt (Y I x)/\Below w.heap.size w w':=by
 have H:=Hi h;clear h;go_enter func102,ntmps102
 go_wp2_with fail
 refine H.out.mono ?_;clear H;rintro e w1 ⟨rfl,hb⟩;have Hb:=aC (aA (n7 w.heap.size w) _) hb;clear hb;go_wp2;go_ret;exact⟨rfl,Hb⟩
theorem sC (h:¬cW rs.length gs.length ss.length=0):bP rs gs ss=2:=by
 unfold bP;rw[aH,if_neg h];exact many_two _ _ _ h
theorem chk_keys (hm:cW rs.length gs.length ss.length=0) (h:¬jS rs ss=0):bP rs gs ss=jS rs ss:=by
 unfold bP;rw[aH,if_pos hm,aH,if_neg h]
theorem chk_guards (hm:cW rs.length gs.length ss.length=0) (hk:jS rs ss=0) (h:¬aH (gs.map (dZ rs.length))=0):bP rs gs ss=aH (gs.map (dZ rs.length)):=by
 unfold bP;rw[aH,if_pos hm,aH,if_pos hk,aH,if_neg h]
theorem chk_sets (hm:cW rs.length gs.length ss.length=0) (hk:jS rs ss=0) (hg:aH (gs.map (dZ rs.length))=0) (h:¬aH (ss.map (dY rs.length))=0):bP rs gs ss=aH (ss.map (dY rs.length)):=by
 unfold bP;rw[aH,if_pos hm,aH,if_pos hk,aH,if_pos hg,aH,if_neg h]
theorem chk_ok (hm:cW rs.length gs.length ss.length=0) (hk:jS rs ss=0) (hg:aH (gs.map (dZ rs.length))=0) (h:aH (ss.map (dY rs.length))=0):bP rs gs ss=0:=by
 unfold bP;rw[aH,if_pos hm,aH,if_pos hk,aH,if_pos hg,aH,if_pos h];rfl
theorem box_cells (w:World) (o:Obj):letI Z:=(w.alloc (U #[J ra rs.length rc,J ga gs.length gc,J sa ss.length sc] 95)).alloc o;Z.cell? ⟨w.heap.size,0,Q⟩=J ra rs.length rc/\Z.cell? ⟨w.heap.size,1,Q⟩=J ga gs.length gc/\Z.cell? ⟨w.heap.size,2,Q⟩=J sa ss.length sc:=by
 refine⟨?_,?_,?_⟩ <;> (rw[ni _ _ _ sm];simp)
theorem fA (w:World) (ht:IsTx w ra ga sa rs gs ss) :
  Calls prog 102 #[ag #[J ra rs.length rc,J ga gs.length gc,J sa ss.length sc]] w fun e' w'=>e'=rt (Y I (bP rs gs ss))/\Below w.heap.size w w':=by
 obtain⟨h0,h1,h2⟩:=box_cells ra ga sa rc gc sc rs gs ss w (U #[Y I 0] 22);have ht':IsTx ((w.alloc (U #[J ra rs.length rc,J ga gs.length gc,J sa ss.length sc] 95)).alloc (U #[Y I 0] 22)) ra ga sa rs gs ss:=ht.below (aA (aA br _) _);by_cases hm:cW rs.length gs.length ss.length=0
 ·by_cases hk:jS rs ss=0
  ·by_cases hg:aH (gs.map (dZ rs.length))=0
   ·by_cases hs:aH (ss.map (dY rs.length))=0
    ·rw[chk_ok rs gs ss hm hk hg hs];exact oQ ra ga sa rc gc sc rs gs ss true 0 w (caught_c_ret _ _ _ ((chk1_ok ra ga sa rc gc sc rs gs ss _ _ h0 h1 h2 ht' hm hk hg hs).mono (fun _ _ h=>⟨h.1,by simpa using h.2⟩)))
    ·rw[chk_sets rs gs ss hm hk hg hs];exact oQ ra ga sa rc gc sc rs gs ss false _ w (kH _ _ _ ((chk1_sets ra ga sa rc gc sc rs gs ss _ _ h0 h1 h2 ht' hm hk hg hs).mono (fun _ _ h=>⟨h.1,by simpa using h.2⟩)))
   ·rw[chk_guards rs gs ss hm hk hg];exact oQ ra ga sa rc gc sc rs gs ss false _ w (kH _ _ _ ((chk1_guards ra ga sa rc gc sc rs gs ss _ _ h0 h1 h2 ht' hm hk hg).mono (fun _ _ h=>⟨h.1,by simpa using h.2⟩)))
  ·rw[chk_keys rs gs ss hm hk];exact oQ ra ga sa rc gc sc rs gs ss false _ w (kH _ _ _ ((chk1_keys ra ga sa rc gc sc rs gs ss _ _ h0 h1 h2 ht' hm hk).mono (fun _ _ h=>⟨h.1,by simpa using h.2⟩)))
 ·rw[sC rs gs ss hm];exact oQ ra ga sa rc gc sc rs gs ss false _ w (kH _ _ _ ((chk1_many ra ga sa rc gc sc rs gs ss _ _ h0 h1 h2 ht' hm).mono (fun _ _ h=>⟨h.1,by simpa using h.2⟩)))
end
theorem vr (h:p:=by
 go_wp2_with fail
 refine(aQ [0] _ 1 _ sm rfl (dS _ _ _ rfl)).mono ?_;rintro e w' ⟨rfl,rfl⟩;exact uj):p:=h
theorem VK (h:p:=by
 have:=aW _ h;exact⟨by simpa using this 0,by simpa using this 1,by simpa using this 2⟩):p:=h
section
theorem pH (v e:Int) (he:e=0) (w:World):Calls prog 155 #[Y I v,Y I e] w fun e' w'=>e'=rt (Y I v)/\w'=w.alloc (U #[Y I 0] 22):=by
 subst he;go_enter func155,ntmps155;exact vr
theorem xT (v:Bool) (e:Int) (he:e=0) (w:World):Calls prog 177 #[bo v,Y I e] w fun e' w'=>e'=rt (bo v)/\w'=w.alloc (U #[Y I 0] 22):=by
 subst he;go_enter func177,ntmps177;exact vr
theorem iA (k n:Int) (zs:List Int) (za:Option Addr) (zc:Nat) (w:World) (hl:zs.length<=maxLen) (hz:IsInts w za zs) (h0:bH k n zs.length=0) :
  Calls prog 275 #[ag #[Y I k,Y I n],J za zs.length zc] w fun e' w'=>e'=rt (Y I (dN k n zs))/\Below w.heap.size w w':=by
 have HZ:=Hi hz;have H0:=Hi h0;clear hz h0;go_enter func275,ntmps275
 go_wp2_with fail
 refine(value_any k n zs za zc _ hl (HZ.out.below (aA br _))).mono ?_;rintro e w' ⟨rfl,rfl⟩
 go_wp2_with fail
 refine(pH _ _ H0.out _).mono ?_;rintro e w' ⟨rfl,rfl⟩;go_wp2;go_ret;refine⟨rfl,?_⟩;exact ut
def gR (zs:List Int) (g:Gd):Bool:=iN g.k (dN g.ak g.an zs) (dN g.bk g.bn zs)
def dU (zs:List Int):List Gd->Bool
 | []=>true
 | g::t=>if gR zs g then dU zs t else false
theorem allG_step (zs:List Int) (l:List Gd) (k:Nat) (h:k<l.length):dU zs (l.drop k)=if gR zs (l.getD k g0) then dU zs (l.drop (k+1)) else false:=by
 rw[iR l k g0 h];rfl
theorem tO {k ak an bk bn:Int} (h:dZ n ⟨k,ak,an,bk,bn⟩=0):eK k=0/\bH ak an n=0/\bH bk bn n=0:=by
 exact VK
theorem tF {key k ak an bk bn:Int} (h:dY n ⟨key,k,ak,an,bk,bn⟩=0):dG k=0/\bH ak an n=0/\bH bk bn n=0:=by
 exact VK
theorem jQ {α:Type} (f:α->Int) (l:List α) (d:α) (h:aH (l.map f)=0) (k:Nat) (hk:k<l.length):f (l.getD k d)=0:=by
 have:=aW _ h k;rw[<-this];simp[List.getD,hk]
variable (ra ga sa:Option Addr) (rc gc sc:Nat) (rs:List Int) (gs:List Gd) (ss:List St) (za:Option Addr) (zc:Nat) (zs:List Int)
theorem pQ (w:World) (ht:IsTx w ra ga sa rs gs ss) (hz:IsInts w za zs) (hzl0:zs.length<=maxLen) (hlen:zs.length=rs.length) (hg0:aH (gs.map (dZ rs.length))=0) :
  Kr 258 #[ag #[J ra rs.length rc,J ga gs.length gc,J sa ss.length sc],J za zs.length zc] w (bo (dU zs gs)):=by
 have hzl:=Hi hzl0;have HZ:=Hi hz;have HG:=Hi hg0;have HL:=Hi hlen;obtain⟨_,hgs,_,_,hl,_⟩:=ht;unfold maxLen at hl;clear hzl0 hz hg0 hlen;go_enter func258,ntmps258;go_wp2
 go_loopw [6,10] (fun _ i wr=>∃k:Nat,k<=gs.length/\i=Y I k/\Hid (dU zs gs=dU zs (gs.drop k))/\Below (w.heap.size+1) (w.alloc (U #[J ra rs.length rc,J ga gs.length gc,J sa ss.length sc] 95)) wr) (fun _ i _=>gs.length - (intOf i).toNat)
 case atStart=>exact⟨0,nz,rfl,rfl,br⟩
 case round=>
  obtain⟨k',hk,rfl,hno,hnx⟩:=hrel;have hsz:w.heap.size+1<=wr.heap.size:=by have:=hnx.size;simpa using this
  have hnx':=(aA br _).trans (hnx.mono om);by_cases hlt:k'<gs.length
  ·obtain⟨b,off,rfl,hb,c0,c1,c2,c3,c4⟩:=hgs k' hlt
   have up:∀j u,w.cell? _=M u->wr.cell? _=M u:=fun j u h=>
    (hnx.cell (p:=⟨b,j,Q⟩) (lx hb)).trans ((ni _ _ ⟨b,j,Q⟩ hb).trans h)
   have d0:=up _ _ c0;have d1:=up _ _ c1;have d2:=up _ _ c2;have d3:=up _ _ c3;have d4:=up _ _ c4;have hs:=Hi (hno.out.trans (allG_step zs gs k' hlt));have hE:=jQ _ gs g0 HG.out k' hlt;clear c0 c1 c2 c3 c4 up hgs hno;generalize (gs.getD k' g0)=s at *;obtain⟨k,ak,an,bk,bn⟩:=s;simp only at d0 d1 d2 d3 d4;obtain⟨xA,xB,xC⟩:=tO hE;rw[<-HL.out]at xB xC;have hA:=Hi xA;have hB:=Hi xB;have hC:=Hi xC;clear hE xA xB xC;by_cases hH:gR zs ⟨k,ak,an,bk,bn⟩=true
   ·have HN:=Hi (hs.out.trans (if_pos hH));have HV:Hid (iN k (dN ak an zs) (dN bk bn zs)=true):=hH;clear hs hH
    go_wp2_with fail
    have hWr:Below wr.heap.size wr (wr.alloc (U #[Y I k,Y I ak,Y I an,Y I bk,Y I bn] 99)):=aA br _;have hW:=Hi (aC hnx' hWr);have hIW:=Hi (HZ.out.below hW.out);have y0:(wr.alloc (U #[Y I k,Y I ak,Y I an,Y I bk,Y I bn] 99)).cell? ⟨wr.heap.size,0,Q⟩=Y I k:=sm;have y1:(wr.alloc (U #[Y I k,Y I ak,Y I an,Y I bk,Y I bn] 99)).cell? ⟨wr.heap.size,1,Q⟩=Y I ak:=sm;have y2:(wr.alloc (U #[Y I k,Y I ak,Y I an,Y I bk,Y I bn] 99)).cell? ⟨wr.heap.size,2,Q⟩=Y I an:=sm;have y3:(wr.alloc (U #[Y I k,Y I ak,Y I an,Y I bk,Y I bn] 99)).cell? ⟨wr.heap.size,3,Q⟩=Y I bk:=sm;have y4:(wr.alloc (U #[Y I k,Y I ak,Y I an,Y I bk,Y I bn] 99)).cell? ⟨wr.heap.size,4,Q⟩=Y I bn:=sm;have RB:Hid (Below (w.heap.size+1) (w.alloc _) (wr.alloc (U #[Y I k,Y I ak,Y I an,Y I bk,Y I bn] 99))):=hnx.trans (hWr.mono hsz);have HWr:=Hi hWr;generalize wr.alloc (U #[Y I k,Y I ak,Y I an,Y I bk,Y I bn] 99)=W at *;generalize hG:wr.heap.size=G at *;clear hWr d0 d1 d2 d3 d4 hnx
    go_region_held3 (fun w'=>Below W.heap.size W w'/\w'.cell? ⟨G,0,Q⟩=Y I k/\w'.cell? ⟨G,1,Q⟩=Y I ak/\w'.cell? ⟨G,2,Q⟩=Y I an/\w'.cell? ⟨G,3,Q⟩=Y I bk/\w'.cell? ⟨G,4,Q⟩=Y I bn) ((go_split_ands;refine ext5 ?_ y0 y1 y2 y3 y4;repeat (first | assumption | exact br | refine aD ?_ | refine aA ?_ _ | refine aC ?_ (by assumption))))
     (first
      | (go_at_call_of 275 (ag #[Y I ak,Y I an]);refine(iA ak an zs za zc _ hzl.out ?_ hB.out).mono ?_;(refine hIW.out.below ?_;go_split_ands;repeat (first | assumption | exact br | refine aD ?_ | refine aA ?_ _ | refine aC ?_ (by assumption)));rintro e w' ⟨rfl,hbx⟩)
      | (go_at_call_of 275 (ag #[Y I bk,Y I bn]);refine(iA bk bn zs za zc _ hzl.out ?_ hC.out).mono ?_;(refine hIW.out.below ?_;go_split_ands;repeat (first | assumption | exact br | refine aD ?_ | refine aA ?_ _ | refine aC ?_ (by assumption)));rintro e w' ⟨rfl,hbx⟩)
      | (go_at_call 169;refine(pG k (dN ak an zs) (dN bk bn zs) _).mono ?_;rintro e w' ⟨rfl,hbx⟩)
      | (go_at_call 177;refine(xT _ _ hA.out _).mono ?_;rintro e w' ⟨rfl,rfl⟩))
    rw[HV.out];exact vy
   ·have HN:=Hi (hs.out.trans (if_neg hH));have hV:iN k (dN ak an zs) (dN bk bn zs)=false:=by simpa[gR]using hH
    have HV:=Hi hV;clear hs hH hV
    go_wp2_with fail
    have hWr:Below wr.heap.size wr (wr.alloc (U #[Y I k,Y I ak,Y I an,Y I bk,Y I bn] 99)):=aA br _;have hW:=Hi (aC hnx' hWr);have hIW:=Hi (HZ.out.below hW.out);have y0:(wr.alloc (U #[Y I k,Y I ak,Y I an,Y I bk,Y I bn] 99)).cell? ⟨wr.heap.size,0,Q⟩=Y I k:=sm;have y1:(wr.alloc (U #[Y I k,Y I ak,Y I an,Y I bk,Y I bn] 99)).cell? ⟨wr.heap.size,1,Q⟩=Y I ak:=sm;have y2:(wr.alloc (U #[Y I k,Y I ak,Y I an,Y I bk,Y I bn] 99)).cell? ⟨wr.heap.size,2,Q⟩=Y I an:=sm;have y3:(wr.alloc (U #[Y I k,Y I ak,Y I an,Y I bk,Y I bn] 99)).cell? ⟨wr.heap.size,3,Q⟩=Y I bk:=sm;have y4:(wr.alloc (U #[Y I k,Y I ak,Y I an,Y I bk,Y I bn] 99)).cell? ⟨wr.heap.size,4,Q⟩=Y I bn:=sm;have RB:Hid (Below (w.heap.size+1) (w.alloc _) (wr.alloc (U #[Y I k,Y I ak,Y I an,Y I bk,Y I bn] 99))):=hnx.trans (hWr.mono hsz);have HWr:=Hi hWr;generalize wr.alloc (U #[Y I k,Y I ak,Y I an,Y I bk,Y I bn] 99)=W at *;generalize hG:wr.heap.size=G at *;clear hWr d0 d1 d2 d3 d4 hnx
    go_region_held3 (fun w'=>Below W.heap.size W w'/\w'.cell? ⟨G,0,Q⟩=Y I k/\w'.cell? ⟨G,1,Q⟩=Y I ak/\w'.cell? ⟨G,2,Q⟩=Y I an/\w'.cell? ⟨G,3,Q⟩=Y I bk/\w'.cell? ⟨G,4,Q⟩=Y I bn) ((go_split_ands;refine ext5 ?_ y0 y1 y2 y3 y4;repeat (first | assumption | exact br | refine aD ?_ | refine aA ?_ _ | refine aC ?_ (by assumption))))
     (first
      | (go_at_call_of 275 (ag #[Y I ak,Y I an]);refine(iA ak an zs za zc _ hzl.out ?_ hB.out).mono ?_;(refine hIW.out.below ?_;go_split_ands;repeat (first | assumption | exact br | refine aD ?_ | refine aA ?_ _ | refine aC ?_ (by assumption)));rintro e w' ⟨rfl,hbx⟩)
      | (go_at_call_of 275 (ag #[Y I bk,Y I bn]);refine(iA bk bn zs za zc _ hzl.out ?_ hC.out).mono ?_;(refine hIW.out.below ?_;go_split_ands;repeat (first | assumption | exact br | refine aD ?_ | refine aA ?_ _ | refine aC ?_ (by assumption)));rintro e w' ⟨rfl,hbx⟩)
      | (go_at_call 169;refine(pG k (dN ak an zs) (dN bk bn zs) _).mono ?_;rintro e w' ⟨rfl,hbx⟩)
      | (go_at_call 177;refine(xT _ _ hA.out _).mono ?_;rintro e w' ⟨rfl,rfl⟩))
    rw[HV.out];go_wp2;go_ret;refine⟨by rw[HN.out];rfl,aC hW.out ?_⟩;go_split_ands;exact ut
  ·have H':Hid (dU zs gs=true):=by
    exact UI
   clear hno hgs hnx;go_wp2;go_ret;exact⟨by rw[H'.out];rfl,hnx'⟩
end
section
theorem setRow_old {g cap:Nat} {e:TypeId} {cur new:Array Value} {xs:List Value} (hl:xs.length=n*size) (hbg:base<=g) (hg:w.heap[g]?=M (U cur e (0,0))) (hnc:n<=cap) (hcm:cap<=maxLen) (hs:new.size=cap*size) (ht:new.toList.take (n*size)=xs) :
  (w.setRow g new).ownsRow base e size (J (M ⟨g,0,Q⟩) n cap) n xs:=
 ⟨hl,.inr ⟨g,cap,new,rfl,hbg,setRow_heap w g cur _ e _ hg,hnc,hcm,hs,ht⟩⟩
theorem vC (w:World) (base:Nat) (t ty e:TypeId) (i:TypeInfo) (z:Value) (bytes:Nat) (ht:P.underlying t=M (.slice e)) (hi:P.info? e=M i) (hz:i.zero=M z)
  (hby:i.bytes=bytes) (hzs:z.cells.size=i.size) (hsz:0<i.size)
  (v:Value) (n:Nat) (xs:List Value) (hown:w.ownsRow base e i.size v n xs)
  (a:Addr) (m c:Nat) (news:List Value) (hl:news.length=m*i.size) (hnews:∀j u,news[j]?=M u->w.cell? (a.add j)=M u) (h1:∀u∈news,u.oneCell'=true)
  (h63:n+m<=maxLen) (hbytes:(n+m)*bytes<=140737488355328) (hbase:base<=w.heap.size) :
  ∃v' w',(Builtin.append_ #[t,t] ty #[v,J (M a) m c]).run P w=.ok v' w'/\w'.ownsRow base e i.size v' (n+m) (xs++news)/\w.grownBy w' v.ownBlock/\w'.ownsRow base e i.size v n xs:=by
 obtain⟨v',w',hr,h2,h3,_⟩:=run_append_own (P:=P) w base t ty e i z i.size bytes ht hi hz rfl hby hzs hsz v n xs hown a m c news hl hnews h1 h63 hbytes hbase;refine⟨v',w',hr,h2,h3,?_⟩;rcases hown.2 with ⟨rfl,rfl⟩ | ⟨g,cap,cur,rfl,hbg,hg,hnc,hcm,hcs,htake⟩
 ·exact⟨hown.1,.inl ⟨rfl,rfl⟩⟩
 ·by_cases hroom:n+m<=cap
  ·have hfit:n*i.size+news.length<=cur.size:=by rw[hl,hcs,<-Nat.add_mul];exact Nat.mul_le_mul_right _ hroom
   have hr':=run_append_room (P:=P) w t ty e i ht hi g n cap cur hg a m c news hl hnews h1 hroom hfit;rw[hr]at hr';injection hr' with _ hw
   subst hw;refine setRow_old hown.1 hbg hg hnc hcm ?_ ?_
   ·simp only[List.size_toArray,List.length_append,List.length_take,List.length_drop,Array.length_toList];omega
   ·rw[htake,lu,<-hown.1];exact List.take_left
  ·have holds:=hown.cells (g:=g) rfl;have hsmall:n+m<=9223372036854775807:=by simp only[maxLen]at h63;omega
   have hb':(n+m)*i.bytes<=140737488355328:=by rw[hby];exact hbytes
   have hr':=run_append_grow (P:=P) w t ty e i z ht hi hz ⟨g,0,Q⟩ n cap xs hown.1 holds a m c news hl hnews om om (growslice_fits om hb');rw[hr]at hr';injection hr' with _ hw
   subst hw;exact⟨hown.1,.inr ⟨g,cap,cur,rfl,hbg,(Below.heap_alloc w.drew _ g (Array.getElem?_eq_some_iff.1 hg).1).trans hg,hnc,hcm,hcs,htake⟩⟩
theorem dH {o:Oper} {a:Act} {K:Act->World->Prop} {Qq:Exit->Act->World->Prop} {E:Prop} (hgd:o.guard=Q) (s x:Operand) (t:TypeId)
  (ho:o.op=.call {callee:=.builtin .append,args:=#[s,x],argTypes:=#[t,t]})
  (base:Nat) (e:TypeId) (i:TypeInfo) (z:Value) (bytes:Nat) (ht:P.underlying t=M (.slice e)) (hi:P.info? e=M i) (hz:i.zero=M z)
  (hsize:i.size=1) (hby:i.bytes=bytes) (hzs:z.cells.size=1)
  (v:Value) (n:Nat) (xs:List Value) (hs:a.eval s=v) (hown:w.ownsRow base e 1 v n xs)
  (ad:Addr) (m c:Nat) (news:List Value) (hx:a.eval x=J (M ad) m c) (hl:news.length=m*1) (hnews:∀j u,news[j]?=M u->w.cell? (ad.add j)=M u) (h1:∀u∈news,u.oneCell'=true)
  (h63:n+m<=maxLen) (hbytes:(n+m)*bytes<=140737488355328) (hbase:base<=w.heap.size)
  (h:∀v' w',w'.ownsRow base e 1 v' (n+m) (xs++news)->w.grownBy w' v.ownBlock->w'.ownsRow base e 1 v n xs->K (a.put o.dst v') w') :
  if Region.wanted o (yielded ops a.tmps)=true then Oper.wp P o a w K Qq else E:=by
 have hw:Region.wanted o (yielded ops a.tmps)=true:=by simp[Region.wanted,hgd]
 rw[if_pos hw];rw[<-hsize]at hown hl hzs h;obtain⟨v',w',hr,h2,h3,h4⟩:=vC (P:=P) w base t o.type e i z bytes ht hi hz hby hzs om v n xs hown ad m c news hl hnews h1 h63 hbytes hbase;unfold Oper.wp execOp;simp only[ho,resolve,invoke,builtin,Sem.run_bind,Sem.run_pure,Result.andThen_ok,List.map_toArray,List.map_cons,List.map_nil,hs,hx,hr];exact h v' w' h2 h3 h4
theorem bY {e:TypeId} {xs:List Value} (h:w.ownsRow base e size v n xs) (hb:Below w.heap.size w w'):w'.ownsRow base e size v n xs:=by
 refine⟨h.1,?_⟩;rcases h.2 with hn | ⟨g,cap,cur,rfl,hbg,hg,rest⟩
 ·exact .inl hn
 ·exact .inr ⟨g,cap,cur,rfl,hbg,(hb.block g (Array.getElem?_eq_some_iff.1 hg).1).trans hg,rest⟩
section
variable {B G k:Nat} {u:Value} {xs:List Value} {op ak an bk bn:Int} {W:World}
theorem wG (hs:w1.cell? ⟨G,1,Q⟩=Y I op/\w1.cell? ⟨G,2,Q⟩=Y I ak/\w1.cell? ⟨G,3,Q⟩=Y I an/\w1.cell? ⟨G,4,Q⟩=Y I bk/\w1.cell? ⟨G,5,Q⟩=Y I bn/\Hid (Below B W w1)/\Hid (w1.ownsRow B 3 1 u k xs)) (hB:B<=W.heap.size) (hb:Below w1.heap.size w1 w2):w2.cell? ⟨G,1,Q⟩=Y I op/\w2.cell? ⟨G,2,Q⟩=Y I ak/\w2.cell? ⟨G,3,Q⟩=Y I an/\w2.cell? ⟨G,4,Q⟩=Y I bk/\w2.cell? ⟨G,5,Q⟩=Y I bn/\Hid (Below B W w2)/\Hid (w2.ownsRow B 3 1 u k xs):=by
 obtain⟨c1,c2,c3,c4,c5,hx,ho⟩:=hs;exact⟨aB hb c1,aB hb c2,aB hb c3,aB hb c4,aB hb c5,hx.out.trans (hb.mono (nh hB hx.out.size)),bY ho.out hb⟩
theorem sv_grown (hs:w1.cell? ⟨G,1,Q⟩=Y I op/\w1.cell? ⟨G,2,Q⟩=Y I ak/\w1.cell? ⟨G,3,Q⟩=Y I an/\w1.cell? ⟨G,4,Q⟩=Y I bk/\w1.cell? ⟨G,5,Q⟩=Y I bn/\Hid (Below B W w1)/\Hid (w1.ownsRow B 3 1 u k xs)) (hB:B<=W.heap.size) (hg:w1.grownBy w2 u.ownBlock) (ho2:w2.ownsRow B 3 1 u k xs) (hG:∀j,u.ownBlock=M j->B<=j/\j<G):w2.cell? ⟨G,1,Q⟩=Y I op/\w2.cell? ⟨G,2,Q⟩=Y I ak/\w2.cell? ⟨G,3,Q⟩=Y I an/\w2.cell? ⟨G,4,Q⟩=Y I bk/\w2.cell? ⟨G,5,Q⟩=Y I bn/\Hid (Below B W w2)/\Hid (w2.ownsRow B 3 1 u k xs):=by
 obtain⟨c1,c2,c3,c4,c5,hx,ho⟩:=hs
 have far:∀j v,w1.cell? _=M v->w2.cell? _=M v:=fun j v h=>
  (nu (hg.block G (np w1 ⟨G,j,Q⟩ h) (fun e=>by have:=(hG G e.symm).2;omega))).trans h
 exact⟨far _ _ c1,far _ _ c2,far _ _ c3,far _ _ c4,far _ _ c5,hx.out.grown hg (nh hB hx.out.size) (fun j hj=>(hG j hj).1),ho2⟩
end
def sVal (zs:List Int) (s:St):Int:=fK s.op (dN s.ak s.an zs) (dN s.bk s.bn zs)
def eY (zs:List Int) (ss:List St):List Int:=ss.map (sVal zs)
theorem tE (zs:List Int) (ss:List St) (k:Nat) (h:k<ss.length):(eY zs ss).take (k+1)=(eY zs ss).take k++[sVal zs (ss.getD k s0)]:=by
 rw[lp (by simpa[eY]using h)];simp[eY,List.getD,h]
variable (ra ga sa:Option Addr) (rc gc sc:Nat) (rs:List Int) (gs:List Gd) (ss:List St) (za:Option Addr) (zc:Nat) (zs:List Int)
theorem yW (w:World) (ht:IsTx w ra ga sa rs gs ss) (hz:IsInts w za zs) (hzl0:zs.length<=maxLen) (hlen:zs.length=rs.length) (hs0:aH (ss.map (dY rs.length))=0) (h3:ss.length<=3) :
  Calls prog 259 #[ag #[J ra rs.length rc,J ga gs.length gc,J sa ss.length sc],J za zs.length zc] w fun e w'=>∃v,e=rt v/\w'.ownsRow (w.heap.size+1) 3 1 v ss.length ((eY zs ss).map (Y I))/\Below w.heap.size w w':=by
 have hzl:=Hi hzl0;have HZ:=Hi hz;have HG:=Hi hs0;have HL:=Hi hlen;obtain⟨i0,hi,hz0,hz1,hz2⟩:=info_parts info3;have hal:Hid ((eY zs ss).length=ss.length):=by simp[eY,Hid]
 obtain⟨_,_,hgs,_,_,_⟩:=ht;obtain⟨B,hB⟩:=nm (w.heap.size+1);rw[<-hB];clear hzl0 hz hs0 hlen;go_enter func259,ntmps259;go_wp2
 go_loopw [5,7,11] (fun v _ i wr=>∃k:Nat,k<=ss.length/\i=Y I k/\wr.ownsRow B 3 1 v k (((eY zs ss).take k).map (Y I))/\Below B (w.alloc (U #[J ra rs.length rc,J ga gs.length gc,J sa ss.length sc] 95)) wr) (fun _ _ i _=>ss.length - (intOf i).toNat)
 case atStart=>exact⟨0,nz,rfl,n8 _ _ _ _,br⟩
 case round=>
  obtain⟨k,hk,rfl,hown,hnx⟩:=hrel;have hsz:B<=wr.heap.size:=by have:=hnx.size;simp at this;omega
  have hnx':=(aA br _).trans (hnx.mono om);by_cases hlt:k<ss.length
  ·obtain⟨b,off,rfl,hb,c0,c1,c2,c3,c4,c5⟩:=hgs k hlt
   have up:∀j u,w.cell? _=M u->wr.cell? _=M u:=fun j u h=>
    (hnx'.cell (p:=⟨b,j,Q⟩) hb).trans h
   have d0:=up _ _ c0;have d1:=up _ _ c1;have d2:=up _ _ c2;have d3:=up _ _ c3;have d4:=up _ _ c4;have d5:=up _ _ c5;have HT:=Hi (tE zs ss k hlt);have hE:=jQ _ ss s0 HG.out k hlt;clear c0 c1 c2 c3 c4 c5 up hgs;generalize (ss.getD k s0)=s at *;obtain⟨key,op,ak,an,bk,bn⟩:=s;simp only at d0 d1 d2 d3 d4 d5;obtain⟨xA,xB,xC⟩:=tF hE;rw[<-HL.out]at xB xC;have hA:=Hi xA;have hBB:=Hi xB;have hC:=Hi xC;clear hE xA xB xC
   go_wp2_with fail
   generalize hxs:((eY zs ss).take k).map (Y I)=xs at *;have HXS:=Hi hxs;have hWr:Below wr.heap.size wr (wr.alloc (U #[Y I key,Y I op,Y I ak,Y I an,Y I bk,Y I bn] 102)):=aA br _;have hW:=Hi (aC hnx' hWr);have y1:(wr.alloc (U #[Y I key,Y I op,Y I ak,Y I an,Y I bk,Y I bn] 102)).cell? ⟨wr.heap.size,1,Q⟩=Y I op:=sm;have y2:(wr.alloc (U #[Y I key,Y I op,Y I ak,Y I an,Y I bk,Y I bn] 102)).cell? ⟨wr.heap.size,2,Q⟩=Y I ak:=sm;have y3:(wr.alloc (U #[Y I key,Y I op,Y I ak,Y I an,Y I bk,Y I bn] 102)).cell? ⟨wr.heap.size,3,Q⟩=Y I an:=sm;have y4:(wr.alloc (U #[Y I key,Y I op,Y I ak,Y I an,Y I bk,Y I bn] 102)).cell? ⟨wr.heap.size,4,Q⟩=Y I bk:=sm;have y5:(wr.alloc (U #[Y I key,Y I op,Y I ak,Y I an,Y I bk,Y I bn] 102)).cell? ⟨wr.heap.size,5,Q⟩=Y I bn:=sm;have RB:Hid (Below B (w.alloc _) (wr.alloc (U #[Y I key,Y I op,Y I ak,Y I an,Y I bk,Y I bn] 102))):=hnx.trans (hWr.mono hsz);have HO:Hid ((wr.alloc (U #[Y I key,Y I op,Y I ak,Y I an,Y I bk,Y I bn] 102)).ownsRow B 3 1 u5 k xs):=hown.alloc _;have hGo:=Hi (fun j hj=>hown.lt j hj);have hBW:B<=(wr.alloc (U #[Y I key,Y I op,Y I ak,Y I an,Y I bk,Y I bn] 102)).heap.size:=by simp;omega
   generalize wr.alloc (U #[Y I key,Y I op,Y I ak,Y I an,Y I bk,Y I bn] 102)=W at *;generalize wr.heap.size=G at *;have HS0:Hid (W.cell? _=M _/\W.cell? _=M _/\W.cell? _=M _/\W.cell? _=M _/\W.cell? _=M _/\Hid (Below B W W)/\Hid _):=⟨y1,y2,y3,y4,y5,br,HO⟩;clear hWr d0 d1 d2 d3 d4 d5 hnx hown hxs HO y1 y2 y3 y4 y5;have hupW:Hid (∀w',Below B W w'->Below w.heap.size w w'):=fun w' h=>hW.out.trans (h.mono om)
   go_region_held3 (fun w'=>w'.cell? ⟨G,1,Q⟩=Y I op/\w'.cell? ⟨G,2,Q⟩=Y I ak/\w'.cell? ⟨G,3,Q⟩=Y I an/\w'.cell? ⟨G,4,Q⟩=Y I bk/\w'.cell? ⟨G,5,Q⟩=Y I bn/\Hid (Below B W w')/\Hid (w'.ownsRow B 3 1 u5 k xs)) ((first | exact wG HS0.out hBW (aD br) | exact wG (by assumption) hBW (by assumption) | exact wG (by assumption) hBW (aA br _) | exact sv_grown (by assumption) hBW (by assumption) (by assumption) hGo.out))
    (first
     | (go_at_call_of 275 (ag #[Y I ak,Y I an]);refine(iA ak an zs za zc _ hzl.out ?_ hBB.out).mono ?_;(refine HZ.out.below (hupW.out _ ?_);go_split_ands;(refine Hid.out ?_;assumption));rintro e w' ⟨rfl,hbx⟩)
     | (go_at_call_of 275 (ag #[Y I bk,Y I bn]);refine(iA bk bn zs za zc _ hzl.out ?_ hC.out).mono ?_;(refine HZ.out.below (hupW.out _ ?_);go_split_ands;(refine Hid.out ?_;assumption));rintro e w' ⟨rfl,hbx⟩)
     | (go_at_call 171;refine(qH op (dN ak an zs) (dN bk bn zs) _).mono ?_;rintro e w' ⟨rfl,hbx⟩)
     | (go_at_call 155;refine(pH _ _ hA.out _).mono ?_;rintro e w' ⟨rfl,rfl⟩)
     | (refine dH (by rfl) _ _ _ (by rfl) B 3 i0 (Y I 0) 8 underlying41 hi hz0 hz1 hz2 rfl u5 k xs (by rfl) ?_ _ 1 1 [Y I (fK op (dN ak an zs) (dN bk bn zs))] (by rfl) (by rfl) (lP _ _ _ sm) (ints_oneCell I [_]) (by unfold maxLen;omega) om ?_ ?_;(go_split_ands;refine Hid.out ?_;assumption);(go_split_ands;refine nh hBW (Below.size (B:=B) (Hid.out ?_));assumption);intro v' w1 hown' hgrow hkeep))
   have R:w1.ownsRow B 3 1 v' (k+1) (((eY zs ss).take (k+1)).map (Y I)):=by
    rw[HT.out,ny,HXS.out];exact hown'
   go_split_ands
   have RB2:Below B W w1:=by
    refine Hid.out ?_;assumption
   have RB3:=RB.out.trans RB2;clear hown' hgrow hkeep HS0;go_wp2;go_roundw
   case rel=>exact⟨k+1,by omega,by go_num,R,RB3⟩
   case measure=>simp[intOf];omega
  ·have R:wr.ownsRow B 3 1 u5 ss.length ((eY zs ss).map (Y I)):=by
    have hkk:k=ss.length:=om;rw[hkk,le (by rw[hal.out];exact nr)]at hown;exact hown
   clear hown hnx hgs;go_wp2;go_ret;exact⟨_,rfl,R,hnx'⟩
end
theorem ul (h:p:=by
 obtain⟨i0,hi,hz0,hz1,hz2⟩:=info_parts info3
 have hnews:∀(o:Obj) j u,(zs.map (Y I))[j]?=M u->(w.alloc o).cell? (ad.add j)=M u:=by
  intro o j u hj
  have hlt:j<zs.length:=by
   exact xg
  obtain⟨b,off,ha,hb,hc⟩:=hz j hlt;injection ha with ha
  subst ha;rw[bZ,ni _ _ _ hb,hc];simp[hlt]at hj;simp[List.getD,hlt,hj]
 clear hz;go_enter func79,ntmps79
 go_wp2_with (first
  | (at_builtin;refine wpList_append_own _ rfl _ _ 41 rfl w.heap.size 3 i0 (Y I 0) 1 8 underlying41 hi hz0 hz1 hz2 rfl dc _ 0 [] rfl (lv w #[] 0 nr dc rfl) ad zs.length zc (zs.map (Y I)) rfl sm (hnews _) (ints_oneCell I zs) (by unfold maxLen;omega) om sm ?_;intro v' w1 hown' hgrow _)
  | go_in)
 have RB:=(aA br _).grown hgrow sm (fun j hj=>by have hj':M w.heap.size=M j:=hj;injection hj' with hj';exact Nat.le_of_eq hj');simp only[Nat.zero_add,List.nil_append]at hown';clear hgrow hnews;go_wp2;go_ret;exact⟨_,rfl,hown',RB⟩):p:=h
theorem xg (h:p:=by
 have:=(List.getElem?_eq_some_iff.1 hj).1;exact Xd):p:=h
theorem VU (h:p:=by
 cases zs with
 | nil=>rfl
 | cons z t=>
  obtain⟨b,off,ha,_⟩:=hz 0 sm
  cases ha):p:=h
section
def IsAt (lo hi:Nat) (w:World) (a:Option Addr) (zs:List Int):Prop:=
 ∀i,i<zs.length->∃b off,a=M ⟨b,off,Q⟩/\lo<=b/\b<hi/\w.cell? ⟨b,off+i,Q⟩=Y I (zs.getD i 0)
theorem IsAt.ints {zs:List Int} (h:IsAt lo hi w a zs) (hh:hi<=w.heap.size):IsInts w a zs:=fun i hi'=>by
 obtain⟨b,off,ha,_,h2,hc⟩:=h i hi';exact⟨b,off,ha,nd h2 hh,hc⟩
theorem IsAt.below {zs:List Int} (h:IsAt lo hi w a zs) (hb:Below w.heap.size w w'):IsAt lo hi w' a zs:=fun i hi'=>by
 obtain⟨b,off,ha,h1,h2,hc⟩:=h i hi';exact⟨b,off,ha,h1,h2,aB hb hc⟩
theorem IsAt.set {zs:List Int} (h:IsAt lo hi w a zs) (p:Addr) (v:Value) (hp:p.block<lo∨hi<=p.block):IsAt lo hi (w.setCell p v) a zs:=fun i hi'=>by
 obtain⟨b,off,ha,h1,h2,hc⟩:=h i hi';refine⟨b,off,ha,h1,h2,?_⟩;rw[nt _ _ _ _ (by simp;omega)];exact hc
theorem IsAt.widen {lo' hi':Nat} {zs:List Int} (h:IsAt lo hi w a zs) (h1:lo'<=lo) (h2:hi<=hi'):IsAt lo' hi' w a zs:=fun i hi''=>by
 obtain⟨b,off,ha,h3,h4,hc⟩:=h i hi'';exact⟨b,off,ha,by omega,by omega,hc⟩
theorem gC {zs:List Int} (h:w.ownsRow base 3 1 v n (zs.map (Y I))):∃a cap,v=J a zs.length cap/\IsAt base w.heap.size w a zs:=by
 have hn:zs.length=n:=by have:=h.1;simpa using this
 rcases h.2 with ⟨rfl,h0⟩ | ⟨g,cap,cur,rfl,hb,hg,hnc,hcm,hcs,htake⟩
 ·exact xx
 ·refine⟨M ⟨g,0,Q⟩,cap,by rw[hn],fun i hi=>⟨g,0,rfl,hb,(Array.getElem?_eq_some_iff.1 hg).1,?_⟩⟩;exact UE
theorem bZ (b off j:Nat):(⟨b,off,Q⟩:Addr).add j=⟨b,off+j,Q⟩:=by
 unfold Addr.add;by_cases h:j=0
 ·subst h;simp
 ·simp[h]
theorem clone_own (zs:List Int) (ad:Addr) (zc:Nat) (w:World) (h4:zs.length<=4) (hz:IsInts w (M ad) zs) :
  Calls prog 79 #[J (M ad) zs.length zc] w fun e w'=>∃v,e=rt v/\w'.ownsRow w.heap.size 3 1 v zs.length (zs.map (Y I))/\Below w.heap.size w w':=by
 have q24:∀(w:World) (a:Option Addr) (n c n' c':Nat),(binOp .eql 41 _ _).run _ w=.ok _ w:=fun w a n c n' c'=>Lib.run_eql_slice_nil w _ _ a n c n' c' underlying41
 exact ul
theorem clone_nil (w:World):Calls prog 79 #[J Q 0 0] w fun e w'=>e=rt (J Q 0 0)/\w'=w:=by
 have q24:∀(w:World) (a:Option Addr) (n c n' c':Nat),(binOp .eql 41 _ _).run _ w=.ok _ w:=fun w a n c n' c'=>Lib.run_eql_slice_nil w _ _ a n c n' c' underlying41
 go_enter func79,ntmps79;exact uj
theorem aBp (zs:List Int) (za:Option Addr) (zc:Nat) (w:World) (h4:zs.length<=4) (hz:IsInts w za zs) (hn:za=Q->zc=0) :
  Calls prog 79 #[J za zs.length zc] w fun e w'=>∃a cap,e=rt (J a zs.length cap)/\IsAt w.heap.size w'.heap.size w' a zs/\Below w.heap.size w w':=by
 cases za with
 | none=>
  have hzs:zs=[]:=by
   exact VU
  subst hzs;rw[hn rfl];exact(clone_nil w).mono fun e w' ⟨he,hw⟩=>⟨Q,0,he,fun i hi=>absurd hi sm,by rw[hw];exact br⟩
 | some ad=>
  exact(clone_own zs ad zc w h4 hz).mono fun e w' ⟨v,he,ho,hb⟩=>by
   obtain⟨a,cap,rfl,hza⟩:=gC ho;exact⟨a,cap,he,hza,hb⟩
variable (ra ga sa:Option Addr) (rc gc sc:Nat) (rs:List Int) (gs:List Gd) (ss:List St) (za:Option Addr) (zc:Nat) (zs:List Int)
theorem setValues_at (w:World) (ht:IsTx w ra ga sa rs gs ss) (hz:IsInts w za zs) (hzl0:zs.length<=maxLen) (hlen:zs.length=rs.length) (hs0:aH (ss.map (dY rs.length))=0) (h3:ss.length<=3) :
  Calls prog 259 #[ag #[J ra rs.length rc,J ga gs.length gc,J sa ss.length sc],J za zs.length zc] w fun e w'=>∃a cap,e=rt (J a (eY zs ss).length cap)/\IsAt (w.heap.size+1) w'.heap.size w' a (eY zs ss)/\Below w.heap.size w w':=
 (yW ra ga sa rc gc sc rs gs ss za zc zs w ht hz hzl0 hlen hs0 h3).mono fun e w' ⟨v,he,ho,hb⟩=>by
  obtain⟨a,cap,rfl,hz⟩:=gC ho;exact⟨a,cap,he,hz,hb⟩
def aS (zs:List Int) (gs:List Gd) (ss:List St):List Int:=if dU zs gs then eY zs ss else []
theorem outcome_no (w:World) (ht:IsTx w ra ga sa rs gs ss) (hz:IsInts w za zs) (hn:za=Q->zc=0) (h4:zs.length<=4) (hlen:zs.length=rs.length) (hg0:aH (gs.map (dZ rs.length))=0) (hd:dU zs gs=false) :
  Calls prog 220 #[ag #[J ra rs.length rc,J ga gs.length gc,J sa ss.length sc],J za zs.length zc] w fun e w'=>∃va vc,e=rt (ag #[bo false,J va zs.length vc,J Q 0 0])/\IsAt w.heap.size w'.heap.size w' va zs/\Below w.heap.size w w':=by
 have hzl:Hid (zs.length<=maxLen):=by show _<=_;unfold maxLen;omega
 have HT:=Hi ht;have HZ:=Hi hz;have HG:=Hi hg0;have HL:=Hi hlen;have HN:=Hi hn;have HD:=Hi hd;clear ht hz hg0 hlen hn hd;go_enter func220,ntmps220
 go_wp2_with fail
 refine(pQ ra ga sa rc gc sc rs gs ss za zc zs _ (HT.out.below gb) (HZ.out.below gb) hzl.out HL.out HG.out).mono ?_;rintro e w1 ⟨rfl,hb1⟩;rw[HD.out]
 go_wp2_with fail
 have B1:Below w.heap.size w w1:=gb;refine(aBp zs za zc _ h4 (HZ.out.below B1) HN.out).mono ?_;rintro e w2 ⟨va,vc,rfl,hva,hb2⟩;have z0:w1.cell? ⟨w.heap.size+1,0,Q⟩=bo false:=(hb1.cell sm).trans sm;have z1:w1.cell? ⟨w.heap.size+1,1,Q⟩=J Q 0 0:=(hb1.cell sm).trans sm;have z2:w1.cell? ⟨w.heap.size+1,2,Q⟩=J Q 0 0:=(hb1.cell sm).trans sm;have f1:∀j,w1.frozen? _=false:=fun j=>(hb1.frozen (p:=⟨w.heap.size+1,j,Q⟩) sm).trans sm
 have x0:=aB hb2 z0;have x1:=aB hb2 z1;have x2:=aB hb2 z2;have hq:=np w1 _ z0;have g1:=fun j=>(hb2.frozen (p:=⟨w.heap.size+1,j,Q⟩) hq).trans (f1 j)
 have hq2:_+1<_:=nd hq hb2.size;have X0:=fun o=>aB (aA (n7 w2.heap.size w2) o) x0
 have G1:=fun o j=>((aA (n7 w2.heap.size w2) o).frozen (p:=⟨w.heap.size+1,j,Q⟩) hq2).trans (g1 j)
 have B2:=aC B1 hb2;have HB1:=Hi B1.size;clear z0 z1 z2 f1 HT HZ HG HL HN HD;go_wp2;have r0:((((w2.setCell ⟨w.heap.size+1,0,Q⟩ (bo false)).setCell ⟨w.heap.size+1,1,Q⟩ (J va zs.length vc)).setCell ⟨w.heap.size+1,2,Q⟩ (J Q 0 0)).alloc (U #[bo false,J va zs.length vc,J Q 0 0] 243)).cell? ⟨w.heap.size+1,0,Q⟩=bo false:=by rw[ni _ _ _ (by simp;omega)];simp[go_sem,x0]
 have r1:((((w2.setCell ⟨w.heap.size+1,0,Q⟩ (bo false)).setCell ⟨w.heap.size+1,1,Q⟩ (J va zs.length vc)).setCell ⟨w.heap.size+1,2,Q⟩ (J Q 0 0)).alloc (U #[bo false,J va zs.length vc,J Q 0 0] 243)).cell? ⟨w.heap.size+1,1,Q⟩=J va zs.length vc:=by rw[ni _ _ _ (by simp;omega)];simp[go_sem,x1]
 have r2:((((w2.setCell ⟨w.heap.size+1,0,Q⟩ (bo false)).setCell ⟨w.heap.size+1,1,Q⟩ (J va zs.length vc)).setCell ⟨w.heap.size+1,2,Q⟩ (J Q 0 0)).alloc (U #[bo false,J va zs.length vc,J Q 0 0] 243)).cell? ⟨w.heap.size+1,2,Q⟩=J Q 0 0:=by rw[ni _ _ _ (by simp;omega)];simp[go_sem,x2]
 refine bodyPost_ret (v:=ag #[bo false,J va zs.length vc,J Q 0 0]) (by simp[results,results220,go_sem,r0,r1,r2]) rfl ⟨va,vc,rfl,?_,?_⟩
 ·have h1:=((hva.set ⟨w.heap.size+1,0,Q⟩ (bo false) (.inl hq)).set ⟨w.heap.size+1,1,Q⟩ (J va zs.length vc) (.inl hq)).set ⟨w.heap.size+1,2,Q⟩ (J Q 0 0) (.inl hq);exact(h1.below (aA br _)).widen HB1.out sm
 ·exact aA (aG (aG (aG B2 sm _) sm _) sm _) _
theorem outcome_yes (w:World) (ht:IsTx w ra ga sa rs gs ss) (hz:IsInts w za zs) (hn:za=Q->zc=0) (h4:zs.length<=4) (hlen:zs.length=rs.length) (hg0:aH (gs.map (dZ rs.length))=0) (hs0:aH (ss.map (dY rs.length))=0) (h3:ss.length<=3) (hd:dU zs gs=true) :
  Calls prog 220 #[ag #[J ra rs.length rc,J ga gs.length gc,J sa ss.length sc],J za zs.length zc] w fun e w'=>∃va vc ma mc,e=rt (ag #[bo true,J va zs.length vc,J ma (eY zs ss).length mc])/\IsAt w.heap.size w'.heap.size w' va zs/\IsAt w.heap.size w'.heap.size w' ma (eY zs ss)/\Below w.heap.size w w':=by
 have hzl:Hid (zs.length<=maxLen):=by show _<=_;unfold maxLen;omega
 have HT:=Hi ht;have HZ:=Hi hz;have HG:=Hi hg0;have HS:=Hi hs0;have HL:=Hi hlen;have HN:=Hi hn;have HD:=Hi hd;clear ht hz hg0 hlen hn hd hs0;go_enter func220,ntmps220
 go_wp2_with fail
 refine(pQ ra ga sa rc gc sc rs gs ss za zc zs _ (HT.out.below gb) (HZ.out.below gb) hzl.out HL.out HG.out).mono ?_;rintro e w1 ⟨rfl,hb1⟩;rw[HD.out]
 go_wp2_with fail
 have B1:Below w.heap.size w w1:=gb;refine(aBp zs za zc _ h4 (HZ.out.below B1) HN.out).mono ?_;rintro e w2 ⟨va,vc,rfl,hva,hb2⟩;have bx0:w1.cell? ⟨w.heap.size,0,Q⟩=J ra rs.length rc:=(hb1.cell (by simp;omega)).trans ((ni _ _ _ sm).trans sm);have bx1:w1.cell? ⟨w.heap.size,1,Q⟩=J ga gs.length gc:=(hb1.cell (by simp;omega)).trans ((ni _ _ _ sm).trans sm);have bx2:w1.cell? ⟨w.heap.size,2,Q⟩=J sa ss.length sc:=(hb1.cell (by simp;omega)).trans ((ni _ _ _ sm).trans sm);have z0:w1.cell? ⟨w.heap.size+1,0,Q⟩=bo false:=(hb1.cell sm).trans sm;have z1:w1.cell? ⟨w.heap.size+1,1,Q⟩=J Q 0 0:=(hb1.cell sm).trans sm;have z2:w1.cell? ⟨w.heap.size+1,2,Q⟩=J Q 0 0:=(hb1.cell sm).trans sm;have f1:∀j,w1.frozen? _=false:=fun j=>(hb1.frozen (p:=⟨w.heap.size+1,j,Q⟩) sm).trans sm
 have hq:=np w1 _ z0;have hq2:_+1<_:=nd hq hb2.size;have c0:=fun o=>aB (aA hb2 o) bx0
 have c1:=fun o=>aB (aA hb2 o) bx1
 have c2:=fun o=>aB (aA hb2 o) bx2
 have B2:=aC B1 hb2;clear bx0 bx1 bx2
 go_wp2_with fail
 refine(setValues_at ra ga sa rc gc sc rs gs ss za zc zs _ (HT.out.below (aA B2 _)) (HZ.out.below (aA B2 _)) hzl.out HL.out HS.out h3).mono ?_;rintro e w3 ⟨ma,mc,rfl,hma,hb3⟩;have hb13:=aC (aA hb2 _) hb3;have x0:=aB hb13 z0;have x1:=aB hb13 z1;have x2:=aB hb13 z2;have g1:=fun j=>(hb13.frozen (p:=⟨w.heap.size+1,j,Q⟩) hq).trans (f1 j)
 have o0:w3.cell? ⟨w2.heap.size,0,Q⟩=bo true:=(hb3.cell sm).trans sm;have o1:w3.cell? ⟨w2.heap.size,1,Q⟩=J va zs.length vc:=(hb3.cell sm).trans sm;have o2:w3.cell? ⟨w2.heap.size,2,Q⟩=J Q 0 0:=(hb3.cell sm).trans sm;have og:∀j,w3.frozen? _=false:=fun j=>(hb3.frozen (p:=⟨w2.heap.size,j,Q⟩) sm).trans sm
 have B3:=aC (aA B2 _) hb3;have HB1:=Hi B1.size;have hs3:w2.heap.size+1<=w3.heap.size:=by have:=hb3.size;simpa using this
 have hva3:=(hva.below (aA br _)).below hb3;have hma3:IsAt (w2.heap.size+1) w3.heap.size w3 ma (eY zs ss):=hma.widen sm nr;clear z0 z1 z2 f1 HT HZ HG HL HN HD HS c0 c1 c2 hb1 hb2 hb3 hb13 hva hma B1 B2;generalize w2.heap.size=q2 at *;go_wp2;refine bodyPost_ret (v:=ag #[bo true,J va zs.length vc,J ma (eY zs ss).length mc]) (by simp[results,results220,go_sem,x0,x1,x2]) rfl ⟨va,vc,ma,mc,rfl,?_,?_,?_⟩
 ·have h1:=(((hva3.set ⟨q2,2,Q⟩ (J ma (eY zs ss).length mc) (.inr nr)).set ⟨w.heap.size+1,0,Q⟩ (bo true) (.inl hq)).set ⟨w.heap.size+1,1,Q⟩ (J va zs.length vc) (.inl hq)).set ⟨w.heap.size+1,2,Q⟩ (J ma (eY zs ss).length mc) (.inl hq);exact h1.widen HB1.out (by simp;omega)
 ·have h1:=(((hma3.set ⟨q2,2,Q⟩ (J ma (eY zs ss).length mc) (.inl (nk _))).set ⟨w.heap.size+1,0,Q⟩ (bo true) (.inl (lx hq2))).set ⟨w.heap.size+1,1,Q⟩ (J va zs.length vc) (.inl (lx hq2))).set ⟨w.heap.size+1,2,Q⟩ (J ma (eY zs ss).length mc) (.inl (lx hq2));exact h1.widen om sm
 ·exact aG (aG (aG (aG B3 (by simp;omega) _) sm _) sm _) sm _
theorem outcome_ok (w:World) (ht:IsTx w ra ga sa rs gs ss) (hz:IsInts w za zs) (hn:za=Q->zc=0) (h4:zs.length<=4) (hlen:zs.length=rs.length) (hg0:aH (gs.map (dZ rs.length))=0) (hs0:aH (ss.map (dY rs.length))=0) (h3:ss.length<=3) :
  Calls prog 220 #[ag #[J ra rs.length rc,J ga gs.length gc,J sa ss.length sc],J za zs.length zc] w fun e w'=>∃va vc ma mc,e=rt (ag #[bo (dU zs gs),J va zs.length vc,J ma (aS zs gs ss).length mc])/\IsAt w.heap.size w'.heap.size w' va zs/\IsAt w.heap.size w'.heap.size w' ma (aS zs gs ss)/\Below w.heap.size w w':=by
 by_cases hd:dU zs gs=true
 ·have hm:aS zs gs ss=eY zs ss:=by unfold aS;rw[if_pos hd]
  rw[hm,hd];exact outcome_yes ra ga sa rc gc sc rs gs ss za zc zs w ht hz hn h4 hlen hg0 hs0 h3 hd
 ·have hm:aS zs gs ss=[]:=by unfold aS;rw[if_neg hd]
  have hd':dU zs gs=false:=by simpa using hd
  rw[hm,hd'];exact(outcome_no ra ga sa rc gc sc rs gs ss za zc zs w ht hz hn h4 hlen hg0 hd').mono fun _ _ ⟨va,vc,he,h1,h2⟩=>⟨va,vc,Q,0,he,h1,fun i hi=>absurd hi sm,h2⟩
end
theorem xo (h:p:=by
 rw[ni _ _ _ (by simp;omega),ni _ _ _ (by simp;omega),ni _ _ _ (by simp;omega),ni _ _ _ sm];simp):p:=h
theorem VI (h:p:=by
 clear h;go_enter func219,ntmps219;go_wp2;go_ret;exact⟨by rw[hv.out];rfl,rfl⟩):p:=h
theorem Xp (h:p:=by
 exact(h1.below (aD (aA br _))).widen om sm):p:=h
section
def iS (rs zs:List Int):Int:=if zs.length=rs.length then 0 else 3
theorem new_two (w:World) (x y:Value) (T:TypeId) (s:Nat) (hs:s=w.heap.size):(w.alloc (U #[x,y] T)).cell? ⟨s,0,Q⟩=M x/\(w.alloc (U #[x,y] T)).cell? ⟨s,1,Q⟩=M y/\∀j,(w.alloc (U #[x,y] T)).frozen? ⟨s,j,Q⟩=false:=by
 subst hs;exact⟨by simp,by simp,fun j=>by simp⟩
theorem ext4 {W:World} (hb:Below W.heap.size W w') (q1:W.cell? p1=M v1) (q2:W.cell? p2=M v2) (q3:W.cell? p3=M v3) (q4:W.cell? p4=M v4) :
  Below W.heap.size W w'/\w'.cell? p1=M v1/\w'.cell? p2=M v2/\w'.cell? p3=M v3/\w'.cell? p4=M v4:=⟨hb,aB hb q1,aB hb q2,aB hb q3,aB hb q4⟩
variable (ra ga sa:Option Addr) (rc gc sc:Nat) (rs:List Int) (gs:List Gd) (ss:List St) (za:Option Addr) (zc:Nat) (zs:List Int)
theorem oP (w:World) :
  Calls prog 219 #[ag #[J ra rs.length rc,J ga gs.length gc,J sa ss.length sc],J za zs.length zc] w fun e w'=>e=rt (Y I (iS rs zs))/\w'=w.alloc (U #[J ra rs.length rc,J ga gs.length gc,J sa ss.length sc] 95):=by
 by_cases h:zs.length=rs.length
 ·have hv:Hid (iS rs zs=0):=if_pos h;have hb:((zs.length:Int) != (rs.length:Int))=false:=by simp[h]
  exact VI
 ·have hv:Hid (iS rs zs=3):=if_neg h;have hb:((zs.length:Int) != (rs.length:Int))=true:=by simp;omega
  exact VI
theorem run1_pan (p r:Nat) (w:World) (h0:w.cell? ⟨p,0,Q⟩=J ra rs.length rc) (h1:w.cell? ⟨p,1,Q⟩=J ga gs.length gc) (h2:w.cell? ⟨p,2,Q⟩=J sa ss.length sc) (h5:w.cell? ⟨r,0,Q⟩=J za zs.length zc) (ht:IsTx w ra ga sa rs gs ss) (hz:IsInts w za zs) (he:¬aH [bP rs gs ss,iS rs zs]=0) :
  Kp 218 #[pd (M ⟨p,0,Q⟩),pd (M ⟨r,0,Q⟩)] w (aH [bP rs gs ss,iS rs zs]):=by
 have HE:=Hi he;clear he;have hW:Hid (Below _ w (w.alloc (U #[bo false,J Q 0 0,J Q 0 0] 243))):=aA br _;have HTW:=Hi (ht.below hW.out);have HZW:=Hi (hz.below hW.out);have y0:=aB hW.out h0;have y1:=aB hW.out h1;have y2:=aB hW.out h2;have y5:=aB hW.out h5;have v0:(w.alloc (U #[bo false,J Q 0 0,J Q 0 0] 243)).cell? ⟨w.heap.size,0,Q⟩=bo false:=sm;have v1:(w.alloc (U #[bo false,J Q 0 0,J Q 0 0] 243)).cell? ⟨w.heap.size,1,Q⟩=J Q 0 0:=sm;have v2:(w.alloc (U #[bo false,J Q 0 0,J Q 0 0] 243)).cell? ⟨w.heap.size,2,Q⟩=J Q 0 0:=sm;have vf:∀j,(w.alloc (U #[bo false,J Q 0 0,J Q 0 0] 243)).frozen? ⟨w.heap.size,j,Q⟩=false:=fun j=>by simp
 have hqW:w.heap.size<(w.alloc (U #[bo false,J Q 0 0,J Q 0 0] 243)).heap.size:=sm;clear ht hz h0 h1 h2 h5;go_enter func218,ntmps218
 go_wp2_with fail
 generalize w.alloc (U #[bo false,J Q 0 0,J Q 0 0] 243)=W at *;clear v0 v1 v2 vf
 go_region_held (fun w'=>Below W.heap.size W w'/\w'.cell? ⟨p,0,Q⟩=J ra rs.length rc/\w'.cell? ⟨p,1,Q⟩=J ga gs.length gc/\w'.cell? ⟨p,2,Q⟩=J sa ss.length sc/\w'.cell? ⟨r,0,Q⟩=J za zs.length zc) ((go_split_ands;refine ext4 ?_ y0 y1 y2 y5;repeat (first | assumption | exact br | refine aD ?_ | refine aA ?_ _ | refine aC ?_ (by assumption))))
  (first
   | (go_at_call 102;refine(fA ra ga sa rc gc sc rs gs ss _ ?_).mono ?_;(refine HTW.out.below ?_;go_split_ands;repeat (first | assumption | exact br | refine aD ?_ | refine aA ?_ _ | refine aC ?_ (by assumption)));rintro e w' ⟨rfl,hbx⟩)
   | (go_at_call 219;refine(oP ra ga sa rc gc sc rs gs ss za zc zs _).mono ?_;rintro e w' ⟨rfl,rfl⟩)
   | (go_at_call 15;refine(fT (dR [bP rs gs ss,iS rs zs] _ 2 _ sm HE.out ?_) (tu #[])).mono ?_;(exact lS _ _ _ _ sm);rintro e w' (⟨rfl,rfl⟩ | ⟨hF,rfl,rfl⟩);(refine⟨rfl,rfl,aC hW.out ?_⟩;go_split_ands;repeat (first | assumption | exact br | refine aD ?_ | refine aA ?_ _ | refine aC ?_ (by assumption)))))
 exact xq
theorem run1_ok (p r:Nat) (w:World) (h0:w.cell? ⟨p,0,Q⟩=J ra rs.length rc) (h1:w.cell? ⟨p,1,Q⟩=J ga gs.length gc) (h2:w.cell? ⟨p,2,Q⟩=J sa ss.length sc) (h5:w.cell? ⟨r,0,Q⟩=J za zs.length zc) (ht:IsTx w ra ga sa rs gs ss) (hz:IsInts w za zs) (hn:za=Q->zc=0) (he:aH [bP rs gs ss,iS rs zs]=0) (hg0:aH (gs.map (dZ rs.length))=0) (hs0:aH (ss.map (dY rs.length))=0) (h3:ss.length<=3) (h4:zs.length<=4) (hlen:zs.length=rs.length) :
  Calls prog 218 #[pd (M ⟨p,0,Q⟩),pd (M ⟨r,0,Q⟩)] w fun e w'=>∃va vc ma mc,e=rt (ag #[bo (dU zs gs),J va zs.length vc,J ma (aS zs gs ss).length mc])/\IsAt w.heap.size w'.heap.size w' va zs/\IsAt w.heap.size w'.heap.size w' ma (aS zs gs ss)/\Below w.heap.size w w':=by
 have HE:=Hi he;have HG:=Hi hg0;have HS:=Hi hs0;have HL:=Hi hlen;have HN:=Hi hn;clear he hg0 hs0 hlen hn;have hW:Hid (Below _ w (w.alloc (U #[bo false,J Q 0 0,J Q 0 0] 243))):=aA br _;have HTW:=Hi (ht.below hW.out);have HZW:=Hi (hz.below hW.out);have y0:=aB hW.out h0;have y1:=aB hW.out h1;have y2:=aB hW.out h2;have y5:=aB hW.out h5;have v0:(w.alloc (U #[bo false,J Q 0 0,J Q 0 0] 243)).cell? ⟨w.heap.size,0,Q⟩=bo false:=sm;have v1:(w.alloc (U #[bo false,J Q 0 0,J Q 0 0] 243)).cell? ⟨w.heap.size,1,Q⟩=J Q 0 0:=sm;have v2:(w.alloc (U #[bo false,J Q 0 0,J Q 0 0] 243)).cell? ⟨w.heap.size,2,Q⟩=J Q 0 0:=sm;have vf:∀j,(w.alloc (U #[bo false,J Q 0 0,J Q 0 0] 243)).frozen? ⟨w.heap.size,j,Q⟩=false:=fun j=>by simp
 have hqW:w.heap.size<(w.alloc (U #[bo false,J Q 0 0,J Q 0 0] 243)).heap.size:=sm;clear ht hz h0 h1 h2 h5;go_enter func218,ntmps218
 go_wp2_with fail
 generalize w.alloc (U #[bo false,J Q 0 0,J Q 0 0] 243)=W at *
 go_region_held3 (fun w'=>Below W.heap.size W w'/\w'.cell? ⟨p,0,Q⟩=J ra rs.length rc/\w'.cell? ⟨p,1,Q⟩=J ga gs.length gc/\w'.cell? ⟨p,2,Q⟩=J sa ss.length sc/\w'.cell? ⟨r,0,Q⟩=J za zs.length zc) ((go_split_ands;refine ext4 ?_ y0 y1 y2 y5;repeat (first | assumption | exact br | refine aD ?_ | refine aA ?_ _ | refine aC ?_ (by assumption))))
  (first
   | (go_at_call 102;refine(fA ra ga sa rc gc sc rs gs ss _ ?_).mono ?_;(refine HTW.out.below ?_;go_split_ands;repeat (first | assumption | exact br | refine aD ?_ | refine aA ?_ _ | refine aC ?_ (by assumption)));rintro e w' ⟨rfl,hbx⟩)
   | (go_at_call 219;refine(oP ra ga sa rc gc sc rs gs ss za zc zs _).mono ?_;rintro e w' ⟨rfl,rfl⟩)
   | (go_at_call 15;refine(aQ [bP rs gs ss,iS rs zs] _ 2 _ sm HE.out ?_).mono ?_;(exact lS _ _ _ _ sm);rintro e w' ⟨rfl,rfl⟩))
 go_split_ands
 go_wp2_with fail
 refine(outcome_ok ra ga sa rc gc sc rs gs ss za zc zs _ (HTW.out.below ?_) (HZW.out.below ?_) HN.out h4 HL.out HG.out HS.out h3).mono ?_
 ·assumption
 ·assumption
 rintro e w2 ⟨va,vc,ma,mc,rfl,hva,hma,hb2⟩
 have hb3:Below W.heap.size W w2:=by
  refine aC ?_ hb2;assumption
 have hva':IsAt (_+1) _ w2 va zs:=hva.widen (nh hqW (Below.size (B:=W.heap.size) (by assumption))) nr;have hma':IsAt (_+1) _ w2 ma _:=hma.widen (nh hqW (Below.size (B:=W.heap.size) (by assumption))) nr;have x0:=aB hb3 v0;have x1:=aB hb3 v1;have x2:=aB hb3 v2;have xf:=fun j=>(hb3.frozen (p:=⟨w.heap.size,j,Q⟩) hqW).trans (vf j)
 have B3:=aC hW.out hb3;clear hva hma hb2 v0 v1 v2 vf HTW HZW;go_wp2;refine bodyPost_ret (v:=ag #[bo (dU zs gs),J va zs.length vc,J ma (aS zs gs ss).length mc]) (by simp[results,results218,go_sem,x0,x1,x2]) rfl ⟨va,vc,ma,mc,rfl,?_,?_,?_⟩
 ·have h1:=((hva'.set ⟨w.heap.size,0,Q⟩ (bo (dU zs gs)) (.inl (nk _))).set ⟨w.heap.size,1,Q⟩ (J va zs.length vc) (.inl (nk _))).set ⟨w.heap.size,2,Q⟩ (J ma (aS zs gs ss).length mc) (.inl (nk _));exact h1.widen om sm
 ·have h1:=((hma'.set ⟨w.heap.size,0,Q⟩ (bo (dU zs gs)) (.inl (nk _))).set ⟨w.heap.size,1,Q⟩ (J va zs.length vc) (.inl (nk _))).set ⟨w.heap.size,2,Q⟩ (J ma (aS zs gs ss).length mc) (.inl (nk _));exact h1.widen om sm
 ·exact aG (aG (aG B3 nr _) nr _) nr _
theorem caught_o_ret (cap:Array Value) (d:Bool) (zs made:List Int) (w:World)
  (h:Calls prog 218 cap ((w.alloc (U #[bo false,J Q 0 0,J Q 0 0] 243)).alloc (U #[Y I 0] 22)) fun e w'=>∃va vc ma mc,e=rt (ag #[bo d,J va zs.length vc,J ma made.length mc])/\IsAt ((w.alloc (U #[bo false,J Q 0 0,J Q 0 0] 243)).alloc (U #[Y I 0] 22)).heap.size w'.heap.size w' va zs/\IsAt ((w.alloc (U #[bo false,J Q 0 0,J Q 0 0] 243)).alloc (U #[Y I 0] 22)).heap.size w'.heap.size w' ma made/\Below ((w.alloc (U #[bo false,J Q 0 0,J Q 0 0] 243)).alloc (U #[Y I 0] 22)).heap.size ((w.alloc (U #[bo false,J Q 0 0,J Q 0 0] 243)).alloc (U #[Y I 0] 22)) w') :
  Calls prog 217 #[.func (.func 218) #[] cap] w fun e w'=>∃va vc ma mc,e=rt (tu #[ag #[bo d,J va zs.length vc,J ma made.length mc],Y I 0])/\IsAt w.heap.size w'.heap.size w' va zs/\IsAt w.heap.size w'.heap.size w' ma made/\Below w.heap.size w w':=by
 have H:=Hi h;clear h;go_enter_defers func217,ntmps217
 go_wp2_with fail
 refine H.out.mono ?_;clear H;rintro e w1 ⟨va,vc,ma,mc,rfl,hva,hma,hb⟩;have e0:w1.cell? ⟨w.heap.size+1,0,Q⟩=Y I 0:=(hb.cell sm).trans sm;have ef:∀j,w1.frozen? _=false:=fun j=>(hb.frozen (p:=⟨w.heap.size+1,j,Q⟩) sm).trans sm
 have c0:w1.cell? ⟨w.heap.size,0,Q⟩=bo false:=(hb.cell (by simp;omega)).trans ((ni _ _ _ sm).trans sm);have c1:w1.cell? ⟨w.heap.size,1,Q⟩=J Q 0 0:=(hb.cell (by simp;omega)).trans ((ni _ _ _ sm).trans sm);have c2:w1.cell? ⟨w.heap.size,2,Q⟩=J Q 0 0:=(hb.cell (by simp;omega)).trans ((ni _ _ _ sm).trans sm);have cf:∀j,w1.frozen? _=false:=fun j=>(hb.frozen (p:=⟨w.heap.size,j,Q⟩) (by simp;omega)).trans (((aA (n7 (w.alloc (U #[bo false,J Q 0 0,J Q 0 0] 243)).heap.size (w.alloc (U #[bo false,J Q 0 0,J Q 0 0] 243))) (U #[Y I 0] 22)).frozen (p:=⟨w.heap.size,j,Q⟩) sm).trans sm)
 have hva':IsAt (w.heap.size+2) w1.heap.size w1 va zs:=hva.widen sm nr;have hma':IsAt (w.heap.size+2) w1.heap.size w1 ma made:=hma.widen sm nr;have B1:=aC (aA (aA br _) _) hb;clear hb hva hma;go_wp2;refine leaves_cons (f:=257) (args:=#[pd (M ⟨w.heap.size+1,0,Q⟩)]) sm (by simp[go_sem]) ?_;refine(catch69_idle ⟨w.heap.size+1,0,Q⟩ _).mono ?_;rintro e u' w'' ⟨rfl,rfl,rfl⟩;simp[Leaves,settle,results,results217,go_sem,e0,c0,c1,c2];refine⟨va,vc,ma,⟨⟨rfl,rfl⟩,rfl⟩,?_,?_,?_⟩
 ·have h1:=(((hva'.set ⟨w.heap.size,0,Q⟩ (bo d) (.inl sm)).set ⟨w.heap.size,1,Q⟩ (J va zs.length vc) (.inl sm)).set ⟨w.heap.size,2,Q⟩ (J ma made.length mc) (.inl sm)).set ⟨w.heap.size+1,0,Q⟩ (Y I 0) (.inl sm);exact h1.widen om nr
 ·have h1:=(((hma'.set ⟨w.heap.size,0,Q⟩ (bo d) (.inl sm)).set ⟨w.heap.size,1,Q⟩ (J va zs.length vc) (.inl sm)).set ⟨w.heap.size,2,Q⟩ (J ma made.length mc) (.inl sm)).set ⟨w.heap.size+1,0,Q⟩ (Y I 0) (.inl sm);exact h1.widen om nr
 ·exact aG (aG (aG (aG B1 nr _) nr _) nr _) sm _
theorem caught_o_pan (cap:Array Value) (x:Int) (w:World)
  (h:Calls prog 218 cap ((w.alloc (U #[bo false,J Q 0 0,J Q 0 0] 243)).alloc (U #[Y I 0] 22)) fun e w'=>e=pg [{v:=fc 22 (Y I x),recovered:=false}]/\Below ((w.alloc (U #[bo false,J Q 0 0,J Q 0 0] 243)).alloc (U #[Y I 0] 22)).heap.size ((w.alloc (U #[bo false,J Q 0 0,J Q 0 0] 243)).alloc (U #[Y I 0] 22)) w') :
  Kr 217 #[.func (.func 218) #[] cap] w (tu #[ag #[bo false,J Q 0 0,J Q 0 0],Y I x]):=by
 have H:=Hi h;clear h;go_enter_defers func217,ntmps217
 go_wp2_with fail
 refine H.out.mono ?_;clear H;rintro e w1 ⟨rfl,hb⟩;have e0:w1.cell? ⟨w.heap.size+1,0,Q⟩=Y I 0:=(hb.cell sm).trans sm;have ef:w1.frozen? _=false:=(hb.frozen (p:=⟨w.heap.size+1,0,Q⟩) sm).trans sm;have c0:w1.cell? ⟨w.heap.size,0,Q⟩=bo false:=(hb.cell (by simp;omega)).trans ((ni _ _ _ sm).trans sm);have c1:w1.cell? ⟨w.heap.size,1,Q⟩=J Q 0 0:=(hb.cell (by simp;omega)).trans ((ni _ _ _ sm).trans sm);have c2:w1.cell? ⟨w.heap.size,2,Q⟩=J Q 0 0:=(hb.cell (by simp;omega)).trans ((ni _ _ _ sm).trans sm);have B1:=aC (aA (aA br _) _) hb;clear hb;refine leaves_cons (f:=257) (args:=#[pd (M ⟨w.heap.size+1,0,Q⟩)]) sm (by simp[go_sem]) ?_;refine(sR ⟨w.heap.size+1,0,Q⟩ x 0 [] _ e0 ef).mono ?_;rintro e u' w'' ⟨rfl,rfl,rfl⟩;simp[Leaves,settle,results,results217,go_sem,e0,c0,c1,c2];exact aG B1 sm _
theorem run_by (d:Bool) (zs' made:List Int) (x:Int) (w:World)
  (h:Calls prog 217 #[.func (.func 218) #[] #[pd (M ⟨w.heap.size,0,Q⟩),pd (M ⟨w.heap.size+1,0,Q⟩)]] (((w.alloc (U #[J ra rs.length rc,J ga gs.length gc,J sa ss.length sc] 95)).alloc (U #[J za zs.length zc] 41)).alloc (U #[bo false,J Q 0 0] 148)) fun e w'=>∃va vc ma mc,e=rt (tu #[ag #[bo d,J va zs'.length vc,J ma made.length mc],Y I x])/\IsAt (((w.alloc (U #[J ra rs.length rc,J ga gs.length gc,J sa ss.length sc] 95)).alloc (U #[J za zs.length zc] 41)).alloc (U #[bo false,J Q 0 0] 148)).heap.size w'.heap.size w' va zs'/\IsAt (((w.alloc (U #[J ra rs.length rc,J ga gs.length gc,J sa ss.length sc] 95)).alloc (U #[J za zs.length zc] 41)).alloc (U #[bo false,J Q 0 0] 148)).heap.size w'.heap.size w' ma made/\Below (((w.alloc (U #[J ra rs.length rc,J ga gs.length gc,J sa ss.length sc] 95)).alloc (U #[J za zs.length zc] 41)).alloc (U #[bo false,J Q 0 0] 148)).heap.size (((w.alloc (U #[J ra rs.length rc,J ga gs.length gc,J sa ss.length sc] 95)).alloc (U #[J za zs.length zc] 41)).alloc (U #[bo false,J Q 0 0] 148)) w') :
  Calls prog 184 #[ag #[J ra rs.length rc,J ga gs.length gc,J sa ss.length sc],J za zs.length zc] w fun e w'=>∃va vc ma mc,e=rt (tu #[ag #[bo d,J va zs'.length vc],J ma made.length mc,Y I x])/\IsAt w.heap.size w'.heap.size w' va zs'/\IsAt w.heap.size w'.heap.size w' ma made/\Below w.heap.size w w':=by
 have H:=Hi h;clear h;go_enter func184,ntmps184
 go_wp2_with fail
 refine H.out.mono ?_;clear H;rintro e w1 ⟨va,vc,ma,mc,rfl,hva,hma,hb⟩;obtain⟨n0,n1,nf⟩:=new_two ((w.alloc (U #[J ra rs.length rc,J ga gs.length gc,J sa ss.length sc] 95)).alloc (U #[J za zs.length zc] 41)) (bo false) (J Q 0 0) 148 (w.heap.size+1+1) sm;have c0:=(hb.cell sm).trans n0;have c1:=(hb.cell sm).trans n1;have cf:=fun j=>(hb.frozen (p:=⟨w.heap.size+1+1,j,Q⟩) sm).trans (nf j)
 clear n0 n1 nf;have hq:=np w1 _ c0;have hva':IsAt (w.heap.size+3) w1.heap.size w1 va zs':=hva.widen sm nr;have hma':IsAt (w.heap.size+3) w1.heap.size w1 ma made:=hma.widen sm nr;have B1:=aC (aA (aA (aA br _) _) _) hb;have C0:=fun o=>aB (aA (n7 w1.heap.size w1) o) c0
 have CF:=fun o j=>((aA (n7 w1.heap.size w1) o).frozen (p:=⟨w.heap.size+1+1,j,Q⟩) hq).trans (cf j)
 have r0:(((w1.setCell ⟨w.heap.size+1+1,0,Q⟩ (bo d)).setCell ⟨w.heap.size+1+1,1,Q⟩ (J va zs'.length vc)).alloc (U #[bo d,J va zs'.length vc,J ma made.length mc] 243)).cell? ⟨w.heap.size+1+1,0,Q⟩=bo d:=by rw[ni _ _ _ (by simp;omega)];simp[go_sem,c0]
 have r1:(((w1.setCell ⟨w.heap.size+1+1,0,Q⟩ (bo d)).setCell ⟨w.heap.size+1+1,1,Q⟩ (J va zs'.length vc)).alloc (U #[bo d,J va zs'.length vc,J ma made.length mc] 243)).cell? ⟨w.heap.size+1+1,1,Q⟩=J va zs'.length vc:=by rw[ni _ _ _ (by simp;omega)];simp[go_sem,c1]
 clear hb hva hma;go_wp2
 go_region
 go_wp2;refine bodyPost_ret (v:=tu #[ag #[bo d,J va zs'.length vc],J ma made.length mc,Y I x]) (by simp[results,results184,go_sem,r0,r1]) rfl ⟨va,vc,ma,mc,rfl,?_,?_,?_⟩
 ·have h1:=(hva'.set ⟨w.heap.size+1+1,0,Q⟩ (bo d) (.inl sm)).set ⟨w.heap.size+1+1,1,Q⟩ (J va zs'.length vc) (.inl sm);exact Xp
 ·have h1:=(hma'.set ⟨w.heap.size+1+1,0,Q⟩ (bo d) (.inl sm)).set ⟨w.heap.size+1+1,1,Q⟩ (J va zs'.length vc) (.inl sm);exact Xp
 ·exact aD (aA (aG (aG B1 (by simp;omega) _) (by simp;omega) _) _)
def yX (rs:List Int) (gs:List Gd) (ss:List St) (zs:List Int):Int:=aH [bP rs gs ss,iS rs zs]
def runD (rs:List Int) (gs:List Gd) (ss:List St) (zs:List Int):Bool:=if yX rs gs ss zs=0 then dU zs gs else false
def runV (rs:List Int) (gs:List Gd) (ss:List St) (zs:List Int):List Int:=if yX rs gs ss zs=0 then zs else []
def runM (rs:List Int) (gs:List Gd) (ss:List St) (zs:List Int):List Int:=if yX rs gs ss zs=0 then aS zs gs ss else []
theorem runE_zero {rs:List Int} {gs:List Gd} {ss:List St} {zs:List Int} (h:yX rs gs ss zs=0):bP rs gs ss=0/\zs.length=rs.length:=by
 have h':=aW _ h;have h0:bP rs gs ss=0:=by simpa using h' 0
 have h1:iS rs zs=0:=by simpa using h' 1
 refine⟨h0,?_⟩;unfold iS at h1;by_cases c:zs.length=rs.length
 ·exact c
 ·rw[if_neg c]at h1;omega
theorem bR {rs:List Int} {gs:List Gd} {ss:List St} (h:bP rs gs ss=0):cW rs.length gs.length ss.length=0/\jS rs ss=0/\aH (gs.map (dZ rs.length))=0/\aH (ss.map (dY rs.length))=0:=by
 have h':=aW _ h;exact⟨by simpa using h' 0,by simpa using h' 1,by simpa using h' 2,by simpa using h' 3⟩
theorem run_cells (w:World) (o o':Obj):letI Z:=((((w.alloc (U #[J ra rs.length rc,J ga gs.length gc,J sa ss.length sc] 95)).alloc (U #[J za zs.length zc] 41)).alloc (U #[bo false,J Q 0 0] 148)).alloc o).alloc o';Z.cell? ⟨w.heap.size,0,Q⟩=J ra rs.length rc/\Z.cell? ⟨w.heap.size,1,Q⟩=J ga gs.length gc/\Z.cell? ⟨w.heap.size,2,Q⟩=J sa ss.length sc/\Z.cell? ⟨w.heap.size+1,0,Q⟩=J za zs.length zc:=by
 refine⟨?_,?_,?_,?_⟩
 ·exact xo
 ·exact xo
 ·exact xo
 ·rw[ni _ _ _ sm,ni _ _ _ sm,ni _ _ _ sm];simp
theorem qB (w:World) (ht:IsTx w ra ga sa rs gs ss) (hz:IsInts w za zs) (hn:za=Q->zc=0) :
  Calls prog 184 #[ag #[J ra rs.length rc,J ga gs.length gc,J sa ss.length sc],J za zs.length zc] w fun e w'=>∃va vc ma mc,e=rt (tu #[ag #[bo (runD rs gs ss zs),J va (runV rs gs ss zs).length vc],J ma (runM rs gs ss zs).length mc,Y I (yX rs gs ss zs)])/\IsAt w.heap.size w'.heap.size w' va (runV rs gs ss zs)/\IsAt w.heap.size w'.heap.size w' ma (runM rs gs ss zs)/\Below w.heap.size w w':=by
 obtain⟨h0,h1,h2,h5⟩:=run_cells ra ga sa rc gc sc rs gs ss za zc zs w (U #[bo false,J Q 0 0,J Q 0 0] 243) (U #[Y I 0] 22);have hg:Below _ w (((((w.alloc (U #[J ra rs.length rc,J ga gs.length gc,J sa ss.length sc] 95)).alloc (U #[J za zs.length zc] 41)).alloc (U #[bo false,J Q 0 0] 148)).alloc (U #[bo false,J Q 0 0,J Q 0 0] 243)).alloc (U #[Y I 0] 22)):=aA (aA (aA (aA (aA br _) _) _) _) _;by_cases he:yX rs gs ss zs=0
 ·obtain⟨hc,hlen⟩:=runE_zero he;obtain⟨hm,_,hgg,hss⟩:=bR hc;obtain⟨h4,_,h3,_⟩:=bI _ _ _ hm;have e1:runD rs gs ss zs=dU zs gs:=if_pos he;have e2:runV rs gs ss zs=zs:=if_pos he;have e3:runM rs gs ss zs=aS zs gs ss:=if_pos he;rw[e1,e2,e3,he];exact run_by ra ga sa rc gc sc rs gs ss za zc zs _ _ _ _ w (caught_o_ret _ _ _ _ _ (run1_ok ra ga sa rc gc sc rs gs ss za zc zs _ _ _ h0 h1 h2 h5 (ht.below hg) (hz.below hg) hn he hgg hss h3 om hlen))
 ·have e1:runD rs gs ss zs=false:=if_neg he;have e2:runV rs gs ss zs=[]:=if_neg he;have e3:runM rs gs ss zs=[]:=if_neg he;rw[e1,e2,e3];refine run_by ra ga sa rc gc sc rs gs ss za zc zs _ _ _ _ w ((caught_o_pan _ _ _ (run1_pan ra ga sa rc gc sc rs gs ss za zc zs _ _ _ h0 h1 h2 h5 (ht.below hg) (hz.below hg) he)).mono ?_);exact fun _ _ ⟨x1,x2⟩=>⟨Q,0,Q,0,x1,fun i hi=>absurd hi sm,fun i hi=>absurd hi sm,x2⟩
end
end Go.Proofs.YtcgpkonfneofdaaGreatDoor
