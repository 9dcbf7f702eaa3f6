/- Conditions: those that each theorem states. -/
import Derived.Test.YtcgpkonfneofdaaGreatDoorQGraphA
import Derived.Test.YtcgpkonfneofdaaGreatDoorQShelf
import Derived.Deep.RegionLaw
import Derived.Deep.DeepCutAuto
import Derived.Deep.AppendLies
import Derived.Lib.OwnKind
import Derived.Laws.Strings2
import Derived.Laws.Strings3
import Derived.Laws.Concat
import Derived.Laws.BytesString
import Derived.Laws.IdiomStrings
import Derived.Lib.AppendStr
set_option maxRecDepth 100000
set_option maxHeartbeats 8000000
namespace Go.Proofs.YtcgpkonfneofdaaGreatDoor
open Go.RowKit Go.Proofs.Tryz
open Go.Value renaming slice->J,int->Y,bool->bo,pointer->pd,agg->ag,tuple->tu,string->sg,iface->fc
open Go.IntKind renaming i64->I
open Go.Obj renaming cells->U
open Go.Ending renaming returned->rt,panicked->pg
open Option renaming some->M,none->Q
variable {w a w':World} {b i P:Nat} {u v:Value}
theorem aF (W:World) (cs:Array Value) (ty:TypeId) (b j:Nat) (v:Value) (hb:b=W.heap.size) (hj:cs[j]?=M v):(W.alloc (U cs ty)).cell? ⟨b,j,Q⟩=M v:=by
 subst hb;simp[hj]
theorem aE {j:Nat} (hne:i≠j) (hc:w.cell? ⟨b,i,Q⟩=M u):(w.setCell ⟨b,j,Q⟩ v).cell? ⟨b,i,Q⟩=M u:=by
 simp[go_sem,hc]
 try omega
theorem aK (hc:w.cell? ⟨b,i,Q⟩=M u):(w.setCell ⟨b,i,Q⟩ v).cell? ⟨b,i,Q⟩=M v:=by
 simp[go_sem,hc]
theorem aU (w:World) (cs:Array Value) (t:TypeId) (b j:Nat) (e:b=w.heap.size):(w.alloc (U cs t)).frozen? ⟨b,j,Q⟩=false:=by subst e;simp
section
open Go.RowKit Go.Shelf
theorem Tryz.lays166:Go.Proofs.Lays.n166 prog Tryz.lays156_ren:={
 mixed:=by kernel_rfl
 f166:=func20.trans (congrArg M kr)
 f240:=func42.trans (congrArg M kr)
 f276:=func81.trans (congrArg M kr)
 t0:=underlying0
 a0:=Tryz.isAgg0
 z0:=Tryz.sizeOf0
 v0:=Tryz.zeroValue0
 t3:=underlying3
 a3:=Tryz.isAgg3
 z3:=Tryz.sizeOf3
 v3:=Tryz.zeroValue3
 t4:=underlying4
 a4:=Tryz.isAgg4
 z4:=Tryz.sizeOf4
 v4:=Tryz.zeroValue4
 t9:=underlying9
 a9:=Tryz.isAgg9
 z9:=Tryz.sizeOf9
 v9:=Tryz.zeroValue9
 t20:=underlying20
 a20:=Tryz.isAgg20
 z20:=Tryz.sizeOf20
 v20:=Tryz.zeroValue20
 t37:=underlying52
 a37:=Tryz.isAgg52
 z37:=Tryz.sizeOf52
 v37:=Tryz.zeroValue52
 t70:=underlying51
 a70:=Tryz.isAgg51
 z70:=Tryz.sizeOf51
 v70:=Tryz.zeroValue51
 t72:=underlying54
 a72:=Tryz.isAgg54
 z72:=Tryz.sizeOf54
 v72:=Tryz.zeroValue54
 t75:=underlying58
 a75:=Tryz.isAgg58
 z75:=Tryz.sizeOf58
 v75:=Tryz.zeroValue58
 t164:=underlying136
 a164:=Tryz.isAgg136
 z164:=Tryz.sizeOf136
 v164:=Tryz.zeroValue136}
end
theorem info5b:(prog.info? 5).map (fun i=>(i.zero,i.size,i.bytes))=M (M (Y .u8 0),1,1):=by kernel_rfl
theorem app_str_blk (w:World) (base:Nat) (ty:TypeId) (v:Value) (n:Nat) (xs:List Value) (hown:w.ownsRow base 5 1 v n xs) (s:ByteArray) (hlen:n+s.size<=140737488355328) (hbase:base<=w.heap.size) :
  ∃v' w',(Builtin.append_ #[52,9] ty #[v,sg s]).run prog w=.ok v' w'/\w'.ownsRow base 5 1 v' (n+s.size) (xs++Lib.strCells s)/\w.grownBy w' v.ownBlock/\(v'.ownBlock=v.ownBlock∨v'.ownBlock=M w.heap.size):=by
 obtain⟨i,hi,hz,hs,hb⟩:=info_parts info5b;obtain⟨v',w',hr,h2,h3,_⟩:=Lib.run_append_own_string (P:=prog) w base 52 9 ty 5 i underlying52 underlying9 hi hz hs hb v n xs hown s (by unfold maxLen;omega) hlen hbase;refine⟨v',w',hr,h2,h3,?_⟩;have hxl:xs.length=n:=by simpa using hown.1
 rcases hown.2 with ⟨rfl,rfl⟩ | ⟨g,cap,cur,rfl,hbg,hg,hnc,hcm,hcs,htake⟩
 ·by_cases hm:s.size=0
  ·have hf:=Lib.run_firstCells_string (P:=prog) w 1 s;rw[hm]at hf
   have hr2:(Builtin.append_ #[52,9] ty #[J Q 0 0,sg s]).run prog w=.ok (J Q 0 0) w:=by
    simp[Builtin.append_,run_underlying underlying52,run_underlying underlying9,sizeOf,typeInfo,hi,hs,Builtin.lenOf,hm,hf]
   rw[hr2]at hr;injection hr with hv _
   rw[<-hv];exact .inl rfl
  ·have hr2:=run_append_nil_string (P:=prog) w 52 9 ty 5 i (Y .u8 0) underlying52 underlying9 hi hz s om om (by rw[hb];omega);rw[hr2]at hr;injection hr with hv _
   rw[<-hv];exact .inr rfl
 ·by_cases hroom:n+s.size<=cap
  ·have hcs':cur.size=cap:=by simpa using hcs
   have hr2:=Lib.run_append_room_string (P:=prog) w 52 9 ty 5 i underlying52 underlying9 hi hs g n cap cur hg s hroom om;rw[hr2]at hr;injection hr with hv _
   rw[<-hv];exact .inl rfl
  ·have holds:=hown.cells (g:=g) rfl;have hr2:=Lib.run_append_grow_string (P:=prog) w 52 9 ty 5 i (Y .u8 0) underlying52 underlying9 hi hz ⟨g,0,Q⟩ n cap xs (by rw[hs];simpa using hxl) holds s om om (by rw[hb];exact growslice_fits om om);rw[hr2]at hr;injection hr with hv _
   rw[<-hv];exact .inr rfl
theorem vZ {ops:Array Oper} {rest:List Oper} {o:Oper} {a:Act} {Qq:Exit->Act->World->Prop} (hgd:o.guard=Q) (sl x:Operand)
  (ho:o.op=.call {callee:=.builtin .append,args:=#[sl,x],argTypes:=#[52,9]}) (base:Nat)
  (v:Value) (n:Nat) (xs:List Value) (hs:a.eval sl=v) (hown:w.ownsRow base 5 1 v n xs) (s:ByteArray) (hx:a.eval x=sg s) (hlen:n+s.size<=140737488355328) (hbase:base<=w.heap.size)
  (h:∀v' w',w'.ownsRow base 5 1 v' (n+s.size) (xs++Lib.strCells s)->w.grownBy w' v.ownBlock->(v'.ownBlock=v.ownBlock∨v'.ownBlock=M w.heap.size)->wpList prog ops Qq rest (a.put o.dst v') w'):wpList prog ops Qq (o::rest) a w:=by
 refine wpList_plain hgd fun K hK=>?_
 obtain⟨v',w',hr,h2,h3,h4⟩:=app_str_blk w base o.type v n xs hown s hlen hbase;unfold Oper.wp execOp;simp only[ho,resolve,invoke,builtin,Sem.run_bind,Sem.run_pure,Result.andThen_ok,List.map_toArray,List.map_cons,List.map_nil,hs,hx,hr];exact hK _ _ (h v' w' h2 h3 h4)
structure Bld (B b:Nat) (v:Value) (l:List UInt8) (w:World):Prop where
 hp:∃p,(p=pd Q∨p=pd (M ⟨b,0,Q⟩))/\w.heap[b]?=M (U #[p,v] 54 (0,0))
 own:w.ownsRow B 5 1 v l.length (Lib.byteCells l)
 ne:v.ownBlock≠M b
 lo:B<=b
theorem Bld.is {B:Nat} {l:List UInt8} (h:Bld B b v l w):Lib.IsBuilder 54 5 B b (Lib.byteCells l) w:=by
 obtain⟨p,hp,hb⟩:=h.hp;have hl:(Lib.byteCells l).length=l.length:=by simp[Lib.byteCells]
 rcases hp with rfl | rfl
 ·exact .inl ⟨h.lo,v,hb,by rw[hl];exact h.own,h.ne⟩
 ·exact .inr ⟨h.lo,v,hb,by rw[hl];exact h.own,h.ne⟩
theorem info5:(prog.info? 5).map (fun i=>(i.zero,i.size,i.bytes))=M (M (Y .u8 0),1,1):=by kernel_rfl
def iT (w:World) (b:Nat):Prop:=∀c fz,w.heap[b]?≠M (U c 5 fz)
structure WK (P:Nat) (w w':World):Prop where
 os:w'.os=w.os
 tape:w'.tape=w.tape
 output:w'.output=w.output
 size:w.heap.size<=w'.heap.size
 keep:∀b,b<w.heap.size->b≠P->(b<P∨iT w b)->w'.heap[b]?=w.heap[b]?
theorem WK.refl (P:Nat) (w:World):WK P w w:=⟨rfl,rfl,rfl,nr,fun _ _ _ _=>rfl⟩
theorem WK.trans {b c:World} (h:WK P a b) (k:WK P b c):WK P a c:=
 ⟨k.os.trans h.os,k.tape.trans h.tape,k.output.trans h.output,nh h.size k.size,fun i hi hP hor=>by
  have h1:=h.keep i hi hP hor;exact(k.keep i (nd hi h.size) hP (hor.imp id (fun hn c fz e=>hn c fz (h1 ▸ e)))).trans h1⟩
theorem WK.alloc (h:WK P a w) (o:Obj):WK P a (w.alloc o):=
 h.trans ⟨rfl,rfl,rfl,by simp,fun b hb _ _=>Below.heap_alloc _ _ _ hb⟩
theorem WK.below (h:WK P w w') (hP:P<w.heap.size):Below P w w':=⟨h.os,h.tape,h.output,h.size,fun b hb=>h.keep b om om (Or.inl hb)⟩
theorem WK.cell (h:WK P w w') (hc:w.cell? ⟨b,i,Q⟩=M v) (hP:b≠P) (hor:b<P∨iT w b):w'.cell? ⟨b,i,Q⟩=M v:=by
 have hb:b<w.heap.size:=np w ⟨b,i,Q⟩ hc;have e:=h.keep b hb hP hor;exact(nu (w:=w) (w':=w') (a:=⟨b,i,Q⟩) e).trans hc
def WrS (P:Nat) (w:World) (bs:List Int):Prop:=∃v,w.cell? ⟨P,0,Q⟩=M v/\w.frozen? ⟨P,0,Q⟩=false/\w.ownsRow (P+1) 5 1 v bs.length (bs.map (Y .u8))
theorem sJ (p:Addr) (x y:Int) (older:List PanicEntry) (w:World) (hc:w.cell? p=M (Y I y)) (hz:w.frozen? p=false) :
  CallsD prog 30 #[pd (M p)] (.panicking ({v:=fc 22 (Y I x),recovered:=false}::older)) w fun e u' w'=>
   e=rt (tu #[])/\u'=.panicking ({v:=fc 22 (Y I x),recovered:=true}::older)/\w'=w.setCell p (Y I x):=by
 refine callsD_of_wpS func30 rfl fun c₀ cs hu=>?_
 apply wpS_seq;apply wpS_region;simp[wpOpsS,go_sem,recoverD,hu,ntmps30,Exit.thenS];apply wpS_seq;apply wpS_region;simp[wpOpsS,go_sem,Exit.thenS];refine wpS_cond (t:=true) (by simp[Act.eval,Array.replicate]) ?_;simp only[if_true];apply wpS_region;simp[wpOpsS,go_sem,cQ,hc,hz,bodyPostS,results,results30]
theorem sK (p:Addr) (w:World) :
  CallsD prog 30 #[pd (M p)] .returning w fun e u' w'=>e=rt (tu #[])/\u'=.returning/\w'=w:=by
 refine callsD_of_wpS func30 rfl fun c₀ cs hu=>?_
 apply wpS_seq;apply wpS_region;simp[wpOpsS,go_sem,recoverD,hu,ntmps30,Exit.thenS];apply wpS_seq;apply wpS_region;simp[wpOpsS,go_sem,Exit.thenS];refine wpS_cond (t:=false) (by simp[Act.eval,Array.replicate]) ?_;simp only[Bool.false_eq_true,if_false];refine wpS_of_wp (wp_skip ?_)
 cases c₀
 simp_all [bodyPostS,results,results30]
theorem sF (F:FuncId) (cap:Array Value) (hF:∀w,Sem.run prog (callFunc F cap) w=.ok (.enter F cap) w) (P:Value->World->Prop) (w:World) (hP:∀v w',P v w'->P v (w'.setCell ⟨w.heap.size,0,Q⟩ (Y I 0)))
  (h:Calls prog F cap (w.alloc (U #[Y I 0] 22)) fun e w'=>∃v,e=rt v/\P v w'/\Below (w.heap.size+1) (w.alloc (U #[Y I 0] 22)) w') :
  Calls prog 11 #[.func (.func F) #[] cap] w fun e w'=>∃v,e=rt (tu #[v,Y I 0])/\P v w'/\Below w.heap.size w w':=by
 have H:=Hi h;have HP:=Hi hP;have HF:=Hi hF;clear h hP hF;go_enter_defers func11,ntmps11
 go_wp2_with fail
 rw[HF.out,Oper.upon_enter];refine H.out.mono ?_;clear H;rintro e w1 ⟨v,rfl,hv,hb⟩;have hc:w1.cell? ⟨w.heap.size,0,Q⟩=Y I 0:=by rw[hb.cell sm];simp
 have hf:w1.frozen? ⟨w.heap.size,0,Q⟩=false:=by rw[hb.frozen sm];simp
 have Hb:=Hi hb;have HV:=Hi (HP.out v w1 hv);clear hb hv HP;go_wp2;refine leaves_cons (f:=30) (args:=#[pd (M ⟨w.heap.size,0,Q⟩)]) sm (by simp[go_sem]) ?_;refine(sK ⟨w.heap.size,0,Q⟩ _).mono ?_;rintro e u' w'' ⟨rfl,rfl,rfl⟩;simp[Leaves,settle,results,results11,go_sem,hc];exact vu
theorem nL (F:FuncId) (cap:Array Value) (hF:∀w,Sem.run prog (callFunc F cap) w=.ok (.enter F cap) w) (x:Int) (w:World)
  (h:Calls prog F cap (w.alloc (U #[Y I 0] 22)) fun e w'=>e=pg [{v:=fc 22 (Y I x),recovered:=false}]/\Below (w.heap.size+1) (w.alloc (U #[Y I 0] 22)) w') :
  Kr 11 #[.func (.func F) #[] cap] w (tu #[sg {data:=#[]},Y I x]):=by
 have H:=Hi h;have HF:=Hi hF;clear h hF;go_enter_defers func11,ntmps11
 go_wp2_with fail
 rw[HF.out,Oper.upon_enter];refine H.out.mono ?_;clear H;rintro e w1 ⟨rfl,hb⟩;have hc:w1.cell? ⟨w.heap.size,0,Q⟩=Y I 0:=by rw[hb.cell sm];simp
 have hf:w1.frozen? ⟨w.heap.size,0,Q⟩=false:=by rw[hb.frozen sm];simp
 refine leaves_cons (f:=30) (args:=#[pd (M ⟨w.heap.size,0,Q⟩)]) sm (by simp[go_sem]) ?_;refine(sJ ⟨w.heap.size,0,Q⟩ x 0 [] _ hc hf).mono ?_;rintro e u' w'' ⟨rfl,rfl,rfl⟩;simp[Leaves,settle,results,results11,go_sem,hc];exact uq
theorem sN (p:Addr) (x y:Int) (older:List PanicEntry) (w:World) (hc:w.cell? p=M (Y I y)) (hz:w.frozen? p=false) :
  CallsD prog 68 #[pd (M p)] (.panicking ({v:=fc 22 (Y I x),recovered:=false}::older)) w fun e u' w'=>
   e=rt (tu #[])/\u'=.panicking ({v:=fc 22 (Y I x),recovered:=true}::older)/\w'=w.setCell p (Y I x):=by
 refine callsD_of_wpS func68 rfl fun c₀ cs hu=>?_
 apply wpS_seq;apply wpS_region;simp[wpOpsS,go_sem,recoverD,hu,ntmps68,Exit.thenS];apply wpS_seq;apply wpS_region;simp[wpOpsS,go_sem,Exit.thenS];refine wpS_cond (t:=true) (by simp[Act.eval,Array.replicate]) ?_;simp only[if_true];apply wpS_region;simp[wpOpsS,go_sem,cQ,hc,hz,bodyPostS,results,results68]
theorem catchPl_idle (p:Addr) (w:World) :
  CallsD prog 68 #[pd (M p)] .returning w fun e u' w'=>e=rt (tu #[])/\u'=.returning/\w'=w:=by
 refine callsD_of_wpS func68 rfl fun c₀ cs hu=>?_
 apply wpS_seq;apply wpS_region;simp[wpOpsS,go_sem,recoverD,hu,ntmps68,Exit.thenS];apply wpS_seq;apply wpS_region;simp[wpOpsS,go_sem,Exit.thenS];refine wpS_cond (t:=false) (by simp[Act.eval,Array.replicate]) ?_;simp only[Bool.false_eq_true,if_false];refine wpS_of_wp (wp_skip ?_)
 cases c₀
 simp_all [bodyPostS,results,results68]
theorem caughtPl_ret (F:FuncId) (cap:Array Value) (hF:∀w,Sem.run prog (callFunc F cap) w=.ok (.enter F cap) w) (P:Int->Option Addr->Nat->Nat->World->Prop) (w:World) (hP:∀m a n c w' i u j,(j=w.heap.size∨j=w.heap.size+1)->P m a n c w'->P m a n c (w'.setCell ⟨j,i,Q⟩ u))
  (h:Calls prog F cap ((w.alloc (U #[Y I 0,J Q 0 0] 29)).alloc (U #[Y I 0] 22)) fun e w'=>∃m a n c,e=rt (ag #[Y I m,J a n c])/\P m a n c w'/\Below ((w.alloc (U #[Y I 0,J Q 0 0] 29)).alloc (U #[Y I 0] 22)).heap.size ((w.alloc (U #[Y I 0,J Q 0 0] 29)).alloc (U #[Y I 0] 22)) w') :
  Calls prog 31 #[.func (.func F) #[] cap] w fun e w'=>∃m a n c,e=rt (tu #[ag #[Y I m,J a n c],Y I 0])/\P m a n c w'/\Below w.heap.size w w':=by
 have H:=Hi h;have HP:=Hi hP;have HF:=Hi hF;clear h hP hF;go_enter_defers func31,ntmps31
 go_wp2_with fail
 rw[HF.out,Oper.upon_enter];refine H.out.mono ?_;clear H;rintro e w1 ⟨m,a,n,c,rfl,hq,hb⟩;have e0:w1.cell? ⟨w.heap.size+1,0,Q⟩=Y I 0:=aB hb (aF _ _ 22 _ 0 _ sm rfl);have ef:∀j,w1.frozen? _=false:=fun j=>(hb.frozen (p:=⟨w.heap.size+1,j,Q⟩) sm).trans sm
 have c0:w1.cell? _=Y I 0:=aB hb (aB (aA br _) (aF w _ 29 _ 0 _ rfl rfl));have c1:w1.cell? _=J Q 0 0:=aB hb (aB (aA br _) (aF w _ 29 _ 1 _ rfl rfl));have cf:∀j,w1.frozen? _=false:=fun j=>(hb.frozen (p:=⟨w.heap.size,j,Q⟩) (by simp;omega)).trans (((aA (n7 (w.alloc (U #[Y I 0,J Q 0 0] 29)).heap.size (w.alloc (U #[Y I 0,J Q 0 0] 29))) (U #[Y I 0] 22)).frozen (p:=⟨w.heap.size,j,Q⟩) sm).trans sm)
 have HV:=Hi hq;have B1:=Hi (aC (aA (aA br _) _) hb);clear hb hq;go_wp2;refine leaves_cons (f:=68) (args:=#[pd (M ⟨w.heap.size+1,0,Q⟩)]) sm (by simp[go_sem]) ?_;refine(catchPl_idle ⟨w.heap.size+1,0,Q⟩ _).mono ?_;rintro e u' w'' ⟨rfl,rfl,rfl⟩;simp[Leaves,settle,results,results31,go_sem,e0,c0,c1];refine⟨_,_,_,_,⟨rfl,rfl,rfl,rfl⟩,?_,?_⟩
 ·exact HP.out _ _ _ _ _ 0 _ _ (.inr rfl) (HP.out _ _ _ _ _ 1 _ _ (.inl rfl) (HP.out _ _ _ _ _ 0 _ _ (.inl rfl) HV.out))
 ·exact aG (aG (aG B1.out nr _) nr _) sm _
theorem caughtPl_pan (F:FuncId) (cap:Array Value) (hF:∀w,Sem.run prog (callFunc F cap) w=.ok (.enter F cap) w) (x:Int) (w:World)
  (h:Calls prog F cap ((w.alloc (U #[Y I 0,J Q 0 0] 29)).alloc (U #[Y I 0] 22)) fun e w'=>e=pg [{v:=fc 22 (Y I x),recovered:=false}]/\Below ((w.alloc (U #[Y I 0,J Q 0 0] 29)).alloc (U #[Y I 0] 22)).heap.size ((w.alloc (U #[Y I 0,J Q 0 0] 29)).alloc (U #[Y I 0] 22)) w') :
  Kr 31 #[.func (.func F) #[] cap] w (tu #[ag #[Y I 0,J Q 0 0],Y I x]):=by
 have H:=Hi h;have HF:=Hi hF;clear h hF;go_enter_defers func31,ntmps31
 go_wp2_with fail
 rw[HF.out,Oper.upon_enter];refine H.out.mono ?_;clear H;rintro e w1 ⟨rfl,hb⟩;have e0:w1.cell? ⟨w.heap.size+1,0,Q⟩=Y I 0:=aB hb (aF _ _ 22 _ 0 _ sm rfl);have ef:w1.frozen? _=false:=(hb.frozen (p:=⟨w.heap.size+1,0,Q⟩) sm).trans sm;have c0:w1.cell? _=Y I 0:=aB hb (aB (aA br _) (aF w _ 29 _ 0 _ rfl rfl));have c1:w1.cell? _=J Q 0 0:=aB hb (aB (aA br _) (aF w _ 29 _ 1 _ rfl rfl));have B1:=aC (aA (aA br _) _) hb;clear hb;refine leaves_cons (f:=68) (args:=#[pd (M ⟨w.heap.size+1,0,Q⟩)]) sm (by simp[go_sem]) ?_;refine(sN ⟨w.heap.size+1,0,Q⟩ x 0 [] _ e0 ef).mono ?_;rintro e u' w'' ⟨rfl,rfl,rfl⟩;simp[Leaves,settle,results,results31,go_sem,e0,c0,c1];exact aG B1 sm _
end Go.Proofs.YtcgpkonfneofdaaGreatDoor
