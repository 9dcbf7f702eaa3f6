/- Conditions: those that each theorem states. -/
import Derived.Test.YtcgpkonfneofdaaGreatDoorSDkU
import Derived.Lib.AppendStr
set_option maxRecDepth 100000
set_option maxHeartbeats 8000000
namespace Go.Proofs.YtcgpkonfneofdaaGreatDoor
open Go.RowKit
theorem Tryz.info5b:(Tryz.prog.info? 5).map (fun i=>(i.zero,i.size,i.bytes))=some (some (.int .u8 0),1,1):=by kernel_rfl
theorem app_str_blk (w:World) (base:Nat) (ty:TypeId) (v:Value) (n:Nat) (xs:List Value) (hown:w.ownsRow base 5 1 v n xs) (s:ByteArray) (hlen:n+s.size≤140737488355328) (hbase:base≤w.heap.size) :
  ∃v' w',(Builtin.append_ #[52,9] ty #[v,.string s]).run Tryz.prog w=.ok v' w'∧w'.ownsRow base 5 1 v' (n+s.size) (xs++Lib.strCells s)∧w.grownBy w' v.ownBlock∧(v'.ownBlock=v.ownBlock∨v'.ownBlock=some w.heap.size):=by
 obtain⟨i,hi,hz,hs,hb⟩:=info_parts Tryz.info5b
 obtain⟨v',w',hr,h2,h3,_⟩:=Lib.run_append_own_string (P:=Tryz.prog) w base 52 9 ty 5 i Tryz.underlying52 Tryz.underlying9 hi hz hs hb v n xs hown s (by unfold maxLen;omega) hlen hbase
 refine⟨v',w',hr,h2,h3,?_⟩
 have hxl:xs.length=n:=by simpa using hown.1
 rcases hown.2 with ⟨rfl,rfl⟩ | ⟨g,cap,cur,rfl,hbg,hg,hnc,hcm,hcs,htake⟩
 ·by_cases hm:s.size=0
  ·have hf:=Lib.run_firstCells_string (P:=Tryz.prog) w 1 s
   rw[hm]at hf
   have hr2:(Builtin.append_ #[52,9] ty #[.slice none 0 0,.string s]).run Tryz.prog w=.ok (.slice none 0 0) w:=by
    simp[Builtin.append_,run_underlying Tryz.underlying52,run_underlying Tryz.underlying9,sizeOf,typeInfo,hi,hs,Builtin.lenOf,hm,hf]
   rw[hr2]at hr
   injection hr with hv _
   rw[←hv];exact .inl rfl
  ·have hr2:=run_append_nil_string (P:=Tryz.prog) w 52 9 ty 5 i (.int .u8 0) Tryz.underlying52 Tryz.underlying9 hi hz s (by omega) (by omega) (by rw[hb];omega)
   rw[hr2]at hr
   injection hr with hv _
   rw[←hv];exact .inr rfl
 ·by_cases hroom:n+s.size≤cap
  ·have hcs':cur.size=cap:=by simpa using hcs
   have hr2:=Lib.run_append_room_string (P:=Tryz.prog) w 52 9 ty 5 i Tryz.underlying52 Tryz.underlying9 hi hs g n cap cur hg s hroom (by omega)
   rw[hr2]at hr
   injection hr with hv _
   rw[←hv];exact .inl rfl
  ·have holds:∀j u,xs[j]?=some u→w.cell? ((⟨g,0,none⟩:Addr).add j)=some u:=hown.cells (g:=g) rfl
   have hr2:=Lib.run_append_grow_string (P:=Tryz.prog) w 52 9 ty 5 i (.int .u8 0) Tryz.underlying52 Tryz.underlying9 hi hz ⟨g,0,none⟩ n cap xs (by rw[hs];simpa using hxl) holds s (by omega) (by omega) (by rw[hb];exact growslice_fits (by omega) (by omega))
   rw[hr2]at hr
   injection hr with hv _
   rw[←hv];exact .inr rfl
theorem rB {w:World} {ops:Array Oper} {rest:List Oper} {o:Oper} {a:Act} {Q:Exit→Act→World→Prop} (hgd:o.guard=none) (sl x:Operand)
  (ho:o.op=.call {callee:=.builtin .append,args:=#[sl,x],argTypes:=#[52,9]}) (base:Nat)
  (v:Value) (n:Nat) (xs:List Value) (hs:a.eval sl=v) (hown:w.ownsRow base 5 1 v n xs) (s:ByteArray) (hx:a.eval x=.string s) (hlen:n+s.size≤140737488355328) (hbase:base≤w.heap.size)
  (h:∀v' w',w'.ownsRow base 5 1 v' (n+s.size) (xs++Lib.strCells s)→w.grownBy w' v.ownBlock→(v'.ownBlock=v.ownBlock∨v'.ownBlock=some w.heap.size)→wpList Tryz.prog ops Q rest (a.put o.dst v') w'):wpList Tryz.prog ops Q (o::rest) a w:=by
 refine wpList_plain hgd fun K hK=>?_
 obtain⟨v',w',hr,h2,h3,h4⟩:=app_str_blk w base o.type v n xs hown s hlen hbase
 unfold Oper.wp execOp
 simp only[ho,resolve,invoke,builtin,Sem.run_bind,Sem.run_pure,Result.andThen_ok,List.map_toArray,List.map_cons,List.map_nil,hs,hx,hr]
 exact hK _ _ (h v' w' h2 h3 h4)
structure Bld (B b:Nat) (v:Value) (l:List UInt8) (w:World):Prop where
 hp:∃p,(p=.pointer none∨p=.pointer (some ⟨b,0,none⟩))∧w.heap[b]?=some (.cells #[p,v] 54 (0,0))
 own:w.ownsRow B 5 1 v l.length (Lib.byteCells l)
 ne:v.ownBlock≠some b
 lo:B≤b
theorem Bld.is {B b:Nat} {v:Value} {l:List UInt8} {w:World} (h:Bld B b v l w):Lib.IsBuilder 54 5 B b (Lib.byteCells l) w:=by
 obtain⟨p,hp,hb⟩:=h.hp
 have hl:(Lib.byteCells l).length=l.length:=by simp[Lib.byteCells]
 rcases hp with rfl | rfl
 ·exact .inl ⟨h.lo,v,hb,by rw[hl];exact h.own,h.ne⟩
 ·exact .inr ⟨h.lo,v,hb,by rw[hl];exact h.own,h.ne⟩
theorem cc_any (b:Nat) (p v:Value) (hp:p=.pointer none∨p=.pointer (some ⟨b,0,none⟩)) (w:World) (hb:w.heap[b]?=some (.cells #[p,v] 54 (0,0))) :
  Calls Tryz.prog 42 #[.pointer (some ⟨b,0,none⟩)] w fun e w'=>e=.returned (.tuple #[])∧w'.heap[b]?=some (.cells #[.pointer (some ⟨b,0,none⟩),v] 54 (0,0))∧w.grownBy w' (some b)∧w'.heap.size=w.heap.size:=by
 have h0:w.cell? ⟨b,0,none⟩=some p:=by rw[Lib.cell_of_heap hb];rfl
 rcases hp with rfl | rfl
 ·refine(Any.Builder_copyCheck_fresh (P:=Tryz.prog) (ρ:=Tryz.lays156_ren) {Tryz.lays166 with} Tryz.Builder_Extra_156.toX72 b w h0 (by simp[World.shape?,hb];rfl) (Lib.frozen_of_heap hb 0)).mono ?_
  rintro e w' ⟨he,rfl⟩
  exact⟨he,by simp[World.setCell,Array.getElem?_modify,hb],aP w b 0 _,World.size_setCell _ _ _⟩
 ·refine(Any.Builder_copyCheck_used (P:=Tryz.prog) (ρ:=Tryz.lays156_ren) {Tryz.lays166 with} Tryz.Builder_Extra_156.toX72 b w h0).mono ?_
  rintro e w' ⟨he,rfl⟩
  exact⟨he,hb,⟨rfl,rfl,rfl,Nat.le_refl _,fun _ _ _=>rfl⟩,rfl⟩
structure Fr2 (b:Nat) (r:Option Nat) (w w':World):Prop where
 os:w'.os=w.os
 tape:w'.tape=w.tape
 output:w'.output=w.output
 size:w.heap.size≤w'.heap.size
 block:∀k,k<w.heap.size→k≠b→some k≠r→w'.heap[k]?=w.heap[k]?
theorem bytes_str (x:List UInt8):Lib.strCells ⟨x.toArray⟩=Lib.byteCells x:=by simp[Lib.strCells,Lib.byteCells]
theorem bytes_app (l x:List UInt8):Lib.byteCells (l++x)=Lib.byteCells l++Lib.byteCells x:=by simp[Lib.byteCells]
theorem bldWrite (B b:Nat) (v:Value) (l x:List UInt8) (w:World) (h:Bld B b v l w) (hlen:l.length+x.length≤1000000) (hB:B≤w.heap.size) :
  Calls Tryz.prog 20 #[.pointer (some ⟨b,0,none⟩),aL x] w fun e w'=>(∃n:Int,e=.returned (.tuple #[.int .i64 n,.nilIface]))∧∃v',Bld B b v' (l++x) w'∧(v'.ownBlock=v.ownBlock∨v'.ownBlock=some w.heap.size)∧Fr2 b v.ownBlock w w':=by
 obtain⟨p,hp,hb⟩:=h.hp
 have CC:=aJ (cc_any b p v hp w hb)
 have HO:=aJ h.own
 have HN:=aJ h.ne
 have HL:=aJ h.lo
 have hbl:b<w.heap.size:=(Array.getElem?_eq_some_iff.1 hb).1
 have hxs:(ByteArray.mk x.toArray).size=x.length:=by show x.toArray.size=_;simp
 clear h hp hb
 go_enter Tryz.func20,Tryz.ntmps20
 go_wp2_with fail
 refine CC.out.mono ?_
 rintro e w1 ⟨rfl,hbk,hg1,hs1⟩
 have hown1:w1.ownsRow B 5 1 v l.length (Lib.byteCells l):=HO.out.kept hg1 (Or.inr (fun e=>HN.out e))
 have c0:w1.cell? ⟨b,0,none⟩=some (.pointer (some ⟨b,0,none⟩)):=by rw[Lib.cell_of_heap hbk];rfl
 have c1:w1.cell? ⟨b,1,none⟩=some v:=by rw[Lib.cell_of_heap hbk];rfl
 have G1:=aJ hg1
 have S1:=aJ hs1
 clear hg1 hs1 CC HO
 go_wp2_with (first
  | (at_builtin;refine rB rfl _ _ rfl B _ _ _ rfl hown1 ⟨x.toArray⟩ rfl ?c3 ?c4 ?_)
  | go_in)
 case c3=>rw[hxs];omega
 case c4=>rw[S1.out];exact hB
 intro v' w2 hown' hgrow hv'
 have hlt:b<w1.heap.size:=by rw[S1.out];exact hbl
 have hb2:w2.heap[b]?=some (.cells #[.pointer (some ⟨b,0,none⟩),v] 54 (0,0)):=by
  rw[hgrow.block b hlt (fun e=>HN.out e.symm)]
  exact hbk
 have d1:w2.cell? ⟨b,1,none⟩=some v:=by rw[Lib.cell_of_heap hb2];rfl
 have f1:w2.frozen? ⟨b,1,none⟩=false:=Lib.frozen_of_heap hb2 1
 obtain⟨ao,n',cap,rfl⟩:∃ao n' cap,v'=.slice ao n' cap:=by
  rcases hown'.2 with ⟨hv,_⟩ | ⟨g,cap,cur,hv,_⟩
  ·exact⟨_,_,_,hv⟩
  ·exact⟨_,_,_,hv⟩
 have H2:=aJ hb2
 have HO2:=aJ hown'
 have HG2:=aJ hgrow
 have HV:=aJ hv'
 clear hb2 hown' hgrow hv' hbk hown1 c0 c1
 go_wp2
 go_ret2
 have hnb:(Value.slice ao n' cap).ownBlock≠some b:=by
  intro e
  rcases HV.out with hh | hh
  ·exact HN.out (hh.symm.trans e)
  ·rw[hh]at e;injection e with e;have:=S1.out;omega
 refine⟨⟨_,rfl⟩,_,⟨⟨_,.inr rfl,by simp[World.setCell,Array.getElem?_modify,H2.out]⟩,?_,hnb,HL.out⟩,?_,?_⟩
 ·have:=HO2.out
  rw[bytes_str]at this
  rw[List.length_append,bytes_app]
  exact this.kept (aP w2 b 1 _) (Or.inr (fun e=>hnb e))
 ·rw[←S1.out];exact HV.out
 ·exact⟨HG2.out.os.trans G1.out.os,HG2.out.tape.trans G1.out.tape,HG2.out.output.trans G1.out.output,by rw[World.size_setCell];have:=HG2.out.size;have:=S1.out;omega,fun k hk h1 h2=>by
   rw[dR _ _ _ _ _ h1,HG2.out.block k (by rw[S1.out];exact hk) h2,G1.out.block k hk (fun e=>by injection e with e;exact h1 e)]⟩
end Go.Proofs.YtcgpkonfneofdaaGreatDoor
