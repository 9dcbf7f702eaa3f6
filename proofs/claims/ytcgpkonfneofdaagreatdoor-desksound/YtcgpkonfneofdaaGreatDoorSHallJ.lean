/- Conditions: those that each theorem states. -/
import Derived.Test.YtcgpkonfneofdaaGreatDoorSHallI
set_option maxRecDepth 100000
set_option maxHeartbeats 8000000
namespace Go.Proofs.YtcgpkonfneofdaaGreatDoor
open Go.RowKit
theorem Tryz.info148:(Tryz.prog.info? 148).map (fun i=>(i.zero,i.size,i.bytes))=some (some (.agg #[.bool false,.slice none 0 0]),2,32):=by kernel_rfl
structure RsA where
 va:Option Addr
 vc:Nat
 d:Bool
 vs:List Int
def r0:RsA:=⟨none,0,false,[]⟩
def RsA.told (r:RsA):Bool×List Int:=(r.d,r.vs)
def kS (r:RsA):List Value:=[.bool r.d,.slice r.va r.vs.length r.vc]
def eM:List RsA→List Value
 | []=>[]
 | r::rl=>kS r++eM rl
theorem vD:∀(a b:List RsA),eM (a++b)=eM a++eM b
 | [],_=>rfl
 | r::a,b=>by simp[eM,vD a b]
theorem oU:∀(rl:List RsA),∀u∈eM rl,u.oneCell'=true
 | [],u,h=>by cases h
 | r::rl,u,h=>by
   simp only[eM,List.mem_append]at h
   rcases h with h | h
   ·simp only[kS,List.mem_cons,List.not_mem_nil,or_false]at h
    rcases h with rfl | rfl <;> rfl
   ·exact oU rl u h
theorem flatR_at:∀(rl:List RsA) (i:Nat),i<rl.length→(eM rl)[i*2]?=some (.bool (rl.getD i r0).d)∧(eM rl)[i*2+1]?=some (.slice (rl.getD i r0).va (rl.getD i r0).vs.length (rl.getD i r0).vc)
 | [],i,h=>absurd h (by simp)
 | r::rl,0,_=>by simp[eM,kS]
 | r::rl,i+1,h=>by
   have:=flatR_at rl i (by simpa using h)
   have e:eM (r::rl)=.bool r.d::.slice r.va r.vs.length r.vc::eM rl:=rfl
   rw[e]
   have e1:(i+1)*2=i*2+1+1:=by omega
   rw[e1]
   simpa using this
def ResRow (C:Nat) (w:World) (v:Value) (rl:List RsA):Prop:=
 w.ownsRow C 148 2 v rl.length (eM rl)∧∀r∈rl,IsAt C w.heap.size w r.va r.vs∧(r.vs≠[]→∀ad,r.va=some ad→v.ownBlock≠some ad.block)
theorem mH (C:Nat) (w:World):ResRow C w (.slice none 0 0) []:=⟨World.ownsRow_nil _ _ _ _,fun r hr=>by cases hr⟩
theorem IsAt.keptBy {lo hi:Nat} {w w':World} {row:Option Nat} {a:Option Addr} {zs:List Int} (h:IsAt lo hi w a zs) (hg:w.grownBy w' row) (hr:zs≠[]→∀ad,a=some ad→row≠some ad.block):IsAt lo hi w' a zs:=fun i hi'=>by
 obtain⟨b,off,ha,h1,h2,hc⟩:=h i hi'
 refine⟨b,off,ha,h1,h2,hg.cell hc (fun e=>?_)⟩
 exact hr (fun e'=>by rw[e']at hi';simp at hi') _ ha e.symm
theorem ResRow.kept {C:Nat} {w w':World} {v:Value} {rl:List RsA} {row:Option Nat} (h:ResRow C w v rl) (hg:w.grownBy w' row) (hr:∀j,row=some j→j<C):ResRow C w' v rl:=by
 refine⟨h.1.kept hg ?_,fun r hm=>?_⟩
 ·cases ho:v.ownBlock with
  | none=>exact .inl rfl
  | some j=>exact .inr (fun e=>by have:=(h.1.lt j ho).1;have:=hr j e.symm;omega)
 ·obtain⟨h1,h2⟩:=h.2 r hm
  refine⟨(IsAt.widen (lo:=C) (hi:=w.heap.size) ?_ (Nat.le_refl _) hg.size),h2⟩
  exact fun i hi=>by
   obtain⟨b,off,ha,q1,q2,hc⟩:=h1 i hi
   exact⟨b,off,ha,q1,q2,hg.cell hc (fun e=>by have:=hr b e.symm;omega)⟩
theorem ResRow.below {C:Nat} {w w':World} {v:Value} {rl:List RsA} (h:ResRow C w v rl) (hb:Below w.heap.size w w'):ResRow C w' v rl:=h.kept (bM hb none) (fun j e=>by cases e)
theorem ResRow.push {C:Nat} {w w':World} {v v':Value} {rl:List RsA} {r:RsA} (h:ResRow C w v rl) (ho:w'.ownsRow C 148 2 v' (rl.length+1) (eM rl++kS r)) (hg:w.grownBy w' v.ownBlock) (hv:v'.ownBlock=v.ownBlock∨v'.ownBlock=some w.heap.size) (hr:IsAt C w.heap.size w r.va r.vs) (hn:r.vs≠[]→∀ad,r.va=some ad→v.ownBlock≠some ad.block):ResRow C w' v' (rl++[r]):=by
 refine⟨by rw[vD,List.length_append];simpa[eM]using ho,fun x hx=>?_⟩
 have key:IsAt C w.heap.size w x.va x.vs∧(x.vs≠[]→∀ad,x.va=some ad→v.ownBlock≠some ad.block):=by
  rcases List.mem_append.1 hx with hx | hx
  ·exact h.2 x hx
  ·simp only[List.mem_singleton]at hx
   subst hx
   exact⟨hr,hn⟩
 refine⟨(key.1.keptBy hg key.2).widen (Nat.le_refl _) hg.size,fun hne ad ha=>?_⟩
 rcases hv with e | e
 ·rw[e];exact key.2 hne ad ha
 ·rw[e]
  obtain⟨b,off,ha',_,h2,_⟩:=key.1 0 (List.length_pos_iff.2 hne)
  rw[ha]at ha'
  injection ha' with ha'
  subst ha'
  intro e'
  injection e' with e'
  simp at e'
  omega
def IsRes (w:World) (a:Option Addr) (l:List (Bool×List Int)):Prop:=
 ∀i,i<l.length→∃b off va vc,a=some ⟨b,off,none⟩∧b<w.heap.size∧w.cell? ⟨b,off+i*2,none⟩=some (.bool (l.getD i (false,[])).1)∧w.cell? ⟨b,off+i*2+1,none⟩=some (.slice va (l.getD i (false,[])).2.length vc)∧IsInts w va (l.getD i (false,[])).2
theorem IsRes.below {w w':World} {a:Option Addr} {l:List (Bool×List Int)} (h:IsRes w a l) (hb:Below w.heap.size w w'):IsRes w' a l:=fun i hi=>by
 obtain⟨b,off,va,vc,ha,hlt,c0,c1,hz⟩:=h i hi
 exact⟨b,off,va,vc,ha,Nat.lt_of_lt_of_le hlt hb.size,aB hb c0,aB hb c1,hz.below hb⟩
theorem ResRow.res {C:Nat} {w:World} {v:Value} {rl:List RsA} (h:ResRow C w v rl):∃a cap,v=.slice a (rl.map RsA.told).length cap∧IsRes w a (rl.map RsA.told):=by
 have hl:(rl.map RsA.told).length=rl.length:=by simp
 rcases h.1.2 with ⟨rfl,h0⟩ | ⟨g,cap,cur,rfl,hb,hg,hnc,hcm,hcs,htake⟩
 ·exact⟨none,0,by rw[hl,h0],fun i hi=>by omega⟩
 ·refine⟨some ⟨g,0,none⟩,cap,by rw[hl],fun i hi=>?_⟩
  rw[hl]at hi
  obtain⟨e0,e1⟩:=flatR_at rl i hi
  have hc:=fun (j:Nat) (u:Value) (hu:(eM rl)[j]?=some u)=>h.1.cells (g:=g) rfl j u hu
  simp only[bC,Nat.zero_add]at hc
  have eg:(rl.map RsA.told).getD i (false,[])=(rl.getD i r0).told:=by simp[List.getD,hi]
  rw[eg]
  refine⟨g,0,(rl.getD i r0).va,(rl.getD i r0).vc,rfl,(Array.getElem?_eq_some_iff.1 hg).1,by simpa[RsA.told]using hc _ _ e0,by simpa[RsA.told]using hc _ _ e1,?_⟩
  have hm:rl.getD i r0∈rl:=by simp[List.getD,hi]
  exact(h.2 _ hm).1.ints (Nat.le_refl _)
theorem wX (w:World) (d:Bool) (u:Value) (s:Nat) (hs:s=w.heap.size):∀j x,[Value.bool d,u][j]?=some x→(w.alloc (.cells #[.bool d,u] 148)).cell? ((⟨s,0,none⟩:Addr).add j)=some x:=by
 subst hs
 intro j x hj
 match j with
 | 0=>simp at hj;subst hj;simp[bC]
 | 1=>simp at hj;subst hj;simp[bC]
 | j+2=>simp at hj
theorem rI {w:World} {ops:Array Oper} {o:Oper} {a:Act} {K:Act→World→Prop} {Q:Exit→Act→World→Prop} {E:Prop} (hgd:o.guard=none) (s x:Operand)
  (ho:o.op=.call {callee:=.builtin .append,args:=#[s,x],argTypes:=#[115,115]})
  (C:Nat) (v:Value) (rl:List RsA) (r:RsA) (hs:a.eval s=v) (hown:ResRow C w v rl)
  (ad:Addr) (c:Nat) (hx:a.eval x=.slice (some ad) 1 c) (hnews:∀j u,(kS r)[j]?=some u→w.cell? (ad.add j)=some u)
  (hr:IsAt C w.heap.size w r.va r.vs) (hn:r.vs≠[]→∀ad,r.va=some ad→v.ownBlock≠some ad.block)
  (hsm:rl.length≤100) (hbase:C≤w.heap.size)
  (h:∀v' w',ResRow C w' v' (rl++[r])→w.grownBy w' v.ownBlock→K (a.put o.dst v') w') :
  if Region.wanted o (yielded ops a.tmps)=true then Oper.wp Tryz.prog o a w K Q else E:=by
 obtain⟨i,hi,hz,hsz,hby⟩:=info_parts Tryz.info148
 have hw:Region.wanted o (yielded ops a.tmps)=true:=by simp[Region.wanted,hgd]
 rw[if_pos hw]
 obtain⟨v',w',hrun,h2,h3,_,h5⟩:=run_append_own_at (P:=Tryz.prog) w C 115 o.type 148 i _ 2 32 Tryz.underlying115 hi hz hsz hby rfl (by decide) v rl.length (eM rl) hown.1 ad 1 c (kS r) rfl hnews (fun u hu=>oU [r] u (by simpa[eM]using hu)) (by unfold maxLen;omega) (by omega) hbase
 unfold Oper.wp execOp
 simp only[ho,resolve,invoke,builtin,Sem.run_bind,Sem.run_pure,Result.andThen_ok,List.map_toArray,List.map_cons,List.map_nil,hs,hx,hrun]
 exact h v' w' (hown.push h2 h3 h5 hr hn) h3
theorem jG {w:World} {ops:Array Oper} {rest:List Oper} {o:Oper} {a:Act} {Q:Exit→Act→World→Prop} (hgd:o.guard=none) (s x:Operand)
  (ho:o.op=.call {callee:=.builtin .append,args:=#[s,x],argTypes:=#[115,115]})
  (C:Nat) (v:Value) (rl:List RsA) (r:RsA) (hs:a.eval s=v) (hown:ResRow C w v rl)
  (ad:Addr) (c:Nat) (hx:a.eval x=.slice (some ad) 1 c) (hnews:∀j u,(kS r)[j]?=some u→w.cell? (ad.add j)=some u)
  (hr:IsAt C w.heap.size w r.va r.vs) (hn:r.vs≠[]→∀ad,r.va=some ad→v.ownBlock≠some ad.block)
  (hsm:rl.length≤100) (hbase:C≤w.heap.size)
  (h:∀v' w',ResRow C w' v' (rl++[r])→w.grownBy w' v.ownBlock→wpList Tryz.prog ops Q rest (a.put o.dst v') w') :
  wpList Tryz.prog ops Q (o::rest) a w:=by
 obtain⟨i,hi,hz,hsz,hby⟩:=info_parts Tryz.info148
 refine wpList_append_own_at w hgd s x 115 ho C 148 i _ 2 32 Tryz.underlying115 hi hz hsz hby rfl (by decide) v rl.length (eM rl) hs hown.1 ad 1 c (kS r) hx rfl hnews (fun u hu=>oU [r] u (by simpa[eM]using hu)) (by unfold maxLen;omega) (by omega) hbase ?_
 intro v' w' h2 h3 _ h5
 exact h v' w' (hown.push h2 h3 h5 hr hn) h3
theorem clone8_own (zs:List Int) (ad:Addr) (zc:Nat) (w:World) (h4:zs.length≤8) (hz:IsInts w (some ad) zs) :
  Calls Tryz.prog 79 #[.slice (some ad) zs.length zc] w fun e w'=>∃v,e=.returned v∧w'.ownsRow w.heap.size 3 1 v zs.length (zs.map (Value.int .i64))∧Below w.heap.size w w':=by
 have q24:∀(w:World) (a:Option Addr) (n c n' c':Nat),(binOp .eql 41 (.slice a n c) (.slice none n' c')).run Tryz.prog w=.ok (.bool a.isNone) w:=fun w a n c n' c'=>Lib.run_eql_slice_nil w _ _ a n c n' c' Tryz.underlying41
 obtain⟨i0,hi,hz0,hz1,hz2⟩:=info_parts Tryz.info3
 have hnews:∀(o:Obj) j u,(zs.map (Value.int .i64))[j]?=some u→(w.alloc o).cell? (ad.add j)=some u:=by
  intro o j u hj
  have hlt:j<zs.length:=by
   have:=(List.getElem?_eq_some_iff.1 hj).1
   simpa using this
  obtain⟨b,off,ha,hb,hc⟩:=hz j hlt
  injection ha with ha
  subst ha
  rw[bC,World.cell?_alloc_lt _ _ _ hb,hc]
  simp[hlt]at hj
  simp[List.getD,hlt,hj]
 clear hz
 go_enter Tryz.func79,Tryz.ntmps79
 go_wp2_with (first
  | (at_builtin;refine wpList_append_own _ rfl _ _ 41 rfl w.heap.size 3 i0 (.int .i64 0) 1 8 Tryz.underlying41 hi hz0 hz1 hz2 rfl (by decide) _ 0 [] rfl (World.ownsRow_lit w #[] 0 (Nat.le_refl _) (by decide) rfl) ad zs.length zc (zs.map (Value.int .i64)) rfl (by simp) (hnews _) (ints_oneCell .i64 zs) (by unfold maxLen;omega) (by omega) (by simp) ?_;intro v' w1 hown' hgrow _)
  | go_in)
 have RB:Below w.heap.size w w1:=(aA (Below.refl _ _) _).grown hgrow (by simp) (fun j hj=>by have hj':some w.heap.size=some j:=hj;injection hj' with hj';exact Nat.le_of_eq hj')
 simp only[Nat.zero_add,List.nil_append]at hown'
 clear hgrow hnews
 go_wp2
 go_ret
 exact⟨_,rfl,hown',RB⟩
section
theorem fE {l:List TxA} (h:dD l=0):l.length≤8:=by
 unfold dD at h
 by_cases c:8<l.length
 ·rw[if_pos c]at h;omega
 ·omega
theorem nR {l:List TxA} (h:dD l=0) (k:Nat) (hk:k<l.length):eT (l.getD k x0)=0:=by
 have h8:=fE h
 unfold dD at h
 rw[if_neg (by omega)]at h
 exact nH eT l x0 h k hk
theorem sF {w:World} {base base':Nat} {e:TypeId} {size:Nat} {v:Value} {n:Nat} {xs:List Value} (h:w.ownsRow base e size v n xs) (hb:base'≤base):w.ownsRow base' e size v n xs:=by
 refine⟨h.1,?_⟩
 rcases h.2 with hn | ⟨g,cap,cur,e1,hbg,rest⟩
 ·exact .inl hn
 ·exact .inr ⟨g,cap,cur,e1,Nat.le_trans hb hbg,rest⟩
theorem pJ {C C':Nat} {w:World} {v:Value} {rl:List RsA} (h:ResRow C w v rl) (hc:C'≤C):ResRow C' w v rl:=⟨sF h.1 hc,fun r hr=>⟨(h.2 r hr).1.widen hc (Nat.le_refl _),(h.2 r hr).2⟩⟩
structure Kept (g O:Nat) (v:Value) (w w':World):Prop where
 os:w'.os=w.os
 tape:w'.tape=w.tape
 output:w'.output=w.output
 size:w.heap.size≤w'.heap.size
 block:∀b,b<w.heap.size→b≠g→b≠O→v.ownBlock≠some b→w'.heap[b]?=w.heap[b]?
theorem Kept.refl (g O:Nat) (v:Value) (w:World):Kept g O v w w:=⟨rfl,rfl,rfl,Nat.le_refl _,fun _ _ _ _ _=>rfl⟩
theorem Kept.on {g O:Nat} {v:Value} {a w w':World} {row:Option Nat} (h:Kept g O v a w) (hg:w.grownBy w' row) (hr:∀j,row=some j→j=g∨j=O∨v.ownBlock=some j):Kept g O v a w':=
 ⟨hg.os.trans h.os,hg.tape.trans h.tape,hg.output.trans h.output,Nat.le_trans h.size hg.size,fun b hb h1 h2 h3=>(hg.block b (Nat.lt_of_lt_of_le hb h.size) (fun e=>by
  rcases hr b e.symm with e | e | e
  ·exact h1 e
  ·exact h2 e
  ·exact h3 e)).trans (h.block b hb h1 h2 h3)⟩
theorem Kept.cell {g O:Nat} {v:Value} {a w:World} (h:Kept g O v a w) {b j:Nat} {u:Value} (hc:a.cell? ⟨b,j,none⟩=some u) (h1:b≠g) (h2:b≠O) (h3:v.ownBlock≠some b):w.cell? ⟨b,j,none⟩=some u:=
 (World.cell?_of_block (h.block b (World.block_lt_of_cell? a ⟨b,j,none⟩ hc) h1 h2 h3)).trans hc
theorem Kept.below {g O B:Nat} {v:Value} {a w:World} (h:Kept g O v a w) (hB:B≤a.heap.size) (h1:B≤g) (h2:B≤O) (h3:∀j,v.ownBlock=some j→B≤j):Below B a w:=
 ⟨h.os,h.tape,h.output,h.size,fun b hb=>h.block b (by omega) (by omega) (by omega) (fun e=>by have:=h3 b e;omega)⟩
section
variable {g O X C:Nat} {v st a0 a1 a2:Value} {V:World}
abbrev tO (g O X:Nat) (v st a0 a1 a2:Value) (V wx:World):Prop:=
 wx.cell? ⟨X,0,none⟩=some a0∧wx.cell? ⟨X,1,none⟩=some a1∧wx.cell? ⟨X,2,none⟩=some a2∧wx.cell? ⟨O,0,none⟩=some st∧(∀j,wx.frozen? ⟨O,j,none⟩=false)∧(∃u,wx.cell? ⟨O,1,none⟩=some u)∧Hid (Kept g O v V wx)
theorem xF {w1 w2:World} {row:Option Nat} (h:tO g O X v st a0 a1 a2 V w1) (hg:w1.grownBy w2 row) (hr:∀j,row=some j→j=g∨v.ownBlock=some j) (hO:O≠g) (hX:X≠g) (hvO:v.ownBlock≠some O) (hvX:v.ownBlock≠some X):tO g O X v st a0 a1 a2 V w2:=by
 obtain⟨h0,h1,h2,h3,h4,⟨u,h5⟩,h6⟩:=h
 have far:∀b j u,b≠g→v.ownBlock≠some b→w1.cell? ⟨b,j,none⟩=some u→w2.cell? ⟨b,j,none⟩=some u:=fun b j u n1 n2 hc=>hg.cell hc (fun e=>by
  rcases hr b e.symm with e | e
  ·exact n1 e
  ·exact n2 e)
 have hOlt:O<w1.heap.size:=World.block_lt_of_cell? w1 ⟨O,0,none⟩ h3
 refine⟨far _ _ _ hX hvX h0,far _ _ _ hX hvX h1,far _ _ _ hX hvX h2,far _ _ _ hO hvO h3,fun j=>?_,⟨u,far _ _ _ hO hvO h5⟩,h6.out.on hg (fun j e=>(hr j e).imp id .inr)⟩
 exact(World.frozen?_of_block (hg.block O hOlt (fun e=>by
  rcases hr O e.symm with e | e
  ·exact hO e
  ·exact hvO e))).trans (h4 j)
theorem held_drew {w1:World} (h:tO g O X v st a0 a1 a2 V w1):tO g O X v st a0 a1 a2 V w1.drew:=by
 obtain⟨h0,h1,h2,h3,h4,h5,h6⟩:=h
 exact⟨h0,h1,h2,h3,h4,h5,⟨h6.out.os,h6.out.tape,h6.out.output,h6.out.size,h6.out.block⟩⟩
theorem held_alloc {w1:World} (h:tO g O X v st a0 a1 a2 V w1) (o:Obj) (hO:O≠g) (hX:X≠g) (hvO:v.ownBlock≠some O) (hvX:v.ownBlock≠some X):tO g O X v st a0 a1 a2 V (w1.alloc o):=
 xF h (World.grownBy_alloc w1 o none) (fun j e=>by cases e) hO hX hvO hvX
theorem held_set {w1:World} (h:tO g O X v st a0 a1 a2 V w1) (u:Value) (hOX:O≠X):tO g O X v st a0 a1 a2 V (w1.setCell ⟨O,1,none⟩ u):=by
 obtain⟨h0,h1,h2,h3,h4,⟨u',h5⟩,h6⟩:=h
 refine⟨?_,?_,?_,?_,fun j=>?_,⟨u,?_⟩,h6.out.on (aP w1 O 1 u) (fun j e=>by injection e with e;exact .inr (.inl e.symm))⟩
 ·rw[World.cell?_setCell_far _ _ _ _ (by simpa using hOX)];exact h0
 ·rw[World.cell?_setCell_far _ _ _ _ (by simpa using hOX)];exact h1
 ·rw[World.cell?_setCell_far _ _ _ _ (by simpa using hOX)];exact h2
 ·simp[go_sem,h3]
 ·simp[go_sem,h4]
 ·simp[go_sem,h5]
theorem cut_round {B cap n:Nat} {wa X1 w1:World} {o:Obj} {v':Value} {xs:List Value} {rl:List RsA} {r:RsA} (hst:wa.ownsRow B 3 1 (.slice (some ⟨g,0,none⟩) n cap) n xs) (hX:X1.heap=(wa.alloc o).heap) (hg1:X1.grownBy w1 v.ownBlock) (hres:ResRow C w1 v' (rl++[r])) (hown:∀j,v.ownBlock=some j→C≤j) (hgC:g<C) (hOC:O<C) (hgO:O≠g) :
  (w1.setCell ⟨O,1,none⟩ v').ownsRow B 3 1 (.slice (some ⟨g,0,none⟩) n cap) n xs∧ResRow C (w1.setCell ⟨O,1,none⟩ v') v' (rl++[r]):=by
 have h1:X1.ownsRow B 3 1 (.slice (some ⟨g,0,none⟩) n cap) n xs:=by
  obtain⟨q,hq⟩:=hst.alloc o
  refine⟨q,?_⟩
  rw[hX]
  exact hq
 have h2:=h1.kept hg1 (.inr (fun e=>by have:=hown g e.symm;omega))
 exact⟨h2.kept (aP w1 O 1 v') (.inr (by simp[Value.ownBlock];omega)),hres.kept (aP w1 O 1 v') (fun j e=>by injection e with e;omega)⟩
end
variable (sa la:Option Addr) (sc lc:Nat) (s:List Int) (l:List TxA)
theorem tW (w:World) (hs:IsInts w sa s) (h8:s.length=8) (hl:IsTxs w la l) (hE:dD l=0) :
  Calls Tryz.prog 224 #[.slice sa s.length sc,.slice la l.length lc] w fun e w'=>∃g cap v rl,e=.returned (.agg #[.slice (some ⟨g,0,none⟩) s.length cap,v])∧w'.ownsRow w.heap.size 3 1 (.slice (some ⟨g,0,none⟩) s.length cap) s.length ((aU s l).map (Value.int .i64))∧ResRow w.heap.size w' v rl∧rl.map RsA.told=aT s l∧Below w.heap.size w w':=by
 have hl8:=fE hE
 obtain⟨ad,rfl⟩:∃ad,sa=some ad:=by
  obtain⟨b,off,h,_⟩:=hs 0 (by omega)
  exact⟨_,h⟩
 have HS:Hid (IsInts w (some ad) s):=hs
 have HL:Hid (IsTxs w la l):=hl
 have HE:Hid (dD l=0):=hE
 have H8:Hid (s.length=8):=h8
 clear hs hl hE h8
 go_enter Tryz.func224,Tryz.ntmps224
 go_wp2_with fail
 refine(clone8_own s ad sc _ (by have:=H8.out;omega) (HS.out.below (aA (Below.refl _ _) _))).mono ?_
 rintro e w1 ⟨cv,rfl,hcl,hb1⟩
 obtain⟨g,cap,rfl,hg1,hg2⟩:=hcl.form (by have:=H8.out;omega)
 have hg1':w.heap.size+1≤g:=by simpa using hg1
 have hst0:w1.ownsRow w.heap.size 3 1 (.slice (some ⟨g,0,none⟩) s.length cap) s.length (s.map (Value.int .i64)):=sF hcl (by simp)
 have wB1:Below w.heap.size w w1:=aC (aA (Below.refl _ _) _) hb1
 have t0:w1.cell? ⟨w.heap.size,0,none⟩=some (.slice none 0 0):=aB hb1 (by simp)
 have t1:w1.cell? ⟨w.heap.size,1,none⟩=some (.slice none 0 0):=aB hb1 (by simp)
 have tf:∀j,w1.frozen? ⟨w.heap.size,j,none⟩=false:=fun j=>(hb1.frozen (p:=⟨w.heap.size,j,none⟩) (by simp)).trans (by simp)
 clear hb1 hcl hg1
 have UW:Below w1.heap.size w1 (w1.alloc (.cells #[.slice (some ⟨g,0,none⟩) s.length cap,.slice none 0 0] 250)):=aA (Below.refl _ _) _
 have hwl:w.heap.size<w1.heap.size:=World.block_lt_of_cell? w1 _ t0
 have p0:=aB UW t0
 have p1:=aB UW t1
 have pf:∀j,(w1.alloc (.cells #[.slice (some ⟨g,0,none⟩) s.length cap,.slice none 0 0] 250)).frozen? ⟨w.heap.size,j,none⟩=false:=fun j=>(UW.frozen (p:=⟨w.heap.size,j,none⟩) hwl).trans (tf j)
 have q0:(w1.alloc (.cells #[.slice (some ⟨g,0,none⟩) s.length cap,.slice none 0 0] 250)).cell? ⟨w1.heap.size,0,none⟩=some (.slice (some ⟨g,0,none⟩) s.length cap):=by simp
 have q1:(w1.alloc (.cells #[.slice (some ⟨g,0,none⟩) s.length cap,.slice none 0 0] 250)).cell? ⟨w1.heap.size,1,none⟩=some (.slice none 0 0):=by simp
 have qf:∀j,(w1.alloc (.cells #[.slice (some ⟨g,0,none⟩) s.length cap,.slice none 0 0] 250)).frozen? ⟨w1.heap.size,j,none⟩=false:=fun j=>by simp
 have hstW:Hid ((w1.alloc (.cells #[.slice (some ⟨g,0,none⟩) s.length cap,.slice none 0 0] 250)).ownsRow w.heap.size 3 1 (.slice (some ⟨g,0,none⟩) s.length cap) s.length (s.map (Value.int .i64))):=hst0.alloc _
 have WB:Hid (Below w.heap.size w (w1.alloc (.cells #[.slice (some ⟨g,0,none⟩) s.length cap,.slice none 0 0] 250))):=aC wB1 UW
 have hWs:w1.heap.size+1≤(w1.alloc (.cells #[.slice (some ⟨g,0,none⟩) s.length cap,.slice none 0 0] 250)).heap.size:=by simp
 clear hst0 wB1 t0 t1 tf UW
 go_wp2
 generalize (w1.alloc (.cells #[.slice (some ⟨g,0,none⟩) s.length cap,.slice none 0 0] 250))=W at *
 generalize w1.heap.size=O at *
 go_loopw [7,13] (fun _ i wr=>∃(k:Nat) (v:Value) (rl:List RsA),k≤l.length∧i=.int .i64 k∧wr.cell? ⟨O,0,none⟩=some (.slice (some ⟨g,0,none⟩) s.length cap)∧wr.cell? ⟨O,1,none⟩=some v∧(∀j,wr.frozen? ⟨O,j,none⟩=false)∧wr.cell? ⟨w.heap.size,0,none⟩=some (.slice none 0 0)∧wr.cell? ⟨w.heap.size,1,none⟩=some (.slice none 0 0)∧(∀j,wr.frozen? ⟨w.heap.size,j,none⟩=false)∧Hid (wr.ownsRow w.heap.size 3 1 (.slice (some ⟨g,0,none⟩) s.length cap) s.length ((aU s (l.take k)).map (Value.int .i64)))∧Hid (ResRow (O+1) wr v rl)∧Hid (rl.map RsA.told=aT s (l.take k))∧Hid (Below w.heap.size w wr)∧O+1≤wr.heap.size) (fun _ i _=>l.length - (intOf i).toNat)
 case atStart=>exact⟨0,_,[],Nat.zero_le _,rfl,q0,q1,qf,p0,p1,pf,hstW,mH _ _,rfl,WB,hWs⟩
 case round=>
  obtain⟨k,v,rl,hk,rfl,o0,o1,of,b0,b1,bf,hst,hres,htold,hbl,hsz⟩:=hrel
  clear q0 q1 qf p0 p1 pf hstW WB hWs
  by_cases hlt:k<l.length
  ·obtain⟨b,off,rfl,hb,c0,c1,c2,hx⟩:=HL.out k hlt
   have d0:=aB hbl.out c0
   have d1:=aB hbl.out c1
   have d2:=aB hbl.out c2
   have HX:Hid (IsX w (l.getD k x0)):=hx
   have HC:Hid (eT (l.getD k x0)=0):=nR HE.out k hlt
   have HT1:Hid (aU s (l.take (k+1))=mT (aU s (l.take k)) (l.getD k x0)):=kR s l k hlt
   have HT2:Hid (aT s (l.take (k+1))=aT s (l.take k)++[(tN (aU s (l.take k)) (l.getD k x0),qC (aU s (l.take k)) (l.getD k x0))]):=pH s l k hlt
   have hs1:Hid ((aU s (l.take k)).length=s.length):=fM _ _
   have HR1:Hid ((aT s (l.take k)).length=k):=by show _=_;rw[jV,List.length_take];omega
   clear c0 c1 c2 hx
   generalize aU s (l.take k)=s1 at *
   generalize aT s (l.take k)=R1 at *
   generalize l.getD k x0=x at *
   obtain⟨ra,ga,sa,rc,gc,sc',rs,gs,ss⟩:=x
   simp only at d0 d1 d2
   have CA:Hid (∀w',Below w.heap.size w w'→w'.ownsRow w.heap.size 3 1 (.slice (some ⟨g,0,none⟩) s.length cap) s.length (s1.map (Value.int .i64))→Calls Tryz.prog 261 #[.slice (some ⟨g,0,none⟩) s.length cap,.agg #[.slice ra rs.length rc,.slice ga gs.length gc,.slice sa ss.length sc']] w' fun e w''=>∃va vc,e=.returned (.agg #[.bool (tN s1 ⟨ra,ga,sa,rc,gc,sc',rs,gs,ss⟩),.slice va (qC s1 ⟨ra,ga,sa,rc,gc,sc',rs,gs,ss⟩).length vc])∧IsAt w'.heap.size w''.heap.size w'' va (qC s1 ⟨ra,ga,sa,rc,gc,sc',rs,gs,ss⟩)∧w''.ownsRow w.heap.size 3 1 (.slice (some ⟨g,0,none⟩) s.length cap) s.length ((mT s1 ⟨ra,ga,sa,rc,gc,sc',rs,gs,ss⟩).map (Value.int .i64))∧w'.grownBy w'' (some g)):=fun w' h1 h2=>by
    have h:=apply_any ra ga sa rc gc sc' rs gs ss s1 g cap w.heap.size w w' HX.out.t h1 (Nat.le_refl _) (by rw[hs1.out];exact h2) (by rw[hs1.out];exact H8.out) HC.out
    rw[hs1.out]at h
    exact h
   generalize tN s1 ⟨ra,ga,sa,rc,gc,sc',rs,gs,ss⟩=D at *
   generalize qC s1 ⟨ra,ga,sa,rc,gc,sc',rs,gs,ss⟩=Z at *
   generalize mT s1 ⟨ra,ga,sa,rc,gc,sc',rs,gs,ss⟩=E1 at *
   have hrl:rl.length≤100:=by
    have h:=congrArg List.length htold.out
    rw[List.length_map,HR1.out]at h
    omega
   have hgO:O≠g:=by omega
   have hown:∀j,v.ownBlock=some j→O+1≤j∧j<wr.heap.size:=fun j hj=>hres.out.1.lt j hj
   have hvO:v.ownBlock≠some O:=fun e=>by have:=(hown O e).1;omega
   have hvX:v.ownBlock≠some wr.heap.size:=fun e=>by have:=(hown _ e).2;omega
   have hvw:v.ownBlock≠some w.heap.size:=fun e=>by have:=(hown _ e).1;omega
   go_upto_region 5 with fail
   have UV:Below wr.heap.size wr (wr.alloc (.cells #[.slice ra rs.length rc,.slice ga gs.length gc,.slice sa ss.length sc'] 95)):=aA (Below.refl _ _) _
   have x0':(wr.alloc (.cells #[.slice ra rs.length rc,.slice ga gs.length gc,.slice sa ss.length sc'] 95)).cell? ⟨wr.heap.size,0,none⟩=some (.slice ra rs.length rc):=by simp
   have x1':(wr.alloc (.cells #[.slice ra rs.length rc,.slice ga gs.length gc,.slice sa ss.length sc'] 95)).cell? ⟨wr.heap.size,1,none⟩=some (.slice ga gs.length gc):=by simp
   have x2':(wr.alloc (.cells #[.slice ra rs.length rc,.slice ga gs.length gc,.slice sa ss.length sc'] 95)).cell? ⟨wr.heap.size,2,none⟩=some (.slice sa ss.length sc'):=by simp
   have o0V:=aB UV o0
   have o1V:Hid ((wr.alloc (.cells #[.slice ra rs.length rc,.slice ga gs.length gc,.slice sa ss.length sc'] 95)).cell? ⟨O,1,none⟩=some v):=aB UV o1
   have ofV:∀j,(wr.alloc (.cells #[.slice ra rs.length rc,.slice ga gs.length gc,.slice sa ss.length sc'] 95)).frozen? ⟨O,j,none⟩=false:=fun j=>(UV.frozen (p:=⟨O,j,none⟩) (by show O<_;omega)).trans (of j)
   have b0V:=aB UV b0
   have b1V:=aB UV b1
   have bfV:∀j,(wr.alloc (.cells #[.slice ra rs.length rc,.slice ga gs.length gc,.slice sa ss.length sc'] 95)).frozen? ⟨w.heap.size,j,none⟩=false:=fun j=>(UV.frozen (p:=⟨w.heap.size,j,none⟩) (by show w.heap.size<_;omega)).trans (bf j)
   have hstV:Hid ((wr.alloc (.cells #[.slice ra rs.length rc,.slice ga gs.length gc,.slice sa ss.length sc'] 95)).ownsRow w.heap.size 3 1 (.slice (some ⟨g,0,none⟩) s.length cap) s.length (s1.map (Value.int .i64))):=hst.out.alloc _
   have hresV:Hid (ResRow (O+1) (wr.alloc (.cells #[.slice ra rs.length rc,.slice ga gs.length gc,.slice sa ss.length sc'] 95)) v rl):=hres.out.below UV
   have hblV:Hid (Below w.heap.size w (wr.alloc (.cells #[.slice ra rs.length rc,.slice ga gs.length gc,.slice sa ss.length sc'] 95))):=aC hbl.out UV
   have hszV:wr.heap.size+1=(wr.alloc (.cells #[.slice ra rs.length rc,.slice ga gs.length gc,.slice sa ss.length sc'] 95)).heap.size:=by simp
   clear UV o0 o1 of b0 b1 bf hst hres hbl d0 d1 d2
   generalize (wr.alloc (.cells #[.slice ra rs.length rc,.slice ga gs.length gc,.slice sa ss.length sc'] 95))=V at *
   generalize hXe:wr.heap.size=X at *
   have hXO:O≠X:=by omega
   have hXg:X≠g:=by omega
   have HS0:Hid (tO g O X v (.slice (some ⟨g,0,none⟩) s.length cap) (.slice ra rs.length rc) (.slice ga gs.length gc) (.slice sa ss.length sc') V V):=⟨x0',x1',x2',o0V,ofV,⟨v,o1V.out⟩,Kept.refl _ _ _ _⟩
   have hnv:Hid (∀(lo:Nat) (wz:World) va,X≤lo→IsAt lo wz.heap.size wz va Z→Z≠[]→∀ad,va=some ad→v.ownBlock≠some ad.block):=fun lo wz va hlo h hne ad ha e=>by
    obtain⟨b,off,ha',h1,_,_⟩:=h 0 (List.length_pos_iff.2 hne)
    rw[ha]at ha'
    injection ha' with ha'
    subst ha'
    have:=(hown _ e).2
    simp at this
    omega
   have HB0:Hid (V.cell? ⟨w.heap.size,0,none⟩=some (.slice none 0 0)∧V.cell? ⟨w.heap.size,1,none⟩=some (.slice none 0 0)∧∀j,V.frozen? ⟨w.heap.size,j,none⟩=false):=⟨b0V,b1V,bfV⟩
   clear b0V b1V bfV
   have o1V':=o1V.out
   have hOV:Hid (O+1≤V.drew.heap.size):=by show O+1≤V.heap.size;omega
   have hresVd:Hid (ResRow (O+1) V.drew v rl):=hresV.out.below (aD (Below.refl _ _))
   have hXV:Hid (X≤V.drew.heap.size):=by show X≤V.heap.size;omega
   have hCs:Hid (∀(wa:World) {o:Obj},V.drew.grownBy wa (some g)→O+1≤(wa.alloc o).heap.size):=fun wa o h=>by
    have:=h.size
    have h2:O+1≤V.drew.heap.size:=hOV.out
    simp only[World.size_alloc]
    omega
   go_region_law (first
     | (refine rI (by rfl) _ _ (by rfl) (O+1) v rl ⟨va,vc,D,Z⟩ (by rfl) (hra.out.below (aA (Below.refl _ _) _)) ⟨wa.heap.size,0,none⟩ 1 (by rfl) (wX wa D _ _ rfl) (IsAt.widen (IsAt.below hva (aA (Below.refl _ _) _)) hOV.out (by simp)) (hnv.out _ _ _ hXV.out hva) hrl (hCs.out wa hga) ?_;intro v' w1 hres1 hg1;obtain⟨g',cap',rfl,_,_⟩:=hres1.1.form (by simp);have oc:w1.cell? ⟨O,1,none⟩=some v:=hg1.cell (ob _) (fun e=>hvO e.symm);have Hb:Hid (tO g O X v (.slice (some ⟨g,0,none⟩) s.length cap) (.slice ra rs.length rc) (.slice ga gs.length gc) (.slice sa ss.length sc') V w1):=xF (held_alloc Ha.out _ hgO hXg hvO hvX) hg1 (fun j e=>.inr e) hgO hXg hvO hvX;have hfb:=Hb.out.2.2.2.2.1)
     | (go_simp;go_at_call 261;refine(CA.out _ hblV.out.drew hstV.out).mono ?_;rintro e wa ⟨va,vc,rfl,hva,hst2,hga⟩;have oa:wa.cell? ⟨O,1,none⟩=some v:=hga.cell o1V.out (by simp;omega);have ob:∀o,(wa.alloc o).cell? ⟨O,1,none⟩=some v:=(fun o=>aB (aA (Below.refl _ _) o) oa);have hra:Hid (ResRow (O+1) wa v rl):=hresVd.out.kept (row:=some g) hga (fun j e=>by injection e with e;omega);have Ha:Hid (tO g O X v (.slice (some ⟨g,0,none⟩) s.length cap) (.slice ra rs.length rc) (.slice ga gs.length gc) (.slice sa ss.length sc') V wa):=xF (held_drew HS0.out) hga (fun j e=>by injection e with e;exact .inl e.symm) hgO hXg hvO hvX;go_wp2_with fail))
   all_goals (
    have hL:(rl++[(⟨va,vc,D,Z⟩:RsA)]).length=rl.length+1:=by simp
    rw[hL]at hres1
    obtain⟨_,_,_,n0,nf,_,hkp0⟩:=held_set Hb.out (.slice (some ⟨g',0,none⟩) (rl.length+1) cap') hXO
    have n1:(w1.setCell ⟨O,1,none⟩ (.slice (some ⟨g',0,none⟩) (rl.length+1) cap')).cell? ⟨O,1,none⟩=some (.slice (some ⟨g',0,none⟩) (rl.length+1) cap'):=by simp[go_sem,oc]
    obtain⟨hst3,hres3⟩:=cut_round (g:=g) (O:=O) (C:=O+1) (v:=v) hst2 rfl hg1 hres1 (fun j e=>(hown j e).1) (by omega) (by omega) hgO
    have hkp:=hkp0.out
    have m0:=hkp.cell HB0.out.1 (by omega) (by omega) hvw
    have m1:=hkp.cell HB0.out.2.1 (by omega) (by omega) hvw
    have mf:∀j,(w1.setCell ⟨O,1,none⟩ (.slice (some ⟨g',0,none⟩) (rl.length+1) cap')).frozen? ⟨w.heap.size,j,none⟩=false:=fun j=>(World.frozen?_of_block (a:=⟨w.heap.size,j,none⟩) (hkp.block w.heap.size (by omega) (by omega) (by omega) hvw)).trans (HB0.out.2.2 j)
    have hst4:Hid ((w1.setCell ⟨O,1,none⟩ (.slice (some ⟨g',0,none⟩) (rl.length+1) cap')).ownsRow w.heap.size 3 1 (.slice (some ⟨g,0,none⟩) s.length cap) s.length ((aU s (l.take (k+1))).map (Value.int .i64))):=by rw[HT1.out];exact hst3
    have hres4:Hid (ResRow (O+1) (w1.setCell ⟨O,1,none⟩ (.slice (some ⟨g',0,none⟩) (rl.length+1) cap')) (.slice (some ⟨g',0,none⟩) (rl.length+1) cap') (rl++[⟨va,vc,D,Z⟩])):=hres3
    have ht4:Hid ((rl++[(⟨va,vc,D,Z⟩:RsA)]).map RsA.told=aT s (l.take (k+1))):=by show _=_;rw[HT2.out,List.map_append,htold.out];rfl
    have hbl4:Hid (Below w.heap.size w (w1.setCell ⟨O,1,none⟩ (.slice (some ⟨g',0,none⟩) (rl.length+1) cap'))):=hblV.out.trans (hkp.below (by omega) (by omega) (by omega) (fun j e=>by have:=(hown j e).1;omega))
    have hsz4:O+1≤(w1.setCell ⟨O,1,none⟩ (.slice (some ⟨g',0,none⟩) (rl.length+1) cap')).heap.size:=by have:=hkp.size;omega
    clear hkp hkp0 hst3 hres3 hg1 hres1 Hb hst2 hga hva oa ob oc hra Ha hfb o1V' o1V hstV hresV hblV hresVd HS0 HB0 x0' x1' x2' o0V ofV hCs hnv CA hL hown
    generalize (w1.setCell ⟨O,1,none⟩ (.slice (some ⟨g',0,none⟩) (rl.length+1) cap'))=WF at *
    go_wp2
    go_roundw
    case rel=>exact⟨k+1,_,rl++[⟨va,vc,D,Z⟩],by omega,by go_num,n0,n1,nf,m0,m1,mf,hst4,hres4,ht4,hbl4,hsz4⟩
    case measure=>simp[intOf];omega)
  ·have hkk:k=l.length:=by omega
   have hfin:Hid (wr.ownsRow w.heap.size 3 1 (.slice (some ⟨g,0,none⟩) s.length cap) s.length ((aU s l).map (Value.int .i64))):=by
    have h:=hst.out
    rw[hkk,List.take_of_length_le (Nat.le_refl _)]at h
    exact h
   have htl:Hid (rl.map RsA.told=aT s l):=by
    have h:=htold.out
    rw[hkk,List.take_of_length_le (Nat.le_refl _)]at h
    exact h
   obtain⟨xa,xc,hv⟩:∃xa xc,v=.slice xa rl.length xc:=by
    rcases hres.out.1.2 with ⟨h,h0⟩ | ⟨g2,cap2,cur,h,_⟩
    ·exact⟨none,0,by rw[h,h0]⟩
    ·exact⟨_,_,h⟩
   subst hv
   have hlt':¬k<l.length:=hlt
   clear hst htold
   go_wp2
   have r0:((wr.setCell ⟨w.heap.size,0,none⟩ (.slice (some ⟨g,0,none⟩) s.length cap)).setCell ⟨w.heap.size,1,none⟩ (.slice xa rl.length xc)).cell? ⟨w.heap.size,0,none⟩=some (.slice (some ⟨g,0,none⟩) s.length cap):=by simp[go_sem,b0]
   have r1:((wr.setCell ⟨w.heap.size,0,none⟩ (.slice (some ⟨g,0,none⟩) s.length cap)).setCell ⟨w.heap.size,1,none⟩ (.slice xa rl.length xc)).cell? ⟨w.heap.size,1,none⟩=some (.slice xa rl.length xc):=by simp[go_sem,b1]
   refine bodyPost_ret (v:=.agg #[.slice (some ⟨g,0,none⟩) s.length cap,.slice xa rl.length xc]) (by simp[results,Tryz.results224,go_sem,r0,r1]) rfl ⟨g,cap,_,rl,rfl,?_,?_,htl.out,?_⟩
   ·exact(hfin.out.kept (aP wr w.heap.size 0 _) (.inr (by simp[Value.ownBlock];omega))).kept (aP _ w.heap.size 1 _) (.inr (by simp[Value.ownBlock];omega))
   ·exact pJ ((hres.out.kept (aP wr w.heap.size 0 _) (fun j e=>by injection e with e;omega)).kept (aP _ w.heap.size 1 _) (fun j e=>by injection e with e;omega)) (by omega)
   ·exact aI (aI hbl.out (Nat.le_refl _) _) (Nat.le_refl _) _
end
section
theorem pZ (p:Addr) (w:World) :
  CallsD Tryz.prog 279 #[.pointer (some p)] .returning w fun e u' w'=>e=.returned (.tuple #[])∧u'=.returning∧w'=w:=by
 refine callsD_of_wpS Tryz.func279 rfl fun c₀ cs hu=>?_
 apply wpS_seq
 apply wpS_region
 simp[wpOpsS,go_sem,recoverD,hu,Tryz.ntmps279,Exit.thenS]
 apply wpS_seq
 apply wpS_region
 simp[wpOpsS,go_sem,Exit.thenS]
 refine wpS_cond (t:=false) (by simp[Act.eval,Array.replicate]) ?_
 simp only[Bool.false_eq_true,if_false]
 refine wpS_of_wp (wp_skip ?_)
 cases c₀
 simp_all [bodyPostS,results,Tryz.results279]
theorem qM (cap:Array Value) (sh:Nat) (bs:List Bool) (w:World)
  (h:Calls Tryz.prog 266 cap (w.alloc (.cells #[.int .i64 0] 22)) fun e w'=>∃g c,e=.returned (.slice (some ⟨g,0,none⟩) sh c)∧w'.ownsRow (w.alloc (.cells #[.int .i64 0] 22)).heap.size 4 1 (.slice (some ⟨g,0,none⟩) sh c) sh (bs.map Value.bool)∧Below (w.alloc (.cells #[.int .i64 0] 22)).heap.size (w.alloc (.cells #[.int .i64 0] 22)) w') :
  Calls Tryz.prog 265 #[.func (.func 266) #[] cap] w fun e w'=>∃g c,e=.returned (.tuple #[.slice (some ⟨g,0,none⟩) sh c,.int .i64 0])∧w'.ownsRow w.heap.size 4 1 (.slice (some ⟨g,0,none⟩) sh c) sh (bs.map Value.bool)∧Below w.heap.size w w':=by
 have hmf:∀(fn:Fn) (first cap:Array Value) (w:World),(Instr.makeFunc fn first cap).run Tryz.prog w=.ok (.func fn first cap) w:=fun _ _ _ _=>rfl
 have H:Hid (Calls Tryz.prog 266 cap (w.alloc (.cells #[.int .i64 0] 22)) fun e w'=>∃g c,e=.returned (.slice (some ⟨g,0,none⟩) sh c)∧w'.ownsRow (w.alloc (.cells #[.int .i64 0] 22)).heap.size 4 1 (.slice (some ⟨g,0,none⟩) sh c) sh (bs.map Value.bool)∧Below (w.alloc (.cells #[.int .i64 0] 22)).heap.size (w.alloc (.cells #[.int .i64 0] 22)) w'):=h
 clear h
 go_enter_defers Tryz.func265,Tryz.ntmps265
 go_wp2_with fail
 refine H.out.mono ?_
 clear H
 rintro e w1 ⟨g,c,rfl,ho,hb⟩
 have hc:w1.cell? ⟨w.heap.size,0,none⟩=some (.int .i64 0):=by rw[hb.cell (by simp)];simp
 have hf:w1.frozen? ⟨w.heap.size,0,none⟩=false:=by rw[hb.frozen (by simp)];simp
 have hB:Hid (Below w.heap.size w w1):=aC (aA (Below.refl _ _) _) hb
 have hgl:w.heap.size<g:=by
  have:=(ho.lt g (by simp[Value.ownBlock])).1
  simp at this
  omega
 have hO:Hid (w1.ownsRow w.heap.size 4 1 (.slice (some ⟨g,0,none⟩) sh c) sh (bs.map Value.bool)):=iQ ho (by simp)
 clear hb ho
 go_wp2
 refine leaves_cons (f:=279) (args:=#[.pointer (some ⟨w.heap.size,0,none⟩)]) (by simp) (by simp[go_sem]) ?_
 refine(pZ ⟨w.heap.size,0,none⟩ _).mono ?_
 rintro e u' w'' ⟨rfl,rfl,rfl⟩
 simp[Leaves,settle,results,Tryz.results265,go_sem,hc]
 refine⟨g,c,⟨rfl,rfl⟩,?_,?_⟩
 ·exact hO.out.kept (oR w1 w.heap.size 0 _) (.inr (by simp[Value.ownBlock];omega))
 ·exact aI hB.out (Nat.le_refl _) _
theorem nS (cap:Array Value) (sh:Nat) (bs:List Bool) (w:World)
  (h:Calls Tryz.prog 269 cap (w.alloc (.cells #[.int .i64 0] 22)) fun e w'=>∃g c,e=.returned (.slice (some ⟨g,0,none⟩) sh c)∧w'.ownsRow (w.alloc (.cells #[.int .i64 0] 22)).heap.size 4 1 (.slice (some ⟨g,0,none⟩) sh c) sh (bs.map Value.bool)∧Below (w.alloc (.cells #[.int .i64 0] 22)).heap.size (w.alloc (.cells #[.int .i64 0] 22)) w') :
  Calls Tryz.prog 265 #[.func (.func 269) #[] cap] w fun e w'=>∃g c,e=.returned (.tuple #[.slice (some ⟨g,0,none⟩) sh c,.int .i64 0])∧w'.ownsRow w.heap.size 4 1 (.slice (some ⟨g,0,none⟩) sh c) sh (bs.map Value.bool)∧Below w.heap.size w w':=by
 have hmf:∀(fn:Fn) (first cap:Array Value) (w:World),(Instr.makeFunc fn first cap).run Tryz.prog w=.ok (.func fn first cap) w:=fun _ _ _ _=>rfl
 have H:Hid (Calls Tryz.prog 269 cap (w.alloc (.cells #[.int .i64 0] 22)) fun e w'=>∃g c,e=.returned (.slice (some ⟨g,0,none⟩) sh c)∧w'.ownsRow (w.alloc (.cells #[.int .i64 0] 22)).heap.size 4 1 (.slice (some ⟨g,0,none⟩) sh c) sh (bs.map Value.bool)∧Below (w.alloc (.cells #[.int .i64 0] 22)).heap.size (w.alloc (.cells #[.int .i64 0] 22)) w'):=h
 clear h
 go_enter_defers Tryz.func265,Tryz.ntmps265
 go_wp2_with fail
 refine H.out.mono ?_
 clear H
 rintro e w1 ⟨g,c,rfl,ho,hb⟩
 have hc:w1.cell? ⟨w.heap.size,0,none⟩=some (.int .i64 0):=by rw[hb.cell (by simp)];simp
 have hf:w1.frozen? ⟨w.heap.size,0,none⟩=false:=by rw[hb.frozen (by simp)];simp
 have hB:Hid (Below w.heap.size w w1):=aC (aA (Below.refl _ _) _) hb
 have hgl:w.heap.size<g:=by
  have:=(ho.lt g (by simp[Value.ownBlock])).1
  simp at this
  omega
 have hO:Hid (w1.ownsRow w.heap.size 4 1 (.slice (some ⟨g,0,none⟩) sh c) sh (bs.map Value.bool)):=iQ ho (by simp)
 clear hb ho
 go_wp2
 refine leaves_cons (f:=279) (args:=#[.pointer (some ⟨w.heap.size,0,none⟩)]) (by simp) (by simp[go_sem]) ?_
 refine(pZ ⟨w.heap.size,0,none⟩ _).mono ?_
 rintro e u' w'' ⟨rfl,rfl,rfl⟩
 simp[Leaves,settle,results,Tryz.results265,go_sem,hc]
 refine⟨g,c,⟨rfl,rfl⟩,?_,?_⟩
 ·exact hO.out.kept (oR w1 w.heap.size 0 _) (.inr (by simp[Value.ownBlock];omega))
 ·exact aI hB.out (Nat.le_refl _) _
variable (la:Option Addr) (lc:Nat) (l:List TxA) (m n:Int)
end
theorem qX {α:Type} (L:List α) (x d:α) (i:Nat) (hi:i<(L++[x]).length):(i<L.length∧(L++[x]).getD i d=L.getD i d)∨(i=L.length∧(L++[x]).getD i d=x):=by
 rw[List.length_append,List.length_singleton]at hi
 by_cases h:i<L.length
 ·left;exact⟨h,by simp[List.getD,List.getElem?_append_left h]⟩
 ·right
  have e:i=L.length:=by omega
  subst e
  exact⟨rfl,by simp[List.getD]⟩
def gK (v5 v6 v7:Value) (b:Nat):Prop:=v5.ownBlock≠some b∧v6.ownBlock≠some b∧v7.ownBlock≠some b
theorem far_to5 {v5 v6 v7 v5':Value} {b sz:Nat} (h:gK v5 v6 v7 b) (hb:b<sz) (hv:v5'.ownBlock=v5.ownBlock∨v5'.ownBlock=some sz):gK v5' v6 v7 b:=by
 refine⟨?_,?_,?_⟩
 ·rcases hv with e | e
  ·rw[e];exact h.1
  ·rw[e];intro q;injection q with q;omega
 ·exact h.2.1
 ·exact h.2.2
theorem far_to6 {v5 v6 v7 v6':Value} {b sz:Nat} (h:gK v5 v6 v7 b) (hb:b<sz) (hv:v6'.ownBlock=v6.ownBlock∨v6'.ownBlock=some sz):gK v5 v6' v7 b:=by
 refine⟨?_,?_,?_⟩
 ·exact h.1
 ·rcases hv with e | e
  ·rw[e];exact h.2.1
  ·rw[e];intro q;injection q with q;omega
 ·exact h.2.2
theorem far_to7 {v5 v6 v7 v7':Value} {b sz:Nat} (h:gK v5 v6 v7 b) (hb:b<sz) (hv:v7'.ownBlock=v7.ownBlock∨v7'.ownBlock=some sz):gK v5 v6 v7' b:=by
 refine⟨?_,?_,?_⟩
 ·exact h.1
 ·exact h.2.1
 ·rcases hv with e | e
  ·rw[e];exact h.2.2
  ·rw[e];intro q;injection q with q;omega
def Inn (C:Nat) (w:World) (v5 v6 v7:Value) (sh:Nat) (F:Nat→Nat→Bool) (L:List (Nat×Nat)):Prop:=
 ∀i,i<L.length→C≤(L.getD i (0,0)).1∧(L.getD i (0,0)).1<w.heap.size∧gK v5 v6 v7 (L.getD i (0,0)).1∧∀j,j<sh→w.cell? ⟨(L.getD i (0,0)).1,j,none⟩=some (.bool (F i j))
def InnL (C:Nat) (w:World) (v5 v6 v7:Value) (l:List TxA) (L:List (Option Addr×Nat×Nat)):Prop:=
 ∀i,i<L.length→(L.getD i (none,0,0)).2.1=(jM (gX l i)).length∧IsLks w (L.getD i (none,0,0)).1 (jM (gX l i))∧∀ad,(L.getD i (none,0,0)).1=some ad→C≤ad.block∧ad.block<w.heap.size∧gK v5 v6 v7 ad.block
structure Tri (C:Nat) (w:World) (v5 v6 v7:Value) (sh:Nat) (l:List TxA) (L5 L6:List (Nat×Nat)) (L7:List (Option Addr×Nat×Nat)):Prop where
 o5:w.ownsRow C 104 1 v5 L5.length (L5.map fun p=>Value.slice (some ⟨p.1,0,none⟩) sh p.2)
 o6:w.ownsRow C 104 1 v6 L6.length (L6.map fun p=>Value.slice (some ⟨p.1,0,none⟩) sh p.2)
 o7:w.ownsRow C 265 1 v7 L7.length (L7.map fun p=>Value.slice p.1 p.2.1 p.2.2)
 d56:∀j,v5.ownBlock=some j→v6.ownBlock≠some j
 d57:∀j,v5.ownBlock=some j→v7.ownBlock≠some j
 d67:∀j,v6.ownBlock=some j→v7.ownBlock≠some j
 i5:Inn C w v5 v6 v7 sh (fun n k=>jS sh (gX l n) k) L5
 i6:Inn C w v5 v6 v7 sh (fun n k=>oL sh (gX l n) k) L6
 i7:InnL C w v5 v6 v7 l L7
theorem Inn.kept {C:Nat} {w w':World} {v5 v6 v7 u5 u6 u7:Value} {sh:Nat} {F:Nat→Nat→Bool} {L:List (Nat×Nat)} {row:Option Nat} (h:Inn C w v5 v6 v7 sh F L) (hg:w.grownBy w' row) (hr:∀b,C≤b→b<w.heap.size→gK v5 v6 v7 b→row≠some b∧gK u5 u6 u7 b):Inn C w' u5 u6 u7 sh F L:=fun i hi=>by
 obtain⟨h1,h2,h3,h4⟩:=h i hi
 obtain⟨q1,q2⟩:=hr _ h1 h2 h3
 exact⟨h1,Nat.lt_of_lt_of_le h2 hg.size,q2,fun j hj=>hg.cell (h4 j hj) (fun e=>q1 e.symm)⟩
theorem IsLks.keptBy {w w':World} {row:Option Nat} {a:Option Addr} {L:List (Int×Bool)} (h:IsLks w a L) (hg:w.grownBy w' row) (hr:∀ad,a=some ad→row≠some ad.block):IsLks w' a L:=fun i hi=>by
 obtain⟨b,off,ha,hlt,c0,c1⟩:=h i hi
 have hn:some b≠row:=fun e=>hr _ ha e.symm
 exact⟨b,off,ha,Nat.lt_of_lt_of_le hlt hg.size,hg.cell c0 hn,hg.cell c1 hn⟩
theorem InnL.kept {C:Nat} {w w':World} {v5 v6 v7 u5 u6 u7:Value} {l:List TxA} {L:List (Option Addr×Nat×Nat)} {row:Option Nat} (h:InnL C w v5 v6 v7 l L) (hg:w.grownBy w' row) (hr:∀b,C≤b→b<w.heap.size→gK v5 v6 v7 b→row≠some b∧gK u5 u6 u7 b):InnL C w' u5 u6 u7 l L:=fun i hi=>by
 obtain⟨h1,h2,h3⟩:=h i hi
 refine⟨h1,h2.keptBy hg (fun ad e=>?_),fun ad e=>?_⟩
 ·obtain⟨q1,q2,q3⟩:=h3 ad e
  exact(hr _ q1 q2 q3).1
 ·obtain⟨q1,q2,q3⟩:=h3 ad e
  exact⟨q1,Nat.lt_of_lt_of_le q2 hg.size,(hr _ q1 q2 q3).2⟩
theorem dN {C:Nat} {w w':World} {e size:Nat} {v:Value} {n:Nat} {xs:List Value} {row:Option Nat} (h:w.ownsRow C e size v n xs) (hg:w.grownBy w' row) (hr:∀j,v.ownBlock=some j→row≠some j):w'.ownsRow C e size v n xs:=by
 refine h.kept hg ?_
 cases ho:v.ownBlock with
 | none=>exact .inl rfl
 | some j=>exact .inr (fun q=>hr j ho q.symm)
theorem Tri.nil (C:Nat) (w:World) (sh:Nat) (l:List TxA):Tri C w (.slice none 0 0) (.slice none 0 0) (.slice none 0 0) sh l [] [] []:=
 ⟨World.ownsRow_nil _ _ _ _,World.ownsRow_nil _ _ _ _,World.ownsRow_nil _ _ _ _,(fun j e=>by cases e),(fun j e=>by cases e),(fun j e=>by cases e),fun i hi=>absurd hi (Nat.not_lt_zero _),fun i hi=>absurd hi (Nat.not_lt_zero _),fun i hi=>absurd hi (Nat.not_lt_zero _)⟩
theorem Tri.on {C:Nat} {w w':World} {v5 v6 v7:Value} {sh:Nat} {l:List TxA} {L5 L6:List (Nat×Nat)} {L7:List (Option Addr×Nat×Nat)} {row:Option Nat} (T:Tri C w v5 v6 v7 sh l L5 L6 L7) (hg:w.grownBy w' row) (hr:∀j,row=some j→j<C):Tri C w' v5 v6 v7 sh l L5 L6 L7:=by
 have far:∀b,C≤b→row≠some b:=fun b hb e=>by have:=hr b e;omega
 exact⟨dN T.o5 hg (fun j e=>far j (T.o5.lt j e).1),dN T.o6 hg (fun j e=>far j (T.o6.lt j e).1),dN T.o7 hg (fun j e=>far j (T.o7.lt j e).1),T.d56,T.d57,T.d67,T.i5.kept hg (fun b h1 _ h3=>⟨far b h1,h3⟩),T.i6.kept hg (fun b h1 _ h3=>⟨far b h1,h3⟩),T.i7.kept hg (fun b h1 _ h3=>⟨far b h1,h3⟩)⟩
theorem Tri.below {C:Nat} {w w':World} {v5 v6 v7:Value} {sh:Nat} {l:List TxA} {L5 L6:List (Nat×Nat)} {L7:List (Option Addr×Nat×Nat)} (T:Tri C w v5 v6 v7 sh l L5 L6 L7) (hb:Below w.heap.size w w'):Tri C w' v5 v6 v7 sh l L5 L6 L7:=T.on (bM hb none) (fun j e=>by cases e)
theorem lH {v v':Value} {sz:Nat} {u:Value} (hv:v'.ownBlock=v.ownBlock∨v'.ownBlock=some sz) (h:∀j,v.ownBlock=some j→u.ownBlock≠some j) (hu:∀j,u.ownBlock=some j→j<sz):∀j,v'.ownBlock=some j→u.ownBlock≠some j:=fun j e q=>by
 rcases hv with x | x
 ·rw[x]at e;exact h j e q
 ·rw[x]at e;injection e with e;have:=hu j q;omega
theorem Tri.push5 {C:Nat} {w w':World} {v5 v6 v7 v5':Value} {sh:Nat} {l:List TxA} {L5 L6:List (Nat×Nat)} {L7:List (Option Addr×Nat×Nat)} (T:Tri C w v5 v6 v7 sh l L5 L6 L7) (g c:Nat)
  (ho:w'.ownsRow C 104 1 v5' (L5.length+1) ((L5.map fun p=>Value.slice (some ⟨p.1,0,none⟩) sh p.2)++[.slice (some ⟨g,0,none⟩) sh c])) (hg:w.grownBy w' v5.ownBlock) (hv:v5'.ownBlock=v5.ownBlock∨v5'.ownBlock=some w.heap.size)
  (h1:C≤g) (h2:g<w.heap.size) (h3:gK v5 v6 v7 g) (h4:∀j,j<sh→w.cell? ⟨g,j,none⟩=some (.bool (jS sh (gX l L5.length) j))):Tri C w' v5' v6 v7 sh l (L5++[(g,c)]) L6 L7:=by
 have hf:∀b,C≤b→b<w.heap.size→gK v5 v6 v7 b→v5.ownBlock≠some b∧gK v5' v6 v7 b:=fun b _ q2 q3=>⟨q3.1,far_to5 q3 q2 hv⟩
 refine⟨by rw[List.length_append,List.map_append];exact ho,dN T.o6 hg (fun j e q=>T.d56 j q e),dN T.o7 hg (fun j e q=>T.d57 j q e),lH hv T.d56 (fun j e=>(T.o6.lt j e).2),lH hv T.d57 (fun j e=>(T.o7.lt j e).2),T.d67,fun i hi=>?_,T.i6.kept hg hf,T.i7.kept hg hf⟩
 rcases qX L5 (g,c) (0,0) i hi with ⟨q1,q2⟩ | ⟨q1,q2⟩
 ·rw[q2];exact(T.i5.kept hg hf) i q1
 ·rw[q2,q1];exact⟨h1,Nat.lt_of_lt_of_le h2 hg.size,(hf g h1 h2 h3).2,fun j hj=>hg.cell (h4 j hj) (fun e=>h3.1 e.symm)⟩
theorem Tri.push6 {C:Nat} {w w':World} {v5 v6 v7 v6':Value} {sh:Nat} {l:List TxA} {L5 L6:List (Nat×Nat)} {L7:List (Option Addr×Nat×Nat)} (T:Tri C w v5 v6 v7 sh l L5 L6 L7) (g c:Nat)
  (ho:w'.ownsRow C 104 1 v6' (L6.length+1) ((L6.map fun p=>Value.slice (some ⟨p.1,0,none⟩) sh p.2)++[.slice (some ⟨g,0,none⟩) sh c])) (hg:w.grownBy w' v6.ownBlock) (hv:v6'.ownBlock=v6.ownBlock∨v6'.ownBlock=some w.heap.size)
  (h1:C≤g) (h2:g<w.heap.size) (h3:gK v5 v6 v7 g) (h4:∀j,j<sh→w.cell? ⟨g,j,none⟩=some (.bool (oL sh (gX l L6.length) j))):Tri C w' v5 v6' v7 sh l L5 (L6++[(g,c)]) L7:=by
 have hf:∀b,C≤b→b<w.heap.size→gK v5 v6 v7 b→v6.ownBlock≠some b∧gK v5 v6' v7 b:=fun b _ q2 q3=>⟨q3.2.1,far_to6 q3 q2 hv⟩
 refine⟨dN T.o5 hg (fun j e q=>T.d56 j e q),by rw[List.length_append,List.map_append];exact ho,dN T.o7 hg (fun j e q=>T.d67 j q e),fun j e q=>(lH hv (fun j e q=>T.d56 j q e) (fun j e=>(T.o5.lt j e).2)) j q e,T.d57,lH hv T.d67 (fun j e=>(T.o7.lt j e).2),T.i5.kept hg hf,fun i hi=>?_,T.i7.kept hg hf⟩
 rcases qX L6 (g,c) (0,0) i hi with ⟨q1,q2⟩ | ⟨q1,q2⟩
 ·rw[q2];exact(T.i6.kept hg hf) i q1
 ·rw[q2,q1];exact⟨h1,Nat.lt_of_lt_of_le h2 hg.size,(hf g h1 h2 h3).2,fun j hj=>hg.cell (h4 j hj) (fun e=>h3.2.1 e.symm)⟩
theorem Tri.push7 {C:Nat} {w w':World} {v5 v6 v7 v7':Value} {sh:Nat} {l:List TxA} {L5 L6:List (Nat×Nat)} {L7:List (Option Addr×Nat×Nat)} (T:Tri C w v5 v6 v7 sh l L5 L6 L7) (a:Option Addr) (c:Nat)
  (ho:w'.ownsRow C 265 1 v7' (L7.length+1) ((L7.map fun p=>Value.slice p.1 p.2.1 p.2.2)++[.slice a (jM (gX l L7.length)).length c])) (hg:w.grownBy w' v7.ownBlock) (hv:v7'.ownBlock=v7.ownBlock∨v7'.ownBlock=some w.heap.size)
  (h1:IsLks w a (jM (gX l L7.length))) (h2:∀ad,a=some ad→C≤ad.block∧ad.block<w.heap.size∧gK v5 v6 v7 ad.block):Tri C w' v5 v6 v7' sh l L5 L6 (L7++[(a,(jM (gX l L7.length)).length,c)]):=by
 have hf:∀b,C≤b→b<w.heap.size→gK v5 v6 v7 b→v7.ownBlock≠some b∧gK v5 v6 v7' b:=fun b _ q2 q3=>⟨q3.2.2,far_to7 q3 q2 hv⟩
 refine⟨dN T.o5 hg (fun j e q=>T.d57 j e q),dN T.o6 hg (fun j e q=>T.d67 j e q),by rw[List.length_append,List.map_append];exact ho,T.d56,fun j e q=>(lH hv (fun j e q=>T.d57 j q e) (fun j e=>(T.o5.lt j e).2)) j q e,fun j e q=>(lH hv (fun j e q=>T.d67 j q e) (fun j e=>(T.o6.lt j e).2)) j q e,T.i5.kept hg hf,T.i6.kept hg hf,fun i hi=>?_⟩
 rcases qX L7 (a,(jM (gX l L7.length)).length,c) (none,0,0) i hi with ⟨q1,q2⟩ | ⟨q1,q2⟩
 ·rw[q2];exact(T.i7.kept hg hf) i q1
 ·rw[q2,q1]
  refine⟨rfl,h1.keptBy hg (fun ad e=>(hf _ (h2 ad e).1 (h2 ad e).2.1 (h2 ad e).2.2).1),fun ad e=>?_⟩
  obtain⟨p1,p2,p3⟩:=h2 ad e
  exact⟨p1,Nat.lt_of_lt_of_le p2 hg.size,(hf _ p1 p2 p3).2⟩
theorem Tri.br5 {C:Nat} {w:World} {v5 v6 v7:Value} {sh:Nat} {l:List TxA} {L5 L6:List (Nat×Nat)} {L7:List (Option Addr×Nat×Nat)} (T:Tri C w v5 v6 v7 sh l L5 L6 L7):∃a cap,v5=.slice a L5.length cap∧IsBR C w a L5.length sh (fun n k=>jS sh (gX l n) k):=by
 rcases T.o5.2 with ⟨h,h0⟩ | ⟨g,cap,cur,h,hb,hg,_⟩
 ·exact⟨none,0,by rw[h,h0],fun i hi=>by omega⟩
 ·subst h
  refine⟨some ⟨g,0,none⟩,cap,rfl,fun i hi=>?_⟩
  obtain⟨q1,q2,q3,q4⟩:=T.i5 i hi
  have hc:=T.o5.cells (g:=g) rfl i (.slice (some ⟨(L5.getD i (0,0)).1,0,none⟩) sh (L5.getD i (0,0)).2) (by simp[List.getD,hi])
  rw[bC,Nat.zero_add]at hc
  exact⟨g,0,(L5.getD i (0,0)).1,0,(L5.getD i (0,0)).2,rfl,⟨hb,(Array.getElem?_eq_some_iff.1 hg).1⟩,⟨q1,q2⟩,by rw[Nat.zero_add];exact hc,fun k hk=>by rw[Nat.zero_add];exact q4 k hk⟩
theorem Tri.br6 {C:Nat} {w:World} {v5 v6 v7:Value} {sh:Nat} {l:List TxA} {L5 L6:List (Nat×Nat)} {L7:List (Option Addr×Nat×Nat)} (T:Tri C w v5 v6 v7 sh l L5 L6 L7):∃a cap,v6=.slice a L6.length cap∧IsBR C w a L6.length sh (fun n k=>oL sh (gX l n) k):=by
 rcases T.o6.2 with ⟨h,h0⟩ | ⟨g,cap,cur,h,hb,hg,_⟩
 ·exact⟨none,0,by rw[h,h0],fun i hi=>by omega⟩
 ·subst h
  refine⟨some ⟨g,0,none⟩,cap,rfl,fun i hi=>?_⟩
  obtain⟨q1,q2,q3,q4⟩:=T.i6 i hi
  have hc:=T.o6.cells (g:=g) rfl i (.slice (some ⟨(L6.getD i (0,0)).1,0,none⟩) sh (L6.getD i (0,0)).2) (by simp[List.getD,hi])
  rw[bC,Nat.zero_add]at hc
  exact⟨g,0,(L6.getD i (0,0)).1,0,(L6.getD i (0,0)).2,rfl,⟨hb,(Array.getElem?_eq_some_iff.1 hg).1⟩,⟨q1,q2⟩,by rw[Nat.zero_add];exact hc,fun k hk=>by rw[Nat.zero_add];exact q4 k hk⟩
theorem Tri.lr7 {C:Nat} {w:World} {v5 v6 v7:Value} {sh:Nat} {l:List TxA} {L5 L6:List (Nat×Nat)} {L7:List (Option Addr×Nat×Nat)} (T:Tri C w v5 v6 v7 sh l L5 L6 L7) (hn:L7.length=l.length):∃a cap,v7=.slice a L7.length cap∧IsLR C w a l:=by
 rcases T.o7.2 with ⟨h,h0⟩ | ⟨g,cap,cur,h,hb,hg,_⟩
 ·exact⟨none,0,by rw[h,h0],fun i hi=>by omega⟩
 ·subst h
  refine⟨some ⟨g,0,none⟩,cap,rfl,fun i hi=>?_⟩
  have hi7:i<L7.length:=by omega
  obtain⟨q1,q2,q3⟩:=T.i7 i hi7
  have hc:=T.o7.cells (g:=g) rfl i (.slice (L7.getD i (none,0,0)).1 (L7.getD i (none,0,0)).2.1 (L7.getD i (none,0,0)).2.2) (by simp[List.getD,hi7])
  rw[bC,Nat.zero_add,q1]at hc
  exact⟨g,0,(L7.getD i (none,0,0)).1,(L7.getD i (none,0,0)).2.2,rfl,⟨hb,(Array.getElem?_eq_some_iff.1 hg).1⟩,by rw[Nat.zero_add];exact hc,q2,fun ad e=>(q3 ad e).1⟩
theorem cQ {w:World} {ops:Array Oper} {o:Oper} {a:Act} {K:Act→World→Prop} {Q:Exit→Act→World→Prop} {E:Prop} (hgd:o.guard=none) (s x:Operand) (t e:TypeId)
  (ho:o.op=.call {callee:=.builtin .append,args:=#[s,x],argTypes:=#[t,t]}) (i:TypeInfo) (z:Value) (ht:Tryz.prog.underlying t=some (.slice e)) (hi:Tryz.prog.info? e=some i) (hz:i.zero=some z) (h1:i.size=1) (h24:i.bytes=24) (hzs:z.cells.size=1)
  (C:Nat) (v:Value) (n:Nat) (xs:List Value) (hs:a.eval s=v) (hown:w.ownsRow C e 1 v n xs)
  (ad:Addr) (c:Nat) (u:Value) (hx:a.eval x=.slice (some ad) 1 c) (hnews:w.cell? ad=some u) (hu:u.oneCell'=true)
  (hsm:n≤100) (hbase:C≤w.heap.size)
  (h:∀v' w',w'.ownsRow C e 1 v' (n+1) (xs++[u])→w.grownBy w' v.ownBlock→(v'.ownBlock=v.ownBlock∨v'.ownBlock=some w.heap.size)→K (a.put o.dst v') w') :
  if Region.wanted o (yielded ops a.tmps)=true then Oper.wp Tryz.prog o a w K Q else E:=by
 have hw:Region.wanted o (yielded ops a.tmps)=true:=by simp[Region.wanted,hgd]
 rw[if_pos hw]
 obtain⟨v',w',hrun,h2,h3,_,h5⟩:=run_append_own_at (P:=Tryz.prog) w C t o.type e i z 1 24 ht hi hz h1 h24 hzs (by decide) v n xs hown ad 1 c [u] rfl (fun j q hj=>by
  match j,hj with
  | 0,hj=>simp at hj;subst hj;simpa[Addr.add]using hnews
  | j+1,hj=>simp at hj) (fun q hq=>by simp at hq;subst hq;exact hu) (by unfold maxLen;omega) (by omega) hbase
 unfold Oper.wp execOp
 simp only[ho,resolve,invoke,builtin,Sem.run_bind,Sem.run_pure,Result.andThen_ok,List.map_toArray,List.map_cons,List.map_nil,hs,hx,hrun]
 exact h v' w' h2 h3 h5
theorem Tryz.info104:(Tryz.prog.info? 104).map (fun i=>(i.zero,i.size,i.bytes))=some (some (.slice none 0 0),1,24):=by kernel_rfl
theorem Tryz.info265:(Tryz.prog.info? 265).map (fun i=>(i.zero,i.size,i.bytes))=some (some (.slice none 0 0),1,24):=by kernel_rfl
theorem pT (a:Option Addr) (k c:Nat) (w:World):Calls Tryz.prog 231 #[.slice a k c,.int .i64 0] w fun e' w'=>e'=.returned (.slice a k c)∧w'=w.alloc (.cells #[.int .i64 0] 22):=by
 go_enter Tryz.func231,Tryz.ntmps231
 go_wp2_with fail
 refine(aO [0] _ 1 _ (by simp) rfl (cD _ _ _ rfl)).mono ?_
 rintro e w' ⟨rfl,rfl⟩
 go_wp2
 go_ret
 exact⟨rfl,rfl⟩
theorem part_own (la:Option Addr) (lc:Nat) (l:List TxA) (sh k:Nat) (w:World) (hl:IsTxs w la l) (he:pnE sh l k=0) :
  Calls Tryz.prog 232 #[.agg #[.int .i64 sh,.slice la l.length lc],.int .i64 k] w fun e w'=>∃g c,e=.returned (.tuple #[.slice (some ⟨g,0,none⟩) sh c,.int .i64 0])∧w'.ownsRow w.heap.size 4 1 (.slice (some ⟨g,0,none⟩) sh c) sh ((bN sh (bJ (aQ l k))).map Value.bool)∧Below w.heap.size w w':=by
 have hmf:∀(fn:Fn) (first cap:Array Value) (w:World),(Instr.makeFunc fn first cap).run Tryz.prog w=.ok (.func fn first cap) w:=fun _ _ _ _=>rfl
 have hg:Below w.heap.size w (((w.alloc (.cells #[.int .i64 sh,.slice la l.length lc] 29)).alloc (.cells #[.int .i64 k] 3)).alloc (.cells #[.int .i64 0] 22)):=aA (aA (aA (Below.refl _ _) _) _) _
 have h0:(((w.alloc (.cells #[.int .i64 sh,.slice la l.length lc] 29)).alloc (.cells #[.int .i64 k] 3)).alloc (.cells #[.int .i64 0] 22)).cell? ⟨w.heap.size,0,none⟩=some (.int .i64 sh):=aB (aA (Below.refl _ _) _) (aB (aA (Below.refl _ _) _) (aG w _ 29 _ 0 _ rfl rfl))
 have h1:(((w.alloc (.cells #[.int .i64 sh,.slice la l.length lc] 29)).alloc (.cells #[.int .i64 k] 3)).alloc (.cells #[.int .i64 0] 22)).cell? ⟨w.heap.size,1,none⟩=some (.slice la l.length lc):=aB (aA (Below.refl _ _) _) (aB (aA (Below.refl _ _) _) (aG w _ 29 _ 1 _ rfl rfl))
 have h2:(((w.alloc (.cells #[.int .i64 sh,.slice la l.length lc] 29)).alloc (.cells #[.int .i64 k] 3)).alloc (.cells #[.int .i64 0] 22)).cell? ⟨w.heap.size+1,0,none⟩=some (.int .i64 k):=aB (aA (Below.refl _ _) _) (aG _ _ 3 _ 0 _ (by simp) rfl)
 have H:Hid (Calls Tryz.prog 265 #[.func (.func 266) #[] #[.pointer (some ⟨w.heap.size,0,none⟩),.pointer (some ⟨w.heap.size+1,0,none⟩)]] ((w.alloc (.cells #[.int .i64 sh,.slice la l.length lc] 29)).alloc (.cells #[.int .i64 k] 3)) fun e w'=>∃g c,e=.returned (.tuple #[.slice (some ⟨g,0,none⟩) sh c,.int .i64 0])∧w'.ownsRow ((w.alloc (.cells #[.int .i64 sh,.slice la l.length lc] 29)).alloc (.cells #[.int .i64 k] 3)).heap.size 4 1 (.slice (some ⟨g,0,none⟩) sh c) sh ((bN sh (bJ (aQ l k))).map Value.bool)∧Below ((w.alloc (.cells #[.int .i64 sh,.slice la l.length lc] 29)).alloc (.cells #[.int .i64 k] 3)).heap.size ((w.alloc (.cells #[.int .i64 sh,.slice la l.length lc] 29)).alloc (.cells #[.int .i64 k] 3)) w'):=qM _ sh _ _ (part1_ok la lc l sh k _ _ _ h0 h1 h2 (hl.below hg) he)
 have hU:Hid (Below w.heap.size w ((w.alloc (.cells #[.int .i64 sh,.slice la l.length lc] 29)).alloc (.cells #[.int .i64 k] 3))):=aA (aA (Below.refl _ _) _) _
 clear h0 h1 h2 hg
 go_enter Tryz.func232,Tryz.ntmps232
 go_wp2_with fail
 refine H.out.mono ?_
 clear H
 rintro e w1 ⟨g,c,rfl,ho,hb⟩
 have hB:Hid (Below w.heap.size w w1):=aC hU.out hb
 have hO:Hid (w1.ownsRow w.heap.size 4 1 (.slice (some ⟨g,0,none⟩) sh c) sh ((bN sh (bJ (aQ l k))).map Value.bool)):=iQ ho hU.out.size
 clear hb ho
 go_wp2
 go_ret2
 exact⟨g,c,rfl,hO.out,hB.out⟩
theorem active_own (la:Option Addr) (lc:Nat) (l:List TxA) (sh k:Nat) (w:World) (hl:IsTxs w la l) (he:pnE sh l k=0) :
  Calls Tryz.prog 233 #[.agg #[.int .i64 sh,.slice la l.length lc],.int .i64 k] w fun e w'=>∃g c,e=.returned (.tuple #[.slice (some ⟨g,0,none⟩) sh c,.int .i64 0])∧w'.ownsRow w.heap.size 4 1 (.slice (some ⟨g,0,none⟩) sh c) sh ((bN sh (aV (aQ l k))).map Value.bool)∧Below w.heap.size w w':=by
 have hmf:∀(fn:Fn) (first cap:Array Value) (w:World),(Instr.makeFunc fn first cap).run Tryz.prog w=.ok (.func fn first cap) w:=fun _ _ _ _=>rfl
 have hg:Below w.heap.size w (((w.alloc (.cells #[.int .i64 sh,.slice la l.length lc] 29)).alloc (.cells #[.int .i64 k] 3)).alloc (.cells #[.int .i64 0] 22)):=aA (aA (aA (Below.refl _ _) _) _) _
 have h0:(((w.alloc (.cells #[.int .i64 sh,.slice la l.length lc] 29)).alloc (.cells #[.int .i64 k] 3)).alloc (.cells #[.int .i64 0] 22)).cell? ⟨w.heap.size,0,none⟩=some (.int .i64 sh):=aB (aA (Below.refl _ _) _) (aB (aA (Below.refl _ _) _) (aG w _ 29 _ 0 _ rfl rfl))
 have h1:(((w.alloc (.cells #[.int .i64 sh,.slice la l.length lc] 29)).alloc (.cells #[.int .i64 k] 3)).alloc (.cells #[.int .i64 0] 22)).cell? ⟨w.heap.size,1,none⟩=some (.slice la l.length lc):=aB (aA (Below.refl _ _) _) (aB (aA (Below.refl _ _) _) (aG w _ 29 _ 1 _ rfl rfl))
 have h2:(((w.alloc (.cells #[.int .i64 sh,.slice la l.length lc] 29)).alloc (.cells #[.int .i64 k] 3)).alloc (.cells #[.int .i64 0] 22)).cell? ⟨w.heap.size+1,0,none⟩=some (.int .i64 k):=aB (aA (Below.refl _ _) _) (aG _ _ 3 _ 0 _ (by simp) rfl)
 have H:Hid (Calls Tryz.prog 265 #[.func (.func 269) #[] #[.pointer (some ⟨w.heap.size,0,none⟩),.pointer (some ⟨w.heap.size+1,0,none⟩)]] ((w.alloc (.cells #[.int .i64 sh,.slice la l.length lc] 29)).alloc (.cells #[.int .i64 k] 3)) fun e w'=>∃g c,e=.returned (.tuple #[.slice (some ⟨g,0,none⟩) sh c,.int .i64 0])∧w'.ownsRow ((w.alloc (.cells #[.int .i64 sh,.slice la l.length lc] 29)).alloc (.cells #[.int .i64 k] 3)).heap.size 4 1 (.slice (some ⟨g,0,none⟩) sh c) sh ((bN sh (aV (aQ l k))).map Value.bool)∧Below ((w.alloc (.cells #[.int .i64 sh,.slice la l.length lc] 29)).alloc (.cells #[.int .i64 k] 3)).heap.size ((w.alloc (.cells #[.int .i64 sh,.slice la l.length lc] 29)).alloc (.cells #[.int .i64 k] 3)) w'):=nS _ sh _ _ (active1_ok la lc l sh k _ _ _ h0 h1 h2 (hl.below hg) he)
 have hU:Hid (Below w.heap.size w ((w.alloc (.cells #[.int .i64 sh,.slice la l.length lc] 29)).alloc (.cells #[.int .i64 k] 3))):=aA (aA (Below.refl _ _) _) _
 clear h0 h1 h2 hg
 go_enter Tryz.func233,Tryz.ntmps233
 go_wp2_with fail
 refine H.out.mono ?_
 clear H
 rintro e w1 ⟨g,c,rfl,ho,hb⟩
 have hB:Hid (Below w.heap.size w w1):=aC hU.out hb
 have hO:Hid (w1.ownsRow w.heap.size 4 1 (.slice (some ⟨g,0,none⟩) sh c) sh ((bN sh (aV (aQ l k))).map Value.bool)):=iQ ho hU.out.size
 clear hb ho
 go_wp2
 go_ret2
 exact⟨g,c,rfl,hO.out,hB.out⟩
end Go.Proofs.YtcgpkonfneofdaaGreatDoor
