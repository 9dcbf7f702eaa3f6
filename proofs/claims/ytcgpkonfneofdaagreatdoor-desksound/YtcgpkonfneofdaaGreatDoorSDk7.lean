/- Conditions: those that each theorem states. -/
import Derived.Test.YtcgpkonfneofdaaGreatDoorSDk5
set_option maxRecDepth 100000
set_option maxHeartbeats 8000000
namespace Go.Proofs.YtcgpkonfneofdaaGreatDoor
open Go.RowKit
theorem sZ (m:Int) (a:Option Addr) (n c:Nat) (w:World):Calls Tryz.prog 13 #[.agg #[.int .i64 m,.slice a n c],.int .i64 0] w fun e' w'=>e'=.returned (.agg #[.int .i64 m,.slice a n c])∧Below w.heap.size w w':=by
 obtain⟨W,hWe⟩:∃W:World,W=((w.alloc (.cells #[.int .i64 m,.slice a n c] 29)).alloc (.cells #[.int .i64 0,.slice none 0 0] 29)):=⟨_,rfl⟩
 have hW:Hid (Below w.heap.size w W):=by subst hWe;exact aA (aA (Below.refl _ _) _) _
 have p0:W.cell? ⟨w.heap.size,0,none⟩=some (.int .i64 m):=by subst hWe;exact aB (aA (Below.refl _ _) _) (aG _ _ 29 _ 0 _ rfl rfl)
 have p1:W.cell? ⟨w.heap.size,1,none⟩=some (.slice a n c):=by subst hWe;exact aB (aA (Below.refl _ _) _) (aG _ _ 29 _ 1 _ rfl rfl)
 have r0:W.cell? ⟨w.heap.size+1,0,none⟩=some (.int .i64 0):=by subst hWe;exact aG _ _ 29 _ 0 _ (by simp) rfl
 have r1:W.cell? ⟨w.heap.size+1,1,none⟩=some (.slice none 0 0):=by subst hWe;exact aG _ _ 29 _ 1 _ (by simp) rfl
 have rf:∀j,W.frozen? ⟨w.heap.size+1,j,none⟩=false:=by subst hWe;exact fun j=>cO _ _ 29 _ j (by simp)
 have sz:Hid (W.heap.size=w.heap.size+2):=by subst hWe;show _=_;simp
 have HWe:Hid (W=_):=hWe
 clear hWe
 go_enter Tryz.func13,Tryz.ntmps13
 go_upto_region 1 with fail
 rw[←HWe.out]
 clear HWe
 go_wp2_with fail
 refine(aO [0] _ 1 _ (by simp) rfl (cD _ _ _ rfl)).mono ?_
 rintro e w' ⟨rfl,rfl⟩
 have gA:Below W.heap.size W (W.alloc (.cells #[.int .i64 0] 22)):=aA (Below.refl _ _) _
 have p0:=aB gA p0
 have p1:=aB gA p1
 have r0:=aB gA r0
 have r1:=aB gA r1
 have rf:∀j,(W.alloc (.cells #[.int .i64 0] 22)).frozen? ⟨w.heap.size+1,j,none⟩=false:=fun j=>(gA.frozen (p:=⟨w.heap.size+1,j,none⟩) (by have:=sz.out;show w.heap.size+1<_;omega)).trans (rf j)
 have BF:Hid (Below w.heap.size w (W.alloc (.cells #[.int .i64 0] 22))):=aC hW.out gA
 clear gA
 generalize W.alloc (.cells #[.int .i64 0] 22)=V at *
 obtain⟨x0,x1⟩:=put2 (.int .i64 m) (.slice a n c) r0 r1
 have FB:Hid (Below w.heap.size w ((V.setCell ⟨w.heap.size+1,0,none⟩ (.int .i64 m)).setCell ⟨w.heap.size+1,1,none⟩ (.slice a n c))):=aI (aI BF.out (by simp) _) (by simp) _
 go_wp2_with fail
 refine bodyPost_ret (v:=.agg #[.int .i64 m,.slice a n c]) (by simp[results,Tryz.results13,go_sem,x0,x1]) rfl ⟨rfl,FB.out⟩
theorem gotPlan_pan (m:Int) (a:Option Addr) (n c:Nat) (x:Int) (hx:¬x=0) (w:World):Calls Tryz.prog 13 #[.agg #[.int .i64 m,.slice a n c],.int .i64 x] w fun e' w'=>e'=.panicked [{v:=.iface 22 (.int .i64 x),recovered:=false}]∧Below w.heap.size w w':=by
 have hW:Hid (Below w.heap.size w ((w.alloc (.cells #[.int .i64 m,.slice a n c] 29)).alloc (.cells #[.int .i64 0,.slice none 0 0] 29))):=aA (aA (Below.refl _ _) _) _
 go_enter Tryz.func13,Tryz.ntmps13
 go_upto_region 1 with fail
 generalize ((w.alloc (.cells #[.int .i64 m,.slice a n c] 29)).alloc (.cells #[.int .i64 0,.slice none 0 0] 29))=W at *
 go_wp2_with fail
 refine(cF [x] 0 x _ 1 _ (by simp) (by simp) (by simp) rfl hx (cD _ _ _ (by simp))).mono ?_
 rintro e w' ⟨rfl,rfl⟩
 go_wp2
 refine⟨rfl,rfl,aC hW.out (aA (Below.refl _ _) _)⟩
theorem linesOf_q (x:List UInt8) (hx:x.length≤4096) (w:World) (hs:Std w) :
  Calls Tryz.prog 19 #[aL x] w fun e w'=>e=.returned (.slice (some ⟨w.heap.size,0,none⟩) (gI 10 x).dropLast.length ((gI 10 x).dropLast.length+1))∧Hid (IsStrs w' (some ⟨w.heap.size,0,none⟩) (gI 10 x).dropLast)∧Below w.heap.size w w'∧w'.heap.size=w.heap.size+1:=by
 have C1:=aJ (split_q x hx 10 w hs)
 have HL:Hid ((gI 10 x).dropLast.length=x.count 10):=by
  show _=_
  rw[List.length_dropLast,mX];omega
 have hc:x.count 10≤4096:=Nat.le_trans List.count_le_length hx
 have HS:=aJ (pE w (gI 10 x)).init
 clear hs hx
 generalize x.count 10=n at *
 generalize (gI 10 x)=L at *
 go_enter Tryz.func19,Tryz.ntmps19
 go_wp2_with fail
 refine C1.out.mono ?_
 rintro e w1 ⟨rfl,he⟩
 have HE:=aJ he
 clear he C1
 go_wp2
 go_ret
 refine⟨by rw[HL.out];rfl,?_,?_,?_⟩
 ·rw[HE.out];exact HS.out
 ·rw[HE.out];exact aA (Below.refl _ _) _
 ·rw[HE.out];simp
theorem IsStrs.kept {w w':World} {g off:Nat} {xs:List (List UInt8)} (h:IsStrs w (some ⟨g,off,none⟩) xs) (hs:w.heap.size≤w'.heap.size) (hb:w'.heap[g]?=w.heap[g]?):IsStrs w' (some ⟨g,off,none⟩) xs:=fun i hi=>by
 obtain⟨b,o,e,hl,hc⟩:=h i hi
 injection e with e
 injection e with e1 e2
 subst e1 e2
 exact⟨g,off,rfl,Nat.lt_of_lt_of_le hl hs,by rw[World.cell?_of_block hb];exact hc⟩
theorem Fr2.below {b:Nat} {r:Option Nat} {w w':World} {B:Nat} (hf:Fr2 b r w w') (h1:B≤b) (h2:∀g,r=some g→B≤g) (hB:B≤w.heap.size):Below B w w':=
 ⟨hf.os,hf.tape,hf.output,hf.size,fun k hk=>hf.block k (by omega) (by omega) (fun e=>by have:=h2 k e.symm;omega)⟩
theorem uW {P B:Nat} {w w':World} (h:w.grownBy w' (some P)) (h1:B≤P) (hB:B≤w.heap.size):Below B w w':=
 ⟨h.os,h.tape,h.output,h.size,fun k hk=>h.block k (by omega) (fun e=>by injection e with e;omega)⟩
theorem itxI_len {n:Int} (h:dV n):(cY n).length≤20:=by
 obtain⟨h1,h2⟩:=h
 unfold cY
 split
 ·have:(kD n.natAbs).length≤19:=dK (by decide) (by omega)
  rw[List.length_cons];omega
 ·have:(kD n.toNat).length≤19:=dK (by decide) (by omega)
  omega
theorem nJ (sep:List UInt8) (k:Nat):∀xs:List (List UInt8),(∀x∈xs,x.length≤k)→(Lib.joinTail sep xs).length≤(sep.length+k)*xs.length
 | [],_=>by simp[Lib.joinTail]
 | x::xs,h=>by
  have ih:=nJ sep k xs (fun y hy=>h y (List.mem_cons_of_mem _ hy))
  have hx:=h x List.mem_cons_self
  have e:Lib.joinTail sep (x::xs)=sep++x++Lib.joinTail sep xs:=by simp[Lib.joinTail]
  rw[e,List.length_append,List.length_append,List.length_cons,Nat.mul_succ]
  omega
theorem txt_len {s:List Int} (h:∀z∈s,dV z) (h8:s.length=8):(txt s).length≤200:=by
 match s,h8 with
 | z::t,h8=>
  have hz:=itxI_len (h z List.mem_cons_self)
  have ht:=nJ [32] 20 (t.map cY) (fun x hx=>by
   obtain⟨y,hy,rfl⟩:=List.mem_map.1 hx
   exact itxI_len (h y (List.mem_cons_of_mem _ hy)))
  have hl:t.length=7:=by simpa using h8
  unfold txt
  rw[List.map_cons,Lib.join_cons,List.length_append]
  rw[List.length_map,hl]at ht
  simp only[List.length_singleton]at ht
  omega
theorem stepsW_len (L:List (Nat×Nat×Nat)) (hb:∀p∈L,p.2.1≤100∧p.2.2≤100) (hn:L.length≤64):(fL L).length≤1920:=by
 have:=tS_len L hb L.length (Nat.le_refl _)
 rw[tS_end]at this
 omega
theorem Dsk.ans_len {m:Int} {l:List TxA} {bg:List Int} {S:SA} (h:Dsk m l bg S) (x:List UInt8):(gT m l bg S x).1.length≤2000:=by
 have hr3:=h.rest.2.2
 have tel:∀y p,eC m l bg S y=.ok p→p.1.length≤2000:=by
  intro y p hp
  unfold eC at hp
  split at hp
  ·injection hp with hp;subst hp
   show (if jW m l S=true then [111,118,101,114] else fL (bE m l S)).length≤2000
   split
   ·decide
   ·have:=stepsW_len (bE m l S) (fun p hp=>(desk_cl h.st p hp).2) (desk_cn h.st)
    omega
  split at hp
  ·injection hp with hp;subst hp
   have:=txt_len h.si (nP h.st)
   show (txt S.st).length≤2000
   omega
  split at hp
  ·injection hp with hp;subst hp
   have:=(nK (n:=(rN m l S:Nat)) (by omega) (by omega)).2
   show (cY (rN m l S:Nat)).length≤2000
   omega
  split at hp
  ·split at hp
   ·injection hp with hp;subst hp
    have ha:=desk_av (bg:=bg) h.st
    have:=(nK (n:=jD bg l S.st (kN m l S)) (by omega) (by omega)).2
    show (cY (jD bg l S.st (kN m l S))).length≤2000
    omega
   ·cases hp
  ·cases hp
 have chg:∀y a b p,cV m l bg S y a b=.ok p→p.1.length≤2000:=by
  intro y a b p hp
  have ok:∀(q:List Int×SA),(([111,107]:List UInt8),q).1.length≤2000:=fun _=>(by decide:2≤2000)
  unfold cV at hp
  split at hp
  ·split at hp
   ·split at hp
    ·cases hp
    ·injection hp with hp;subst hp;exact ok _
   ·cases hp
  split at hp
  ·split at hp
   ·split at hp
    ·injection hp with hp;subst hp;exact ok _
    ·cases hp
   ·cases hp
  split at hp
  ·split at hp
   ·split at hp
    ·injection hp with hp;subst hp;exact ok _
    ·cases hp
   ·cases hp
  ·cases hp
 unfold gT
 split
 ·next p hp=>
  match ht:(gI 32 x).tail,hp with
  | [],hp=>
   have e:qH m l bg S ((gI 32 x).headD []) []=(eC m l bg S ((gI 32 x).headD [])).map fun p=>(p.1,bg,p.2):=rfl
   rw[e]at hp
   cases hc:eC m l bg S ((gI 32 x).headD []) with
   | error z=>rw[hc]at hp;cases hp
   | ok q=>
    rw[hc]at hp
    have e2:((Except.ok q:Except Int (List UInt8×SA)).map fun p=>(p.1,bg,p.2))=.ok (q.1,bg,q.2):=rfl
    rw[e2]at hp
    injection hp with hp
    subst hp
    exact tel _ _ hc
  | [a],hp=>cases hp
  | [a,b],hp=>exact chg _ _ _ _ hp
  | a::b::c::r,hp=>cases hp
 ·next z hz=>
  have hb:=obL_err h.st _ _ _ hz
  have:=(nK (n:=z) (by omega) (by omega)).2
  show ([101,114,114,111,114,32]++cY z).length≤2000
  rw[List.length_append]
  simp
  omega
theorem wM {m:Int} {l:List TxA}:∀(ls:List (List UInt8)) (p:List Int×SA),Dsk m l p.1 p.2→(lF m l ls p.1 p.2).length≤2001*ls.length
 | [],_,_=>by simp[lF]
 | x::r,p,h=>by
  have ih:=wM r (gT m l p.1 p.2 x).2 (h.answer x)
  have h1:=h.ans_len x
  rw[lF,List.length_append,List.length_cons,List.length_cons,Nat.mul_succ]
  omega
theorem scr_take {m:Int} {l:List TxA} (ls:List (List UInt8)) (p:List Int×SA) (k:Nat) (h:k<ls.length) :
  lF m l (ls.take (k+1)) p.1 p.2=lF m l (ls.take k) p.1 p.2++((gT m l (iZ m l (ls.take k) p).1 (iZ m l (ls.take k) p).2 (ls.getD k [])).1++[10])∧iZ m l (ls.take (k+1)) p=(gT m l (iZ m l (ls.take k) p).1 (iZ m l (ls.take k) p).2 (ls.getD k [])).2:=by
 have e:ls.take (k+1)=ls.take k++[ls.getD k []]:=by
  rw[List.take_succ_eq_append_getElem h]
  simp[List.getD,h]
 rw[e,wN,zM]
 exact⟨rfl,rfl⟩
def z8:List Int:=[0,0,0,0,0,0,0,0]
def MZ:Array Value:=madeCells (Value.int .i64 0).cells 8
theorem mk8 (w:World):(Instr.makeSlice 41 (.int .i64 8) (.int .i64 8)).run Tryz.prog w=.ok (.slice (some ⟨w.heap.size,0,none⟩) 8 8) (w.alloc (.cells MZ 3)):=by
 obtain⟨i,hi,hz,h1,hb⟩:=info_parts Tryz.info3
 exact run_mk w 41 3 i _ Tryz.underlying41 hi hz h1 (by rw[hb];decide) 8 (by decide)
theorem made8 (w:World):IsInts (w.alloc (.cells MZ 3)) (some ⟨w.heap.size,0,none⟩) z8:=fun i hi=>by
 match i,hi with
 | 0,_=>exact⟨_,0,rfl,by simp,aG _ _ 3 _ 0 _ rfl (by kernel_rfl)⟩
 | 1,_=>exact⟨_,0,rfl,by simp,aG _ _ 3 _ 1 _ rfl (by kernel_rfl)⟩
 | 2,_=>exact⟨_,0,rfl,by simp,aG _ _ 3 _ 2 _ rfl (by kernel_rfl)⟩
 | 3,_=>exact⟨_,0,rfl,by simp,aG _ _ 3 _ 3 _ rfl (by kernel_rfl)⟩
 | 4,_=>exact⟨_,0,rfl,by simp,aG _ _ 3 _ 4 _ rfl (by kernel_rfl)⟩
 | 5,_=>exact⟨_,0,rfl,by simp,aG _ _ 3 _ 5 _ rfl (by kernel_rfl)⟩
 | 6,_=>exact⟨_,0,rfl,by simp,aG _ _ 3 _ 6 _ rfl (by kernel_rfl)⟩
 | 7,_=>exact⟨_,0,rfl,by simp,aG _ _ 3 _ 7 _ rfl (by kernel_rfl)⟩
theorem rd_bad {bs:List Int} (h:eH bs=none):¬aAf bs=0:=by
 unfold eH at h
 unfold aAf
 split at h
 ·next h1=>rw[if_pos h1];decide
 ·next h1=>rw[if_neg h1,h];decide
theorem rd_good {bs:List Int} {p:Int×List fG} (h:eH bs=some p):aAf bs=0∧iA bs=some p∧bs.length≤4096:=by
 unfold eH at h
 unfold aAf
 split at h
 ·cases h
 ·next h1=>rw[if_neg h1,h];exact⟨rfl,rfl,by omega⟩
theorem beg_ok {p:Int×List fG} {bs:List Int} (hB:Byt bs) (hr:iA bs=some p) {l:List TxA} (hl:l.map TxA.core=p.2):Dsk p.1 l z8 (cA p.1 l z8):=by
 have hP:OkP p:=by
  simp only[iA,Option.bind_eq_some_iff]at hr
  obtain⟨⟨q,r⟩,h1,h2⟩:=hr
  by_cases hc:r=[]∧aM q.1 (q.2.map cX)=0
  ·rw[if_pos hc]at h2
   injection h2 with h2
   subst h2
   exact(rW bs q r hB h1).2
  ·rw[if_neg hc]at h2;cases h2
 have hE:=(bytes_of_rd hB hr).2
 refine dsk_beg ?_ (v64_of hP hl) rfl (fun z hz=>?_)
 ·rw[←iC,hl];exact hE
 ·have:z=0:=by
   simp only[z8,List.mem_cons,List.mem_nil_iff,or_false]at hz
   omega
  rw[this];exact⟨by decide,by decide⟩
theorem scr_core {p:Int×List fG} {l:List TxA} (hl:l.map TxA.core=p.2) (ls:List (List UInt8)):lF p.1 (p.2.map cX) ls z8 (cA p.1 (p.2.map cX) z8)=lF p.1 l ls z8 (cA p.1 l z8):=by
 have e:p.2.map cX=fU l:=by unfold fU;rw[hl]
 rw[e,er_beg,er_scr]
theorem Lp_next {w wr w1 w2:World} {P bb g:Nat} {D D2:Nat→Prop} {m:Int} {la:Option Addr} {lc:Nat} {l:List TxA} {ba2:Option Addr} {bc2:Nat} {bg2:List Int} {q2:Q4} {S2:SA} {v v':Value} {x1:List UInt8} {L:List (List UInt8)} (hb0:Bld bb bb v x1 wr)
  (hD:∀x,D x→x≠bb∧x≠g∧some x≠v.ownBlock) (hr:∀x,v.ownBlock=some x→g<x) (ls:IsStrs wr (some ⟨g,0,none⟩) L) (o1:P<bb) (o2:bb<g) (o3:g<wr.heap.size) (o4:w.heap.size≤P) (bl:Below w.heap.size w wr)
  (hc1:Clk P D2 m la lc l ba2 bc2 bg2 q2 S2 w1) (hd2:∀x,D2 x→D x∨wr.heap.size≤x) (hg1:wr.grownBy w1 (some P)) (hv':v'.ownBlock=v.ownBlock∨v'.ownBlock=some w1.heap.size) (hf:Fr2 bb v.ownBlock w1 w2) :
  Clk P D2 m la lc l ba2 bc2 bg2 q2 S2 w2∧(∀x,D2 x→x≠bb∧x≠g∧some x≠v'.ownBlock)∧(∀x,v'.ownBlock=some x→g<x)∧IsStrs w2 (some ⟨g,0,none⟩) L∧g<w2.heap.size∧Below w.heap.size w w2:=by
 have hs1:=hg1.size
 have hs2:=hf.size
 have hrow:∀x,v.ownBlock=some x→x<wr.heap.size:=fun x hx=>(hb0.own.lt x hx).2
 have d1:¬D2 bb:=fun h=>by
  rcases hd2 bb h with h | h
  ·exact(hD bb h).1 rfl
  ·omega
 have d2:∀x,v.ownBlock=some x→¬D2 x:=fun x hx h=>by
  rcases hd2 x h with h | h
  ·exact(hD x h).2.2 hx.symm
  ·have:=hrow x hx;omega
 have hbw:=bl.size
 refine⟨hc1.write hf o1 (fun x hx=>by have:=hr x hx;omega) d1 d2,fun x hx=>⟨fun e=>d1 (e ▸ hx),fun e=>?_,fun e=>?_⟩,fun x hx=>?_,?_,by omega,?_⟩
 ·subst e
  rcases hd2 x hx with h | h
  ·exact(hD x h).2.1 rfl
  ·omega
 ·rcases hv' with h | h
  ·rw[h]at e;exact d2 x e.symm hx
  ·rw[h]at e;injection e with e;have:=(hc1.dl x hx).2;omega
 ·rcases hv' with h | h
  ·rw[h]at hx;exact hr x hx
  ·rw[h]at hx;injection hx with hx;omega
 ·refine(ls.kept hs1 (hg1.block g o3 (fun e=>by injection e with e;omega))).kept hs2 (hf.block g (by omega) (by omega) (fun e=>?_))
  have:=hr g e.symm
  omega
 ·exact(bl.trans (uW hg1 o4 hbw)).trans (hf.below (by omega) (fun x hx=>by have:=hr x hx;omega) (by omega))
theorem play1_bad (b:ByteArray) (pb pt:Nat) (w:World) (cb:w.cell? ⟨pb,0,none⟩=some (.string b)) (hr:eH (eS b)=none) :
  Calls Tryz.prog 12 #[.pointer (some ⟨pb,0,none⟩),.pointer (some ⟨pt,0,none⟩)] w fun e w'=>e=.panicked [{v:=.iface 22 (.int .i64 (aAf (eS b))),recovered:=false}]∧Below w.heap.size w w':=by
 have hx:=rd_bad hr
 have C1:Hid (Calls Tryz.prog 14 #[.string b] w fun e w'=>e=.returned (.tuple #[.agg #[.int .i64 0,.slice none 0 0],.int .i64 (aAf (eS b))])∧Below w.heap.size w w'):=(jT b w).mono (by
  rintro e w' ⟨hb,ho⟩
  unfold qD at ho
  rw[hr]at ho
  exact⟨ho,hb⟩)
 generalize aAf (eS b)=x at *
 clear hr
 go_enter Tryz.func12,Tryz.ntmps12
 go_wp2_with fail
 refine C1.out.mono ?_
 rintro e w1 ⟨rfl,hb1⟩
 have CG:=aJ (gotPlan_pan 0 none 0 0 x hx w1)
 have B1:=aJ hb1
 clear hb1 C1
 go_wp2_with fail
 refine CG.out.mono ?_
 rintro e w2 ⟨rfl,hb2⟩
 have B:=aJ (aC B1.out hb2)
 clear hb2 CG B1
 go_wp2
 exact⟨rfl,rfl,B.out⟩
theorem play1_err (b:ByteArray) (t:List UInt8) (p:Int×List fG) (pb pt:Nat) (w:World) (cb:w.cell? ⟨pb,0,none⟩=some (.string b)) (ct:w.cell? ⟨pt,0,none⟩=some (aL t)) (hr:eH (eS b)=some p) (htl:t.length≤9223372036854775807) (he:¬aF [gE t,lO t]=0) :
  Calls Tryz.prog 12 #[.pointer (some ⟨pb,0,none⟩),.pointer (some ⟨pt,0,none⟩)] w fun e w'=>e=.panicked [{v:=.iface 22 (.int .i64 (aF [gE t,lO t])),recovered:=false}]∧Below w.heap.size w w':=by
 have C1:Hid (Calls Tryz.prog 14 #[.string b] w fun e w'=>∃(a:Option Addr) (cl:List TxA) (c:Nat),e=.returned (.tuple #[.agg #[.int .i64 p.1,.slice a cl.length c],.int .i64 0])∧Hid (IsTxs w' a cl)∧Hid (cl.map TxA.core=p.2)∧Below w.heap.size w w'):=(jT b w).mono (by
  rintro e w' ⟨hb,ho⟩
  unfold qD at ho
  rw[hr]at ho
  obtain⟨a,cl,c,h1,h2,h3⟩:=ho
  exact⟨a,cl,c,h1,h2,h3,hb⟩)
 have CM:=aJ (many_q t htl)
 have CE:=aJ (end_q t htl)
 have HE:=aJ he
 clear he htl hr
 generalize gE t=E1 at *
 generalize lO t=E2 at *
 unfold aL at ct CM CE
 generalize ByteArray.mk t.toArray=T at *
 go_enter Tryz.func12,Tryz.ntmps12
 go_wp2_with fail
 refine C1.out.mono ?_
 rintro e w1 ⟨la,l,lc,rfl,HL1,HCR,hb1⟩
 have CG:=aJ (sZ p.1 la l.length lc w1)
 have B1:=aJ hb1
 clear hb1 C1
 go_wp2_with fail
 refine CG.out.mono ?_
 rintro e w2 ⟨rfl,hb2⟩
 have HL2:=aJ (HL1.out.below hb2)
 have B2:=aJ (aC B1.out hb2)
 clear hb2 CG B1 HL1
 have BC:Hid (Below w2.heap.size w2 (w2.alloc (.cells #[.int .i64 p.1,.slice la l.length lc,.slice none 0 0,.slice none 0 0,.slice none 0 0,.slice none 0 0,.slice none 0 0] 47))):=aA (Below.refl _ _) _
 have ct2:=aB (aC B2.out BC.out) ct
 go_upto_region 2 with fail
 have BW:Hid (Below w.heap.size w (w2.alloc (.cells #[.int .i64 p.1,.slice la l.length lc,.slice none 0 0,.slice none 0 0,.slice none 0 0,.slice none 0 0,.slice none 0 0] 47))):=aC B2.out BC.out
 generalize (w2.alloc (.cells #[.int .i64 p.1,.slice la l.length lc,.slice none 0 0,.slice none 0 0,.slice none 0 0,.slice none 0 0,.slice none 0 0] 47))=W at *
 have KS:Hid (∀w',Below W.heap.size W w'→w'.cell? ⟨pt,0,none⟩=some (.string T)∧Hid (Below W.heap.size W w')):=fun w' hb=>⟨aB hb ct2,hb⟩
 clear ct2 cb ct
 clear HL2 HCR
 refine wp_region_held_drew (S:=(fun w'=>w'.cell? ⟨pt,0,none⟩=some (.string T)∧Hid (Below W.heap.size W w'))) (by kernel_rfl) ?_ (fun hHeld=>?_)
 ·exact KS.out _ (aD (Below.refl _ _))
 refine tk 0 ?_
 refine tk 2 ?_
 refine r1 1 (fun K hK=>?_)
 go_simp
 obtain⟨c0,hbx⟩:=hHeld
 go_wp2_with (go_at_call 16;refine(CM.out _).mono ?_;rintro e w3 ⟨rfl,rfl⟩)
 clear c0
 have hHeld:True:=trivial
 clear hHeld
 refine hK.out _ _ (KS.out _ hbx.out) (fun hHeld=>?_)
 clear hK K
 refine r1 3 (fun K hK=>?_)
 go_simp
 obtain⟨c0,hbx2⟩:=hHeld
 go_wp2_with (go_at_call 17;refine(CE.out _).mono ?_;rintro e w4 ⟨rfl,rfl⟩)
 clear c0 hbx
 have hHeld:True:=trivial
 clear hHeld
 refine hK.out _ _ (KS.out _ hbx2.out) (fun hHeld=>?_)
 clear hK K
 refine r1 4 (fun K hK=>?_)
 go_simp
 obtain⟨c0,hbx⟩:=hHeld
 have B4:Hid (Below W.heap.size W (W.alloc (.cells #[.int .i64 E1,.int .i64 E2] 22)).drew):=aD (aA (Below.refl _ _) _)
 have ER:Hid (∀k,k < [E1,E2].length→(W.alloc (.cells #[.int .i64 E1,.int .i64 E2] 22)).drew.cell? ⟨W.heap.size,k,none⟩=some (.int .i64 ([E1,E2].getD k 0))):=fun k hk=>aB (aD (Below.refl _ _)) (iU W W.heap.size E1 E2 rfl k hk)
 generalize (W.alloc (.cells #[.int .i64 E1,.int .i64 E2] 22)).drew=V at *
 clear c0 hbx hbx2
 have hHeld:True:=trivial
 clear hHeld
 refine hK.out _ _ (KS.out _ B4.out) (fun hHeld=>?_)
 clear hK K
 refine r1 5 (fun K hK=>?_)
 go_simp
 go_wp2_with (go_at_call 15;refine(cH [E1,E2] _ 2 _ (by simp) HE.out ER.out).mono ?_;rintro e w5 ⟨rfl,hw5⟩)
 subst hw5
 exact⟨rfl,rfl,aC BW.out B4.out⟩
theorem play1_ok (b:ByteArray) (t:List UInt8) (p:Int×List fG) (pb pt:Nat) (w:World) (cb:w.cell? ⟨pb,0,none⟩=some (.string b)) (ct:w.cell? ⟨pt,0,none⟩=some (aL t)) (hr:eH (eS b)=some p) (he:aF [gE t,lO t]=0) (hs:Std w) :
  Calls Tryz.prog 12 #[.pointer (some ⟨pb,0,none⟩),.pointer (some ⟨pt,0,none⟩)] w fun e w'=>e=.returned (aL (lF p.1 (p.2.map cX) (gI 10 t).dropLast z8 (cA p.1 (p.2.map cX) z8)))∧Below w.heap.size w w':=by
 have C1:Hid (Calls Tryz.prog 14 #[.string b] w fun e w'=>∃(a:Option Addr) (cl:List TxA) (c:Nat),e=.returned (.tuple #[.agg #[.int .i64 p.1,.slice a cl.length c],.int .i64 0])∧Hid (IsTxs w' a cl)∧Hid (cl.map TxA.core=p.2)∧Below w.heap.size w w'):=(jT b w).mono (by
  rintro e w' ⟨hb,ho⟩
  unfold qD at ho
  rw[hr]at ho
  obtain⟨a,cl,c,h1,h2,h3⟩:=ho
  exact⟨a,cl,c,h1,h2,h3,hb⟩)
 have htl:t.length≤4096∧t.count 10≤40:=by
  by_cases h1:4096<t.length∨40<t.count 10
  ·exact absurd he (by unfold gE;rw[if_pos h1];exact fun h=>by cases h)
  ·omega
 have CM:=aJ (many_q t (by omega))
 have CE:=aJ (end_q t (by omega))
 have HE:=aJ he
 have HRD:=aJ (rd_good hr).2.1
 have S0:=aJ hs
 have HPT:Hid (pt<w.heap.size):=World.block_lt_of_cell? w ⟨pt,0,none⟩ ct
 have hmk:∀w,(Instr.makeSlice 41 (.int .i64 8) (.int .i64 8)).run Tryz.prog w=.ok (.slice (some ⟨w.heap.size,0,none⟩) 8 8) (w.alloc (.cells MZ 3)):=mk8
 have CLN:Hid (∀w:World,Std w→Calls Tryz.prog 19 #[aL t] w fun e w'=>e=.returned (.slice (some ⟨w.heap.size,0,none⟩) (gI 10 t).dropLast.length ((gI 10 t).dropLast.length+1))∧Hid (IsStrs w' (some ⟨w.heap.size,0,none⟩) (gI 10 t).dropLast)∧Below w.heap.size w w'∧w'.heap.size=w.heap.size+1):=fun w h=>linesOf_q t htl.1 w h
 have HLL:Hid ((gI 10 t).dropLast.length≤40∧∀x∈(gI 10 t).dropLast,x.length≤4096):=by
  refine⟨?_,fun x hx=>?_⟩
  ·rw[List.length_dropLast,mX];omega
  ·exact Nat.le_trans (kQ 10 t x (List.dropLast_subset _ hx)) htl.1
 clear he htl hr hs
 unfold aL at CLN
 generalize gE t=E1 at *
 generalize lO t=E2 at *
 generalize (gI 10 t).dropLast=L at *
 unfold aL at ct CM CE
 generalize ByteArray.mk t.toArray=T at *
 go_enter Tryz.func12,Tryz.ntmps12
 go_wp2_with fail
 refine C1.out.mono ?_
 rintro e w1 ⟨la,l,lc,rfl,HL1,HCR,hb1⟩
 have CG:=aJ (sZ p.1 la l.length lc w1)
 have B1:=aJ hb1
 clear hb1 C1
 go_wp2_with fail
 refine CG.out.mono ?_
 rintro e w2 ⟨rfl,hb2⟩
 have HL2:=aJ (HL1.out.below hb2)
 have B2:=aJ (aC B1.out hb2)
 clear hb2 CG B1 HL1
 have BC:Hid (Below w2.heap.size w2 (w2.alloc (.cells #[.int .i64 p.1,.slice la l.length lc,.slice none 0 0,.slice none 0 0,.slice none 0 0,.slice none 0 0,.slice none 0 0] 47))):=aA (Below.refl _ _) _
 have ct2:=aB (aC B2.out BC.out) ct
 have HK0:Hid (Clk w2.heap.size (fun _=>False) p.1 la lc l none 0 [] aAh uC (w2.alloc (.cells #[.int .i64 p.1,.slice la l.length lc,.slice none 0 0,.slice none 0 0,.slice none 0 0,.slice none 0 0,.slice none 0 0] 47))):=clk_new w2 p.1 la lc l HL2.out
 have hP:Hid (w.heap.size≤w2.heap.size):=B2.out.size
 go_upto_region 2 with fail
 have BW:Hid (Below w.heap.size w (w2.alloc (.cells #[.int .i64 p.1,.slice la l.length lc,.slice none 0 0,.slice none 0 0,.slice none 0 0,.slice none 0 0,.slice none 0 0] 47))):=aC B2.out BC.out
 generalize (w2.alloc (.cells #[.int .i64 p.1,.slice la l.length lc,.slice none 0 0,.slice none 0 0,.slice none 0 0,.slice none 0 0,.slice none 0 0] 47))=W at *
 have KS:Hid (∀w',Below W.heap.size W w'→w'.cell? ⟨pt,0,none⟩=some (.string T)∧Hid (Below W.heap.size W w')):=fun w' hb=>⟨aB hb ct2,hb⟩
 clear ct2 cb ct
 refine wp_region_held_drew (S:=(fun w'=>w'.cell? ⟨pt,0,none⟩=some (.string T)∧Hid (Below W.heap.size W w'))) (by kernel_rfl) ?_ (fun hHeld=>?_)
 ·exact KS.out _ (aD (Below.refl _ _))
 refine tk 0 ?_
 refine tk 2 ?_
 refine r1 1 (fun K hK=>?_)
 go_simp
 obtain⟨c0,hbx⟩:=hHeld
 go_wp2_with (go_at_call 16;refine(CM.out _).mono ?_;rintro e w3 ⟨rfl,rfl⟩)
 clear c0
 have hHeld:True:=trivial
 clear hHeld
 refine hK.out _ _ (KS.out _ hbx.out) (fun hHeld=>?_)
 clear hK K
 refine r1 3 (fun K hK=>?_)
 go_simp
 obtain⟨c0,hbx2⟩:=hHeld
 go_wp2_with (go_at_call 17;refine(CE.out _).mono ?_;rintro e w4 ⟨rfl,rfl⟩)
 clear c0 hbx
 have hHeld:True:=trivial
 clear hHeld
 refine hK.out _ _ (KS.out _ hbx2.out) (fun hHeld=>?_)
 clear hK K
 refine r1 4 (fun K hK=>?_)
 go_simp
 obtain⟨c0,hbx⟩:=hHeld
 have B4:Hid (Below W.heap.size W (W.alloc (.cells #[.int .i64 E1,.int .i64 E2] 22)).drew):=aD (aA (Below.refl _ _) _)
 have ER:Hid (∀k,k < [E1,E2].length→(W.alloc (.cells #[.int .i64 E1,.int .i64 E2] 22)).drew.cell? ⟨W.heap.size,k,none⟩=some (.int .i64 ([E1,E2].getD k 0))):=fun k hk=>aB (aD (Below.refl _ _)) (iU W W.heap.size E1 E2 rfl k hk)
 generalize (W.alloc (.cells #[.int .i64 E1,.int .i64 E2] 22)).drew=V at *
 clear c0 hbx hbx2
 have hHeld:True:=trivial
 clear hHeld
 refine hK.out _ _ (KS.out _ B4.out) (fun hHeld=>?_)
 clear hK K
 refine r1 5 (fun K hK=>?_)
 go_simp
 go_wp2_with (go_at_call 15;refine(aO [E1,E2] _ 2 _ (by simp) HE.out ER.out).mono ?_;rintro e w5 ⟨rfl,hw5⟩)
 subst hw5
 clear hHeld
 refine hK.out _ _ (KS.out _ B4.out) (fun hHeld=>?_)
 clear hK K
 refine wpAnyH_done (by kernel_rfl) ?_ _
 obtain⟨c0,_⟩:=hHeld
 have HK5:=aJ (HK0.out.on B4.out)
 have B5:Hid (Below w.heap.size w w5):=aC BW.out B4.out
 have HDSK:=aJ (beg_ok (wY b) HRD.out HCR.out)
 have HSC:=aJ (scr_core HCR.out L)
 obtain⟨P,hPe⟩:∃P,P=w2.heap.size:=⟨_,rfl⟩
 rw[←hPe]at HK5 hP ⊢
 clear KS CM CE HE ER HK0 BC BW B4 HL2 B2 HRD HCR hPe
 have ca:=aB (aA (Below.refl w5.heap.size w5) (.cells MZ 3)) c0
 have BA:Hid (Below w.heap.size w (w5.alloc (.cells MZ 3))):=aA B5.out _
 have CB:Hid (Calls Tryz.prog 18 #[.pointer (some ⟨P,0,none⟩),.slice (some ⟨w5.heap.size,0,none⟩) 8 8] (w5.alloc (.cells MZ 3)) fun e w'=>e=.returned (.tuple #[])∧∃(q2:Q4) (D2:Nat→Prop),Clk P D2 p.1 la lc l (some ⟨w5.heap.size,0,none⟩) 8 z8 q2 (cA p.1 l z8) w'∧(w5.alloc (.cells MZ 3)).grownBy w' (some P)):=by
  have hO:Own P (fun b=>b=w5.heap.size) (some ⟨w5.heap.size,0,none⟩) z8 (w5.alloc (.cells MZ 3)):=⟨fun b hb=>by subst hb;exact⟨HK5.out.pl,by simp⟩,fun w' h1 h2 i hi=>by
   obtain⟨b,off,e,hl,hc⟩:=made8 w5 i hi
   injection e with e
   injection e with e1 e2
   subst e1 e2
   exact⟨_,_,rfl,Nat.lt_of_lt_of_le hl h1,by rw[World.cell?_of_block (h2 _ rfl)];exact hc⟩⟩
  have hb0:iI p.1 l z8=0:=by
   have hl:bK z8=0:=rfl
   unfold iI
   rw[HDSK.out.pe,hl]
   rfl
  have h1:=pY P _ _ p.1 la lc l none 0 [] aAh uC _ (some ⟨w5.heap.size,0,none⟩) 8 z8 (HK5.out.on (aA (Below.refl _ _) (.cells MZ 3))) hO hb0
  exact h1.mono fun e w' ⟨he,q2,D2,hc,_,hg⟩=>⟨he,q2,D2,hc,hg⟩
 clear c0 B5 HK5
 go_wp2_with fail
 generalize (w5.alloc (.cells MZ 3))=wa at *
 refine CB.out.mono ?_
 rintro e w6 ⟨rfl,q6,D6,hc6,hg6⟩
 have B6:Hid (Below w.heap.size w w6):=BA.out.trans (uW hg6 hP.out BA.out.size)
 have c6:w6.cell? ⟨pt,0,none⟩=some (.string T):=by
  have hlt:pt<w.heap.size:=HPT.out
  rw[World.cell?_of_block (hg6.block pt (Nat.lt_of_lt_of_le hlt BA.out.size) (fun e=>by injection e with e;have:=hP.out;omega))]
  exact ca
 have HC6:=aJ hc6
 clear ca BA CB hc6 hg6
 have cb7:=aB (aA (Below.refl w6.heap.size w6) (.cells #[.pointer none,.slice none 0 0] 54)) c6
 have B7:Hid (Below w.heap.size w (w6.alloc (.cells #[.pointer none,.slice none 0 0] 54))):=aA B6.out _
 have HC7:=aJ (HC6.out.on (aA (Below.refl _ _) (.cells #[.pointer none,.slice none 0 0] 54)))
 have HB7:=aJ (bld_new w6)
 have s7:Hid ((w6.alloc (.cells #[.pointer none,.slice none 0 0] 54)).heap.size=w6.heap.size+1):=by show _=_;simp
 have HD7:Hid (∀x,D6 x→P<x∧x<w6.heap.size):=HC6.out.dl
 have hPb:Hid (P<w6.heap.size):=HC6.out.pl
 clear c6 B6 HC6
 go_wp2_with fail
 generalize (w6.alloc (.cells #[.pointer none,.slice none 0 0] 54))=w7 at *
 generalize w6.heap.size=bb at *
 have CL7:=aJ (CLN.out w7 (S0.out.on B7.out))
 refine CL7.out.mono ?_
 rintro e w8 ⟨rfl,HLS8,hb8,hs8⟩
 have HS8:=aJ hs8
 have HC8:=aJ (HC7.out.on hb8)
 have HB8:Hid (Bld bb bb (.slice none 0 0) [] w8):=HB7.out.on (aX hb8 (P:=P)) (by have:=hPb.out;omega) (by simp[Value.ownBlock])
 have B8:=aJ (aC B7.out hb8)
 have hLn:L.length≤40:=HLL.out.1
 clear cb7 HC7 HB7 CL7 CLN hb8 hs8 B7
 generalize w7.heap.size=g at *
 go_wp2
 go_loopw [6,24] (fun _ i wr=>∃(k:Nat) (D:Nat→Prop) (ba:Option Addr) (bc:Nat) (q:Q4) (v:Value),k≤L.length∧i=.int .i64 (k:Nat)∧Hid (Clk P D p.1 la lc l ba bc (iZ p.1 l (L.take k) (z8,cA p.1 l z8)).1 q (iZ p.1 l (L.take k) (z8,cA p.1 l z8)).2 wr)∧Hid (Bld bb bb v (lF p.1 l (L.take k) z8 (cA p.1 l z8)) wr)∧Hid (∀x,D x→x≠bb∧x≠g∧some x≠v.ownBlock)∧Hid (∀x,v.ownBlock=some x→g<x)∧Hid (IsStrs wr (some ⟨g,0,none⟩) L)∧Hid (g<wr.heap.size)∧Hid (Below w.heap.size w wr)) (fun _ i _=>L.length - (intOf i).toNat)
 case atStart=>exact⟨0,D6,_,_,q6,_,Nat.zero_le _,rfl,HC8,HB8,(fun x hx=>⟨by have:=HD7.out x hx;omega,by have:=HD7.out x hx;have:=s7.out;omega,by simp[Value.ownBlock]⟩),(fun x hx=>by simp[Value.ownBlock]at hx),HLS8,(by have:=HS8.out;show _<_;omega),B8⟩
 case round=>
  clear HC8 HB8 HLS8 B8 HD7 HS8
  obtain⟨k,D,ba,bc,q,v,hk,rfl,HC,HB,HD,HR,HLS,HG,HBL⟩:=hrel
  have HK:=aJ (wO (L.take k) (z8,cA p.1 l z8) HDSK.out)
  have hlen:=wM (L.take k) (z8,cA p.1 l z8) HDSK.out
  have htk:(L.take k).length≤40:=by rw[List.length_take];omega
  by_cases hlt:k<L.length
  ·have i1:(k:Int)<(L.length:Int):=by omega
   obtain⟨b0,o0,e0,_,z0⟩:=HLS.out k hlt
   injection e0 with e0
   injection e0 with e1 e2
   subst e1 e2
   rw[Nat.zero_add]at z0
   obtain⟨hst1,hst2⟩:=scr_take (m:=p.1) (l:=l) L (z8,cA p.1 l z8) k hlt
   have HST1:=aJ hst1
   have HST2:=aJ hst2
   have hxl:(L.getD k []).length≤4096:=HLL.out.2 _ (by simp[List.getD,hlt])
   generalize L.getD k []=y at *
   have CA:=aJ (clkAnswer P D p.1 la lc l ba bc _ q _ wr y hxl HC.out HK.out.ok (obL_err HK.out.st) (S0.out.on HBL.out) (fun w' h'=>S0.out.on (HBL.out.trans (h'.mono hP.out))))
   have hal:=HK.out.ans_len y
   generalize gT p.1 l (iZ p.1 l (L.take k) (z8,cA p.1 l z8)).1 (iZ p.1 l (L.take k) (z8,cA p.1 l z8)).2 y=r at *
   have f1:=cat1 r.1 [10] (by simp;omega)
   have HLEN:Hid ((lF p.1 l (L.take k) z8 (cA p.1 l z8)).length+(r.1++[10]).length≤1000000):=by
    show _≤_
    rw[List.length_append]
    simp only[List.length_singleton]
    simp only at hlen
    have:2001*(L.take k).length≤2001*40:=Nat.mul_le_mul (Nat.le_refl _) htk
    omega
   clear hst1 hst2 hlen hal hxl HK htk
   unfold AnsF at CA
   unfold aL at CA z0
   have CW:Hid (∀w1:World,wr.grownBy w1 (some P)→Calls Tryz.prog 20 #[.pointer (some ⟨bb,0,none⟩),aL (r.1++[10])] w1 fun e w'=>(∃n:Int,e=.returned (.tuple #[.int .i64 n,.nilIface]))∧∃v',Bld bb bb v' (lF p.1 l (L.take k) z8 (cA p.1 l z8)++(r.1++[10])) w'∧(v'.ownBlock=v.ownBlock∨v'.ownBlock=some w1.heap.size)∧Fr2 bb v.ownBlock w1 w'):=fun w1 hg=>bldWrite bb bb v _ _ w1 (HB.out.on hg (by have:=hPb.out;omega) (fun e=>by have:=HR.out P e;have:=hPb.out;have:=s7.out;omega)) HLEN.out (by have:=HG.out;have:=hg.size;have:=s7.out;omega)
   unfold aL at CW
   obtain⟨T1,hT1⟩:∃T1,T1=ByteArray.mk (r.1++[10]).toArray:=⟨_,rfl⟩
   obtain⟨T0,hT0⟩:∃T0,T0=ByteArray.mk r.1.toArray:=⟨_,rfl⟩
   rw[←hT0,←hT1]at f1
   rw[←hT0]at CA
   rw[←hT1]at CW
   clear hT0 hT1 HLEN
   go_wp2_with fail
   refine CA.out.mono ?_
   rintro e w1 ⟨rfl,ba2,bc2,q2,D2,hc1,hd2,hg1⟩
   have CW1:=aJ (CW.out w1 hg1)
   have HC1:=aJ hc1
   have HD2:=aJ hd2
   have HG1:=aJ hg1
   clear CA CW z0 hc1 hd2 hg1
   go_wp2_with fail
   refine CW1.out.mono ?_
   rintro e w2 ⟨⟨nn,rfl⟩,v',hb2,hv2,hf2⟩
   obtain⟨n1,n2,n3,n4,n5,n6⟩:=Lp_next HB.out HD.out HR.out HLS.out hPb.out (by have:=s7.out;omega) HG.out hP.out HBL.out HC1.out HD2.out HG1.out hv2 hf2
   have N1:Hid (Clk P D2 p.1 la lc l ba2 bc2 (iZ p.1 l (L.take (k+1)) (z8,cA p.1 l z8)).1 q2 (iZ p.1 l (L.take (k+1)) (z8,cA p.1 l z8)).2 w2):=by
    show Clk _ _ _ _ _ _ _ _ _ _ _ _
    rw[HST2.out];exact n1
   have NB:Hid (Bld bb bb v' (lF p.1 l (L.take (k+1)) z8 (cA p.1 l z8)) w2):=by
    show Bld _ _ _ _ _
    rw[HST1.out];exact hb2
   have N2:=aJ n2
   have N3:=aJ n3
   have N4:=aJ n4
   have N5:=aJ n5
   have N6:=aJ n6
   clear n1 n2 n3 n4 n5 n6 hb2 hv2 hf2 CW1 HC HB HD HR HLS HG HBL HC1 HD2 HG1 HST1 HST2
   go_wp2
   go_roundw
   case rel=>exact⟨k+1,D2,ba2,bc2,q2,v',by omega,by go_num,N1,NB,N2,N3,N4,N5,N6⟩
   case measure=>simp[intOf];omega
  ·have i1:¬(k:Int)<(L.length:Int):=by omega
   have hkk:L.take k=L:=List.take_of_length_le (by omega)
   rw[hkk]at HB
   have CS:=aJ (Tryz.Builder_String_any bb bb _ wr HB.out.is (by have:=HG.out;have:=s7.out;omega))
   have HW:Hid (w.heap.size≤bb):=by show _≤_;have:=hP.out;have:=hPb.out;omega
   clear HC HB HD HR HLS HG HK hlen htk hkk
   obtain⟨TT,hTT⟩:∃TT,TT=ByteArray.mk (lF p.1 l L z8 (cA p.1 l z8)).toArray:=⟨_,rfl⟩
   rw[←hTT]at CS
   have HTT:=aJ hTT
   clear hTT
   go_wp2_with fail
   refine CS.out.mono ?_
   rintro e w9 ⟨rfl,hb9⟩
   have B9:=aJ (HBL.out.trans (hb9.mono HW.out))
   clear hb9 CS HBL
   go_wp2
   go_ret
   exact⟨by rw[HSC.out,HTT.out];rfl,B9.out⟩
end Go.Proofs.YtcgpkonfneofdaaGreatDoor
