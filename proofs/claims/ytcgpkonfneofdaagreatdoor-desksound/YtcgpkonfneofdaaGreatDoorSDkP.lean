/- Conditions: those that each theorem states. -/
import Derived.Test.YtcgpkonfneofdaaGreatDoorSDkN
set_option maxRecDepth 100000
set_option maxHeartbeats 8000000
namespace Go.Proofs.YtcgpkonfneofdaaGreatDoor
open Go.RowKit
section
theorem kI {w:World} {ops:Array Oper} {o:Oper} {a:Act} {K:Act→World→Prop} {Q:Exit→Act→World→Prop} {E:Prop} (hgd:o.guard=none) (s x:Operand) (t e:TypeId)
  (ho:o.op=.call {callee:=.builtin .append,args:=#[s,x],argTypes:=#[t,t]}) (i:TypeInfo) (z:Value) (ht:Tryz.prog.underlying t=some (.slice e)) (hi:Tryz.prog.info? e=some i) (hz:i.zero=some z) (h1:i.size=1) (h24:i.bytes=16) (hzs:z.cells.size=1)
  (C:Nat) (v:Value) (n:Nat) (xs:List Value) (hs:a.eval s=v) (hown:w.ownsRow C e 1 v n xs)
  (ad:Addr) (c:Nat) (u:Value) (hx:a.eval x=.slice (some ad) 1 c) (hnews:w.cell? ad=some u) (hu:u.oneCell'=true)
  (hsm:n≤100) (hbase:C≤w.heap.size)
  (h:∀v' w',w'.ownsRow C e 1 v' (n+1) (xs++[u])→w.grownBy w' v.ownBlock→(v'.ownBlock=v.ownBlock∨v'.ownBlock=some w.heap.size)→K (a.put o.dst v') w') :
  if Region.wanted o (yielded ops a.tmps)=true then Oper.wp Tryz.prog o a w K Q else E:=by
 have hw:Region.wanted o (yielded ops a.tmps)=true:=by simp[Region.wanted,hgd]
 rw[if_pos hw]
 obtain⟨v',w',hrun,h2,h3,_,h5⟩:=run_append_own_at (P:=Tryz.prog) w C t o.type e i z 1 16 ht hi hz h1 h24 hzs (by decide) v n xs hown ad 1 c [u] rfl (fun j q hj=>by
  match j,hj with
  | 0,hj=>simp at hj;subst hj;simpa[Addr.add]using hnews
  | j+1,hj=>simp at hj) (fun q hq=>by simp at hq;subst hq;exact hu) (by unfold maxLen;omega) (by omega) hbase
 unfold Oper.wp execOp
 simp only[ho,resolve,invoke,builtin,Sem.run_bind,Sem.run_pure,Result.andThen_ok,List.map_toArray,List.map_cons,List.map_nil,hs,hx,hrun]
 exact h v' w' h2 h3 h5
theorem ints2 (w:World) (n j:Nat):IsInts (w.alloc (.cells #[.int .i64 (n:Int),.int .i64 (j:Int)] 3)) (some ⟨w.heap.size,0,none⟩) [(n:Int),(j:Int)]:=fun i hi=>by
 match i,hi with
 | 0,_=>exact⟨_,0,rfl,by simp,aG _ _ 3 _ 0 _ rfl rfl⟩
 | 1,_=>exact⟨_,0,rfl,by simp,aG _ _ 3 _ 1 _ rfl rfl⟩
theorem stepW_prog (kd n j:Nat) (h:kd=1∨kd=2):cJ (kd,n,j)=((if (kd:Int)=1 then [114,101,97,100] else [119,114,105,116,101])++[32])++txt [(n:Int),(j:Int)]:=by
 have e:txt [(n:Int),(j:Int)]=cY n++([32]++cY j):=by
  unfold txt
  rw[List.map_cons,List.map_cons,List.map_nil,Lib.join_cons]
  simp[Lib.joinTail]
 rw[e]
 rcases h with rfl | rfl
 ·simp[cJ,rdW]
 ·simp[cJ,wrW]
theorem txt2_len (n j:Nat) (h1:n≤100) (h2:j≤100):(txt [(n:Int),(j:Int)]).length≤7:=by
 have e:txt [(n:Int),(j:Int)]=cY n++([32]++cY j):=by
  unfold txt
  rw[List.map_cons,List.map_cons,List.map_nil,Lib.join_cons]
  simp[Lib.joinTail]
 have a:=eJ n h1
 have b:=eJ j h2
 rw[e];simp;omega
section
variable (P:Nat) (D:Nat→Prop) (m:Int) (la:Option Addr) (lc:Nat) (l:List TxA) (ba:Option Addr) (bc:Nat) (bg:List Int) (q:Q4) (S:SA) (w:World)
theorem clkCan_over (h:Clk P D m la lc l ba bc bg q S w) (hst:dB m l S=0) (ho:jW m l S=true):Calls Tryz.prog 116 #[.pointer (some ⟨P,0,none⟩)] w fun e w'=>e=.returned (aL [111,118,101,114])∧Below w.heap.size w w':=by
 have CV:=aJ (xM P D m la lc l ba bc bg q S w h hst)
 rw[ho]at CV
 clear h hst ho
 go_enter Tryz.func116,Tryz.ntmps116
 go_wp2_with fail
 refine CV.out.mono ?_
 rintro e w1 ⟨rfl,hb1⟩
 have B1:=aJ hb1
 clear hb1
 go_wp2
 go_ret
 exact⟨rfl,B1.out⟩
theorem tQ (L:List (Nat×Nat×Nat)) (k:Nat) (h:k<L.length):(L.take (k+1)).map cJ=(L.take k).map cJ++[cJ (L.getD k (0,0,0))]:=by
 rw[List.take_succ_eq_append_getElem h,List.map_append]
 simp[List.getD,h]
theorem xN (h:Clk P D m la lc l ba bc bg q S w) (hst:dB m l S=0) (ho:jW m l S=false) (hL:∀p∈bE m l S,(p.1=1∨p.1=2)∧p.2.1≤100∧p.2.2≤100) (hn:(bE m l S).length≤64) (hs:Std w):Calls Tryz.prog 116 #[.pointer (some ⟨P,0,none⟩)] w fun e w'=>e=.returned (aL (fL (bE m l S)))∧Below w.heap.size w w':=by
 obtain⟨i0,hi,hz0,hz1,hz2⟩:=info_parts Tryz.info9
 have CV:=aJ (xM P D m la lc l ba bc bg q S w h hst)
 rw[ho]at CV
 have CN:Hid (∀w',Below w.heap.size w w'→Calls Tryz.prog 150 #[.pointer (some ⟨P,0,none⟩)] w' fun e w''=>∃xa xc,e=.returned (.slice xa (bE m l S).length xc)∧IsSteps w'' xa (bE m l S)∧Below w'.heap.size w' w''):=fun w' hb=>clkOpen P D m la lc l ba bc bg q S w' (h.on hb) hst
 have S0:=aJ hs
 have HL:=aJ hL
 clear h hst ho hs hL
 generalize bE m l S=L at *
 go_enter Tryz.func116,Tryz.ntmps116
 go_wp2_with fail
 refine CV.out.mono ?_
 rintro e w1 ⟨rfl,hb1⟩
 have B1:=aJ hb1
 clear hb1 CV
 go_wp2_with fail
 refine(CN.out _ B1.out).mono ?_
 rintro e w2 ⟨xa,xc,rfl,hX,hb2⟩
 have HX:=aJ hX
 have B2:Hid (Below w.heap.size w w2):=aC B1.out hb2
 clear hX hb2 CN B1
 go_wp2
 go_loopw [3,5,11] (fun v _ i wr=>∃(k:Nat) (ws:List (List UInt8)),k≤L.length∧i=.int .i64 (k:Nat)∧Hid (ws=(L.take k).map cJ)∧ws.length≤64∧Hid (wr.ownsRow w2.heap.size 9 1 v ws.length (ws.map aL))∧Hid (Below w2.heap.size w2 wr)) (fun _ _ i _=>L.length - (intOf i).toNat)
 case atStart=>exact⟨0,[],Nat.zero_le _,rfl,rfl,Nat.zero_le _,World.ownsRow_nil _ _ _ _,Below.refl _ _⟩
 case round=>
  obtain⟨k,ws,hk,rfl,HWS,hwl0,HO0,hB⟩:=hrel
  by_cases hlt:k<L.length
  ·obtain⟨b,off,rfl,hlb,c0,c1,c2⟩:=HX.out k hlt
   have d0:=aB hB.out c0
   have d1:=aB hB.out c1
   have d2:=aB hB.out c2
   have HST:=aJ (tQ L k hlt)
   have hp:=HL.out (L.getD k (0,0,0)) (by simp[List.getD,hlt])
   have i1:(k:Int)<(L.length:Int):=by omega
   have hwl:ws.length≤100:=by omega
   have hwk:Hid (ws.length=k):=by
    show _=_
    rw[HWS.out,List.length_map,List.length_take];omega
   clear c0 c1 c2 HX HL
   obtain⟨⟨kd,n,j⟩,hP⟩:∃p,p=L.getD k (0,0,0):=⟨_,rfl⟩
   rw[←hP]at d0 d1 d2 HST hp
   clear hP
   simp only at d0 d1 d2 hp
   have HPW:=aJ (stepW_prog kd n j hp.1)
   have CW:Hid (∀w:World,Calls Tryz.prog 151 #[.int .i64 (kd:Int)] w fun e w'=>e=.returned (aL (if (kd:Int)=1 then [114,101,97,100] else [119,114,105,116,101]))∧Below w.heap.size w w'):=fun w=>(wordOf_any kd w).mono fun _ _ ⟨he,hw⟩=>⟨he,by rw[hw];exact Below.refl _ _⟩
   have CT:Hid (∀(w:World) (a:Option Addr) (c:Nat),Std w→IsInts w a [(n:Int),(j:Int)]→Calls Tryz.prog 117 #[.slice a 2 c] w fun e w'=>e=.returned (aL (txt [(n:Int),(j:Int)]))∧Below w.heap.size w w'):=fun w a c hs h=>rE a c [(n:Int),(j:Int)] (fun z hz=>by
    rcases List.mem_cons.1 hz with rfl | hz
    ·omega
    ·rw[List.mem_singleton.1 hz];omega) (by simp) w hs h
   have lt2:=txt2_len n j hp.2.1 hp.2.2
   obtain⟨wd,hwd⟩:∃wd:List UInt8,wd=(if (kd:Int)=1 then [114,101,97,100] else [119,114,105,116,101]):=⟨_,rfl⟩
   have lw:wd.length≤5:=by rw[hwd];split <;> decide
   rw[←hwd]at CW HPW
   clear hwd
   obtain⟨tx,htx⟩:∃tx,tx=txt [(n:Int),(j:Int)]:=⟨_,rfl⟩
   rw[←htx]at CT HPW lt2
   clear htx
   have f1:=cat1 wd [32] (by simp;omega)
   have f2:=cat1 (wd++[32]) tx (by simp;omega)
   rw[←HPW.out]at f2
   obtain⟨T2,hT2⟩:∃T2,T2=ByteArray.mk (cJ (kd,n,j)).toArray:=⟨_,rfl⟩
   rw[←hT2]at f2
   have HT2:=aJ hT2
   clear hT2 HPW
   unfold aL at CW CT
   generalize ByteArray.mk (wd++[32]).toArray=T1 at *
   generalize hWB:ByteArray.mk wd.toArray=WB at *
   generalize hTB:ByteArray.mk tx.toArray=TB at *
   clear hWB hTB
   go_upto_region 7 with fail
   obtain⟨W,hW⟩:∃W:World,W=wr.alloc (.cells #[.int .i64 (kd:Int),.int .i64 (n:Int),.int .i64 (j:Int)] 33):=⟨_,rfl⟩
   rw[←hW]
   have BW:Hid (Below w.heap.size w W):=by rw[hW];exact aA (aC B2.out hB.out) _
   have HBW:Hid (Below w2.heap.size w2 W):=by rw[hW];exact aA hB.out _
   have HW2:Hid (w2.heap.size≤W.heap.size):=HBW.out.size
   have HWr:Hid (wr.heap.size<W.heap.size):=by show _<_;rw[hW];simp
   have HO:=aJ (HO0.out.alloc (.cells #[.int .i64 (kd:Int),.int .i64 (n:Int),.int .i64 (j:Int)] 33))
   rw[←hW]at HO
   have KS:Hid (∀w',Below W.heap.size W w'→w'.cell? ⟨wr.heap.size,0,none⟩=some (.int .i64 (kd:Int))∧w'.cell? ⟨wr.heap.size,1,none⟩=some (.int .i64 (n:Int))∧w'.cell? ⟨wr.heap.size,2,none⟩=some (.int .i64 (j:Int))):=fun w' hb=>by
    subst hW
    exact⟨aB hb (aG _ _ 33 _ 0 _ rfl rfl),aB hb (aG _ _ 33 _ 1 _ rfl rfl),aB hb (aG _ _ 33 _ 2 _ rfl rfl)⟩
   obtain⟨v,hv⟩:∃v,v=u3:=⟨_,rfl⟩
   rw[←hv]at HO HO0 ⊢
   clear hv hW
   have PF0:Hid (∀(wa w5:World),Below W.heap.size W wa→wa.grownBy w5 v.ownBlock→w5.cell? ⟨wr.heap.size,0,none⟩=some (.int .i64 (kd:Int))∧w5.cell? ⟨wr.heap.size,1,none⟩=some (.int .i64 (n:Int))∧w5.cell? ⟨wr.heap.size,2,none⟩=some (.int .i64 (j:Int))):=fun wa w5 hb hg=>by
    have hne:some wr.heap.size≠v.ownBlock:=fun e=>by have:=(HO0.out.lt _ e.symm).2;omega
    have hlt:wr.heap.size<wa.heap.size:=Nat.lt_of_lt_of_le HWr.out hb.size
    obtain⟨x0,x1,x2⟩:=KS.out wa hb
    exact⟨(World.cell?_of_block (a:=⟨wr.heap.size,0,none⟩) (hg.block _ hlt hne)).trans x0,(World.cell?_of_block (a:=⟨wr.heap.size,1,none⟩) (hg.block _ hlt hne)).trans x1,(World.cell?_of_block (a:=⟨wr.heap.size,2,none⟩) (hg.block _ hlt hne)).trans x2⟩
   clear d0 d1 d2 HO0
   refine wp_region_held_drew (S:=(fun w'=>w'.cell? ⟨wr.heap.size,0,none⟩=some (.int .i64 (kd:Int))∧w'.cell? ⟨wr.heap.size,1,none⟩=some (.int .i64 (n:Int))∧w'.cell? ⟨wr.heap.size,2,none⟩=some (.int .i64 (j:Int)))) (by kernel_rfl) ?_ (fun hHeld=>?_)
   ·exact KS.out _ (aD (Below.refl _ _))
   refine tk 0 ?_
   refine tk 1 ?_
   refine tk 2 ?_
   refine tk 5 ?_
   refine tk 6 ?_
   refine tk 7 ?_
   refine tk 8 ?_
   refine wpAnyH_ready (rs:=[3,9]) (by kernel_rfl) (by simp) ?_
   refine rc (fun K hK=>?_) (rc (fun K hK=>?_) (AllReadyH.nil))
   ·go_simp
    go_wp2_with (go_at_call 151;refine(CW.out _).mono ?_;rintro e w3 ⟨rfl,hb3⟩)
    have B3:Hid (Below W.heap.size W w3):=aC (aD (Below.refl W.heap.size W)) hb3
    have HB3:=aJ hb3
    clear hb3
    clear hHeld
    refine hK.out _ _ (KS.out _ B3.out) (fun hHeld=>?_)
    clear hK K
    refine tk 4 ?_
    refine r1 9 (fun K hK=>?_)
    go_simp
    have B9:=aJ (aA B3.out (.cells #[.int .i64 (n:Int),.int .i64 (j:Int)] 3))
    clear hHeld
    refine hK.out _ _ (KS.out _ B9.out) (fun hHeld=>?_)
    clear hK K
    refine r1 10 (fun K hK=>?_)
    go_simp
    go_wp2_with (go_at_call 117;refine(CT.out _ _ _ (S0.out.on (aC BW.out B9.out)) (ints2 _ _ _)).mono ?_;rintro e w4 ⟨rfl,hb4⟩)
    have B4:Hid (Below W.heap.size W w4):=aC B9.out hb4
    clear hb4
    clear hHeld
    refine hK.out _ _ (KS.out _ B4.out) (fun hHeld=>?_)
    clear hK K
    refine tk 11 ?_
    refine r1 12 (fun K hK=>?_)
    go_simp
    have B5:=aJ (aA B4.out (.cells #[.string T2] 9))
    have HO5:=aJ ((dA HO.out B4.out).alloc (.cells #[.string T2] 9))
    clear hHeld
    refine hK.out _ _ (KS.out _ B5.out) (fun hHeld=>?_)
    clear hK K
    refine r1 13 (fun K hK=>?_)
    refine kI (by rfl) _ _ 55 9 (by rfl) i0 _ Tryz.underlying55 hi hz0 hz1 hz2 rfl w2.heap.size v ws.length _ (by rfl) HO5.out ⟨w4.heap.size,0,none⟩ 1 (.string T2) (by rfl) (aG _ _ 9 _ 0 _ rfl rfl) rfl hwl (Nat.le_trans HW2.out B5.out.size) ?_
    intro v' w5 ho5 hg5 _
    have HO6:=aJ ho5
    have PF:=aJ (PF0.out _ w5 B5.out hg5)
    have BF:Hid (Below w2.heap.size w2 w5):=((HBW.out).trans (B5.out.mono HW2.out)).grown hg5 (Nat.le_trans HW2.out B5.out.size) (fun j hj=>(HO5.out.lt j hj).1)
    clear ho5 hg5
    clear hHeld
    refine hK.out _ _ (PF.out) (fun hHeld=>?_)
    clear hK K
    refine tk 14 ?_
    refine wpAnyH_done (by kernel_rfl) ?_ _
    have R:Hid (w5.ownsRow w2.heap.size 9 1 v' (ws++[cJ (kd,n,j)]).length ((ws++[cJ (kd,n,j)]).map aL)):=by
     show World.ownsRow _ _ _ _ _ _ _
     have:=HO6.out
     rw[HT2.out]at this
     rw[List.length_append,List.map_append];exact this
    have HW':Hid (ws++[cJ (kd,n,j)]=(L.take (k+1)).map cJ):=by
     show _=_
     rw[HST.out,HWS.out]
    have hl1:(ws++[cJ (kd,n,j)]).length≤64:=by rw[List.length_append,hwk.out,List.length_singleton];omega
    clear hHeld
    go_wp2
    go_roundw
    case rel=>exact⟨k+1,ws++[cJ (kd,n,j)],by omega,by go_num,HW',hl1,R,BF⟩
    case measure=>simp[intOf];omega
   ·go_simp
    have B9:=aJ (aA (aD (Below.refl W.heap.size W)) (.cells #[.int .i64 (n:Int),.int .i64 (j:Int)] 3))
    clear hHeld
    refine hK.out _ _ (KS.out _ B9.out) (fun hHeld=>?_)
    clear hK K
    refine r1 3 (fun K hK=>?_)
    go_simp
    go_wp2_with (go_at_call 151;refine(CW.out _).mono ?_;rintro e w3 ⟨rfl,hb3⟩)
    have B3:Hid (Below W.heap.size W w3):=aC B9.out hb3
    have HB3:=aJ hb3
    clear hb3
    clear hHeld
    refine hK.out _ _ (KS.out _ B3.out) (fun hHeld=>?_)
    clear hK K
    refine tk 4 ?_
    refine r1 10 (fun K hK=>?_)
    go_simp
    go_wp2_with (go_at_call 117;refine(CT.out _ _ _ (S0.out.on (aC BW.out B3.out)) ((ints2 W.drew n j).below HB3.out)).mono ?_;rintro e w4 ⟨rfl,hb4⟩)
    have B4:Hid (Below W.heap.size W w4):=aC B3.out hb4
    clear hb4
    clear hHeld
    refine hK.out _ _ (KS.out _ B4.out) (fun hHeld=>?_)
    clear hK K
    refine tk 11 ?_
    refine r1 12 (fun K hK=>?_)
    go_simp
    have B5:=aJ (aA B4.out (.cells #[.string T2] 9))
    have HO5:=aJ ((dA HO.out B4.out).alloc (.cells #[.string T2] 9))
    clear hHeld
    refine hK.out _ _ (KS.out _ B5.out) (fun hHeld=>?_)
    clear hK K
    refine r1 13 (fun K hK=>?_)
    refine kI (by rfl) _ _ 55 9 (by rfl) i0 _ Tryz.underlying55 hi hz0 hz1 hz2 rfl w2.heap.size v ws.length _ (by rfl) HO5.out ⟨w4.heap.size,0,none⟩ 1 (.string T2) (by rfl) (aG _ _ 9 _ 0 _ rfl rfl) rfl hwl (Nat.le_trans HW2.out B5.out.size) ?_
    intro v' w5 ho5 hg5 _
    have HO6:=aJ ho5
    have PF:=aJ (PF0.out _ w5 B5.out hg5)
    have BF:Hid (Below w2.heap.size w2 w5):=((HBW.out).trans (B5.out.mono HW2.out)).grown hg5 (Nat.le_trans HW2.out B5.out.size) (fun j hj=>(HO5.out.lt j hj).1)
    clear ho5 hg5
    clear hHeld
    refine hK.out _ _ (PF.out) (fun hHeld=>?_)
    clear hK K
    refine tk 14 ?_
    refine wpAnyH_done (by kernel_rfl) ?_ _
    have R:Hid (w5.ownsRow w2.heap.size 9 1 v' (ws++[cJ (kd,n,j)]).length ((ws++[cJ (kd,n,j)]).map aL)):=by
     show World.ownsRow _ _ _ _ _ _ _
     have:=HO6.out
     rw[HT2.out]at this
     rw[List.length_append,List.map_append];exact this
    have HW':Hid (ws++[cJ (kd,n,j)]=(L.take (k+1)).map cJ):=by
     show _=_
     rw[HST.out,HWS.out]
    have hl1:(ws++[cJ (kd,n,j)]).length≤64:=by rw[List.length_append,hwk.out,List.length_singleton];omega
    clear hHeld
    go_wp2
    go_roundw
    case rel=>exact⟨k+1,ws++[cJ (kd,n,j)],by omega,by go_num,HW',hl1,R,BF⟩
    case measure=>simp[intOf];omega
  ·have hkk:k=L.length:=by omega
   have i1:¬(k:Int)<(L.length:Int):=by omega
   have hW:ws=L.map cJ:=by rw[HWS.out,hkk,List.take_length]
   have hbl:∀x∈ws,x.length≤20:=fun x hx=>by
    rw[hW]at hx
    obtain⟨p,hp,rfl⟩:=List.mem_map.1 hx
    have:=HL.out p hp
    exact uG p this.2.1 this.2.2
   have CJ:=aJ (join_own ws [59,32] wr w2.heap.size u3 HO0.out (by omega) (by
    have:=join_len [59,32] 20 ws hbl
    have h2:ws.length*(20 + [59,32].length)≤64*22:=Nat.mul_le_mul hwl0 (Nat.le_refl _)
    omega))
   have HR:Hid (Lib.join ws [59,32]=fL L):=by show _=_;rw[hW];rfl
   clear HO0 HWS hW hbl HL
   go_wp2_with fail
   refine CJ.out.mono ?_
   rintro e w5 ⟨rfl,hb5⟩
   have RB:Hid (Below w.heap.size w w5):=aC B2.out (aC hB.out hb5)
   clear hb5 CJ
   go_wp2
   go_ret
   exact⟨by rw[←HR.out];rfl,RB.out⟩
end
end
section
def yS (m:Int) (l:List TxA) (S:SA):SA:=pV m l S (((bE m l S).getD 0 (0,0,0)).1:Nat) (((bE m l S).getD 0 (0,0,0)).2.1:Nat) (((bE m l S).getD 0 (0,0,0)).2.2:Nat)
def qJ (m:Int) (l:List TxA) (S:SA):Nat→SA
 | 0=>S
 | i+1=>yS m l (qJ m l S i)
def rNf (m:Int) (l:List TxA):Nat→SA→Nat
 | 0,_=>0
 | f+1,S=>if jW m l S=true then 0 else rNf m l f (yS m l S)+1
def rN (m:Int) (l:List TxA) (S:SA):Nat:=rNf m l 65 S
structure OkDesk (m:Int) (l:List TxA) (bg:List Int) (S:SA):Prop where
 st:dB m l S=0
 s8:S.st.length=8
 i64:∀z∈S.st,-9223372036854775808≤z∧z≤9223372036854775807
 rx:RX m l (qJ m l S) (rN m l S)
 cl:∀p∈bE m l S,(p.1=1∨p.1=2)∧p.2.1≤100∧p.2.2≤100
 cn:(bE m l S).length≤64
 au:mG m l S=0→mR bg l S.st (kN m l S)=0
 av : -1≤jD bg l S.st (kN m l S)∧jD bg l S.st (kN m l S)≤100
 pl:∀k v,iI m l (S.st.set k v)=0
def eC (m:Int) (l:List TxA) (bg:List Int) (S:SA) (x:List UInt8):Except Int (List UInt8×SA):=
 if x=[99,97,110] then .ok (if jW m l S=true then [111,118,101,114] else fL (bE m l S),S)
 else if x=[115,116,111,114,101] then .ok (txt S.st,S)
 else if x=[114,101,115,116] then .ok (cY (rN m l S:Nat),qJ m l S (rN m l S))
 else if x=[97,117,100,105,116] then (if mG m l S=0 then .ok (cY (jD bg l S.st (kN m l S)),S) else .error (mG m l S))
 else .error 1
def TelP (P:Nat) (D:Nat→Prop) (m:Int) (la:Option Addr) (lc:Nat) (l:List TxA) (ba:Option Addr) (bc:Nat) (bg:List Int) (w:World) (r:Except Int (List UInt8×SA)) (e:Ending) (w':World):Prop:=match r with
 | .ok p=>e=.returned (aL p.1)∧∃(q2:Q4) (D2:Nat→Prop),Clk P D2 m la lc l ba bc bg q2 p.2 w'∧(∀b,D2 b→D b∨w.heap.size≤b)∧w.grownBy w' (some P)
 | .error x=>e=.panicked [{v:=.iface 22 (.int .i64 x),recovered:=false}]∧¬x=0∧Below w.heap.size w w'
theorem gotS_pan (s:ByteArray) (x:Int) (hx:¬x=0) (w:World):Calls Tryz.prog 124 #[.string s,.int .i64 x] w fun e' w'=>e'=.panicked [{v:=.iface 22 (.int .i64 x),recovered:=false}]∧Below w.heap.size w w':=by
 go_enter Tryz.func124,Tryz.ntmps124
 go_wp2_with fail
 refine(cF [x] 0 x _ 1 _ (by simp) (by simp) (by simp) rfl hx (cD _ _ _ (by simp))).mono ?_
 rintro e w' ⟨rfl,rfl⟩
 go_wp2
 exact⟨rfl,rfl,aA (Below.refl _ _) _⟩
theorem mL (w:World):Calls Tryz.prog 84 #[] w fun e' w'=>e'=.panicked [{v:=.iface 22 (.int .i64 1),recovered:=false}]∧Below w.heap.size w w':=by
 have C:=aJ (gotS_pan ⟨#[]⟩ 1 (by decide) w)
 go_enter Tryz.func84,Tryz.ntmps84
 go_wp2_with fail
 refine C.out.mono ?_
 rintro e w' ⟨rfl,hb⟩
 have HB:=aJ hb
 clear hb C
 go_wp2
 exact⟨rfl,rfl,HB.out⟩
theorem ne_str2 {x c:List UInt8} (h:¬x=c):¬(ByteArray.mk x.toArray).toList=c:=by
 rw[ByteArray.toList_eq];exact h
theorem jY {x c:List UInt8} (h:¬x=c):((ByteArray.mk x.toArray).toList==c)=false:=by
 have:=ne_str2 h
 simpa using this
section
variable (P:Nat) (D:Nat→Prop) (m:Int) (la:Option Addr) (lc:Nat) (l:List TxA) (ba:Option Addr) (bc:Nat) (bg:List Int) (q:Q4) (S:SA) (w:World)
theorem clkTell (x:List UInt8) (h:Clk P D m la lc l ba bc bg q S w) (hk:OkDesk m l bg S) (hs:Std w) (hs2:∀w',Below P w w'→Std w'):Calls Tryz.prog 82 #[.pointer (some ⟨P,0,none⟩),aL x] w fun e w'=>TelP P D m la lc l ba bc bg w (eC m l bg S x) e w':=by
 have H:=aJ h
 have HK:=aJ hk
 have S0:=aJ hs
 have HS2:=aJ hs2
 clear h hk hs hs2
 by_cases h1:x=[99,97,110]
 ·have e1:eC m l bg S x=.ok (if jW m l S=true then [111,118,101,114] else fL (bE m l S),S):=if_pos h1
  have CC:Hid (Calls Tryz.prog 116 #[.pointer (some ⟨P,0,none⟩)] w fun e w'=>e=.returned (aL (if jW m l S=true then [111,118,101,114] else fL (bE m l S)))∧Below w.heap.size w w'):=by
   by_cases ho:jW m l S=true
   ·rw[if_pos ho];exact clkCan_over P D m la lc l ba bc bg q S w H.out HK.out.st ho
   ·rw[if_neg ho];exact xN P D m la lc l ba bc bg q S w H.out HK.out.st (by simpa using ho) HK.out.cl HK.out.cn S0.out
  rw[e1]
  subst h1
  generalize (if jW m l S=true then [111,118,101,114] else fL (bE m l S))=T at *
  go_enter Tryz.func82,Tryz.ntmps82
  go_wp2_with fail
  refine CC.out.mono ?_
  rintro e w1 ⟨rfl,hb1⟩
  have B1:=aJ hb1
  clear hb1 CC
  go_wp2
  go_ret
  exact⟨rfl,q,D,H.out.on B1.out,fun b h=>.inl h,aX B1.out⟩
 by_cases h2:x=[115,116,111,114,101]
 ·have e1:eC m l bg S x=.ok (txt S.st,S):=by rw[eC,if_neg h1,if_pos h2]
  rw[e1]
  subst h2
  obtain⟨k0,k1,k2,k3,k4,k5,k6⟩:=H.out.cs
  have hsn:=H.out.sta.1
  rw[hsn]at k3
  have CC:=aJ (rE q.sa q.sc S.st HK.out.i64 (by rw[HK.out.s8];decide) w S0.out H.out.sta.2.2.2.2.st)
  clear k0 k1 k2 k4 k5 k6 hsn h1 e1
  generalize txt S.st=T at *
  go_enter Tryz.func82,Tryz.ntmps82
  go_wp2_with fail
  refine CC.out.mono ?_
  rintro e w1 ⟨rfl,hb1⟩
  have B1:=aJ hb1
  clear hb1 CC
  go_wp2
  go_ret
  exact⟨rfl,q,D,H.out.on B1.out,fun b h=>.inl h,aX B1.out⟩
 by_cases h3:x=[114,101,115,116]
 ·have e1:eC m l bg S x=.ok (cY (rN m l S:Nat),qJ m l S (rN m l S)):=by rw[eC,if_neg h1,if_neg h2,if_pos h3]
  rw[e1]
  subst h3
  have hf:=HK.out.rx.few
  have CC:=aJ (clkRest P D m la lc l ba bc bg q w (qJ m l S) (rN m l S) H.out HK.out.rx)
  clear h1 h2 e1
  generalize rN m l S=K at *
  go_enter Tryz.func82,Tryz.ntmps82
  go_wp2_with fail
  refine CC.out.mono ?_
  rintro e w1 ⟨rfl,q2,D2,hc,hd,hg⟩
  have HC:=aJ hc
  have HD:=aJ hd
  have HG:=aJ hg
  have hW:Below P w w1:=⟨hg.os,hg.tape,hg.output,hg.size,fun b hb=>hg.block b (Nat.lt_trans hb H.out.pl) (fun e=>by injection e with e;omega)⟩
  have CI:=aJ (oQ (K:Nat) (by omega) (by omega) w1 (HS2.out w1 hW))
  clear hc hd hg CC hW
  go_wp2_with fail
  refine CI.out.mono ?_
  rintro e w2 ⟨rfl,hb2⟩
  have B2:=aJ hb2
  clear hb2 CI
  go_wp2
  go_ret
  exact⟨rfl,q2,D2,HC.out.on B2.out,HD.out,cR HG.out (aX B2.out)⟩
 by_cases h4:x=[97,117,100,105,116]
 ·by_cases hr:mG m l S=0
  ·have e1:eC m l bg S x=.ok (cY (jD bg l S.st (kN m l S)),S):=by rw[eC,if_neg h1,if_neg h2,if_neg h3,if_pos h4,if_pos hr]
   rw[e1]
   subst h4
   have hv:=HK.out.av
   have CC:=aJ (clkAudit_ok P D m la lc l ba bc bg q S w H.out hr (HK.out.au hr))
   clear h1 h2 h3 e1 hr
   generalize jD bg l S.st (kN m l S)=A at *
   go_enter Tryz.func82,Tryz.ntmps82
   go_wp2_with fail
   refine CC.out.mono ?_
   rintro e w1 ⟨rfl,hb1⟩
   have B1:=aJ hb1
   have CI:=aJ (oQ A (by omega) (by omega) w1 (S0.out.on hb1))
   clear hb1 CC
   go_wp2_with fail
   refine CI.out.mono ?_
   rintro e w2 ⟨rfl,hb2⟩
   have B2:Hid (Below w.heap.size w w2):=aC B1.out hb2
   clear hb2 CI
   go_wp2
   go_ret
   exact⟨rfl,q,D,H.out.on B2.out,fun b h=>.inl h,aX B2.out⟩
  ·have e1:eC m l bg S x=.error (mG m l S):=by rw[eC,if_neg h1,if_neg h2,if_neg h3,if_pos h4,if_neg hr]
   rw[e1]
   subst h4
   have CC:=aJ (xO P D m la lc l ba bc bg q S w H.out hr)
   have HR:=aJ hr
   clear h1 h2 h3 e1 hr
   generalize mG m l S=A at *
   go_enter Tryz.func82,Tryz.ntmps82
   go_wp2_with fail
   refine CC.out.mono ?_
   rintro e w1 ⟨rfl,hb1⟩
   have B1:=aJ hb1
   clear hb1 CC
   go_wp2
   exact⟨rfl,rfl,HR.out,B1.out⟩
 ·have e1:eC m l bg S x=.error 1:=by rw[eC,if_neg h1,if_neg h2,if_neg h3,if_neg h4]
  rw[e1]
  have m1:=jY h1
  have m2:=jY h2
  have m3:=jY h3
  have m4:=jY h4
  have CC:=aJ (mL w)
  clear h1 h2 h3 h4 e1
  unfold aL
  generalize ByteArray.mk x.toArray=X at *
  go_enter Tryz.func82,Tryz.ntmps82
  go_wp2_with fail
  refine CC.out.mono ?_
  rintro e w1 ⟨rfl,hb1⟩
  have B1:=aJ hb1
  clear hb1 CC
  go_wp2
  exact⟨rfl,rfl,by decide,B1.out⟩
end
end
end Go.Proofs.YtcgpkonfneofdaaGreatDoor
