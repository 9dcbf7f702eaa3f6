/- Conditions: those that each theorem states. -/
import Derived.Test.YtcgpkonfneofdaaGreatDoorSWireP
set_option maxRecDepth 100000
set_option maxHeartbeats 8000000
namespace Go.Proofs.YtcgpkonfneofdaaGreatDoor
open Go.RowKit
def XB (lo hi:Nat) (x:TxA):Prop:=InBlocks lo hi x.ra∧InBlocks lo hi x.ga∧InBlocks lo hi x.sa
theorem xJ {w w':World} {R lo hi:Nat} {a:Option Addr} {zs:List Int} (hg:w.grownBy w' (some R)) (h:IsInts w a zs) (hi:InBlocks lo hi a) (hlt:R<lo):IsInts w' a zs:=h.keptBy hg (fun ad e q=>by have:=(hi ad e).1;injection q with q;omega)
theorem gb_gs {w w':World} {R lo hi:Nat} {a:Option Addr} {zs:List Gd} (hg:w.grownBy w' (some R)) (h:IsGs w a zs) (hi:InBlocks lo hi a) (hlt:R<lo):IsGs w' a zs:=h.keptBy hg (fun ad e q=>by have:=(hi ad e).1;injection q with q;omega)
theorem gb_ss {w w':World} {R lo hi:Nat} {a:Option Addr} {zs:List St} (hg:w.grownBy w' (some R)) (h:IsSs w a zs) (hi:InBlocks lo hi a) (hlt:R<lo):IsSs w' a zs:=h.keptBy hg (fun ad e q=>by have:=(hi ad e).1;injection q with q;omega)
theorem xI (w:World) (R i:Nat) (v:Value):w.grownBy (w.setCell ⟨R,i,none⟩ v) (some R):=⟨rfl,rfl,rfl,by simp,fun b _ hb=>Below.heap_setCell _ _ _ _ (fun e=>hb (by rw[e]))⟩
theorem gb_x {w w':World} {R lo hi:Nat} {x:TxA} (hg:w.grownBy w' (some R)) (h:IsX w x) (hi:XB lo hi x) (hlt:R<lo):IsX w' x:=
 ⟨⟨xJ hg h.t.r hi.1 hlt,gb_gs hg h.t.g hi.2.1 hlt,gb_ss hg h.t.s hi.2.2 hlt,h.t.lr,h.t.lg,h.t.ls⟩,h.rn,h.gn,h.sn⟩
theorem XB.widen {lo hi lo' hi':Nat} {x:TxA} (h:XB lo hi x) (h1:lo'≤lo) (h2:hi≤hi'):XB lo' hi' x:=⟨h.1.widen h1 h2,h.2.1.widen h1 h2,h.2.2.widen h1 h2⟩
theorem rdTxn_any (P:Nat) (bs:List Int) (w:World) (h:RdS P w bs) :
  Calls Tryz.prog 71 #[.pointer (some ⟨P,0,none⟩)] w fun e w'=>RdR P w (kO bs) (fun c v w'=>∃x:TxA,v=.agg #[.slice x.ra x.rs.length x.rc,.slice x.ga x.gs.length x.gc,.slice x.sa x.ss.length x.sc]∧x.core=c∧IsX w' x∧XB w.heap.size w'.heap.size x) e w':=by
 have hmf:∀(fn:Fn) (first cap:Array Value) (w:World),(Instr.makeFunc fn first cap).run Tryz.prog w=.ok (.func fn first cap) w:=fun _ _ _ _=>rfl
 have hP:=h.lt
 obtain⟨W,hWe⟩:∃W,W=w.alloc (.cells #[.slice none 0 0,.slice none 0 0,.slice none 0 0] 95):=⟨_,rfl⟩
 have HWE:Hid (W=w.alloc (.cells #[.slice none 0 0,.slice none 0 0,.slice none 0 0] 95)):=hWe
 have H0:Hid (RdS P W bs):=by subst hWe;exact h.alloc _
 have G0:Hid (w.grownBy W (some P)):=by subst hWe;exact World.grownBy_alloc _ _ _
 have S0:Hid (w.heap.size<W.heap.size):=by subst hWe;show _<_;simp
 have c0:W.cell? ⟨w.heap.size,0,none⟩=some (.slice none 0 0):=by subst hWe;simp
 have c1:W.cell? ⟨w.heap.size,1,none⟩=some (.slice none 0 0):=by subst hWe;simp
 have c2:W.cell? ⟨w.heap.size,2,none⟩=some (.slice none 0 0):=by subst hWe;simp
 have f0:∀i,W.frozen? ⟨w.heap.size,i,none⟩=false:=by subst hWe;intro i;simp
 have hR:w.heap.size≠P:=by omega
 clear h hWe
 go_enter Tryz.func71,Tryz.ntmps71
 go_upto_region 1 with fail
 rw[←HWE.out]
 go_wp2_with fail
 refine(rdInts_any P bs _ H0.out).mono ?_
 rintro e w1 ⟨g,hm⟩
 cases hc:eQ fH bs with
 | none=>
  rw[hc]at hm
  have HG:Hid (kO bs=none):=by
   show kO bs=none
   simp[kO,hc]
  subst hm
  unfold dY
  go_wp2
  refine⟨rfl,G0.out.trans g,?_⟩
  rw[HG.out];rfl
 | some p=>
  obtain⟨l1,r1⟩:=p
  rw[hc]at hm
  obtain⟨v,rfl,ho,h1⟩:=hm
  have HL1:Hid (l1.length<256):=(iB zZ bs l1 r1 H0.out.byt hc).2.1
  have HC1:Hid (eQ fH bs=some (l1,r1)):=hc
  obtain⟨a1,k1,rfl,hi⟩:=fB ho
  have HI1:Hid (IsInts w1 a1 l1):=hi
  have HW1:Hid (InBlocks W.heap.size w1.heap.size a1∧(a1=none→k1=0)):=wT ho
  have H1:Hid (RdS P w1 r1):=h1
  have G1:Hid (w.grownBy w1 (some P)):=G0.out.trans g
  have T1:Hid (W.grownBy w1 (some P)):=g
  have c0:=aN g hR c0
  have c1:=aN g hR c1
  have c2:=aN g hR c2
  have f0:=bS g hR S0.out f0
  have S1:Hid (w.heap.size<w1.heap.size):=Nat.lt_of_lt_of_le S0.out g.size
  clear h1 g hc ho hi
  go_wp2_with fail
  refine(wR P r1 _ H1.out).mono ?_
  rintro e w2 ⟨g,hm⟩
  cases hc:eQ kJ r1 with
  | none=>
   rw[hc]at hm
   have HG:Hid (kO bs=none):=by
    show kO bs=none
    simp[kO,HC1.out,hc]
   subst hm
   unfold dY
   go_wp2
   refine⟨rfl,G1.out.trans g,?_⟩
   rw[HG.out];rfl
  | some p=>
   obtain⟨l2,r2⟩:=p
   rw[hc]at hm
   obtain⟨v,rfl,ho,h1⟩:=hm
   have HL2:Hid (l2.length<256):=(iB aAe r1 l2 r2 H1.out.byt hc).2.1
   have HC2:Hid (eQ kJ r1=some (l2,r2)):=hc
   obtain⟨a2,k2,rfl,hi⟩:=gs_of_owns ho
   have HI2:Hid (IsGs w2 a2 l2):=hi
   have HW2:Hid (InBlocks w1.heap.size w2.heap.size a2∧(a2=none→k2=0)):=wT ho
   have H2:Hid (RdS P w2 r2):=h1
   have G2:Hid (w.grownBy w2 (some P)):=G1.out.trans g
   have T2:Hid (w1.grownBy w2 (some P)):=g
   have c0:=aN g hR c0
   have c1:=aN g hR c1
   have c2:=aN g hR c2
   have f0:=bS g hR S1.out f0
   have S2:Hid (w.heap.size<w2.heap.size):=Nat.lt_of_lt_of_le S1.out g.size
   clear h1 g hc ho hi
   go_wp2_with fail
   refine(rdSets_any P r2 _ H2.out).mono ?_
   rintro e w3 ⟨g,hm⟩
   cases hc:eQ jF r2 with
   | none=>
    rw[hc]at hm
    have HG:Hid (kO bs=none):=by
     show kO bs=none
     simp[kO,HC1.out,HC2.out,hc]
    subst hm
    unfold dY
    go_wp2
    refine⟨rfl,G2.out.trans g,?_⟩
    rw[HG.out];rfl
   | some p=>
    obtain⟨l3,r3⟩:=p
    rw[hc]at hm
    obtain⟨v,rfl,ho,h1⟩:=hm
    have HL3:Hid (l3.length<256):=(iB zX r2 l3 r3 H2.out.byt hc).2.1
    have HC3:Hid (eQ jF r2=some (l3,r3)):=hc
    obtain⟨a3,k3,rfl,hi⟩:=ss_of_owns ho
    have HI3:Hid (IsSs w3 a3 l3):=hi
    have HW3:Hid (InBlocks w2.heap.size w3.heap.size a3∧(a3=none→k3=0)):=wT ho
    have H3:Hid (RdS P w3 r3):=h1
    have G3:Hid (w.grownBy w3 (some P)):=G2.out.trans g
    have T3:Hid (w2.grownBy w3 (some P)):=g
    have c0:=aN g hR c0
    have c1:=aN g hR c1
    have c2:=aN g hR c2
    have f0:=bS g hR S2.out f0
    have S3:Hid (w.heap.size<w3.heap.size):=Nat.lt_of_lt_of_le S2.out g.size
    clear h1 g hc ho hi
    have HG:Hid (kO bs=some ((l1,l2,l3),r3)):=by
     show kO bs=_
     simp[kO,HC1.out,HC2.out,HC3.out]
    obtain⟨y0,y1,y2⟩:=put3 (.slice a1 l1.length k1) (.slice a2 l2.length k2) (.slice a3 l3.length k3) c0 c1 c2
    have b0:=S0.out
    have b1:=T1.out.size
    have b2:=T2.out.size
    have b3:=T3.out.size
    have HX:Hid (IsX w3 ⟨a1,a2,a3,k1,k2,k3,l1,l2,l3⟩):=by
     have m1:=HL1.out
     have m2:=HL2.out
     have m3:=HL3.out
     exact⟨⟨xJ T3.out (xJ T2.out HI1.out HW1.out.1 (by omega)) HW1.out.1 (by omega),gb_gs T3.out HI2.out HW2.out.1 (by omega),HI3.out,by simp only;unfold maxLen;omega,by simp only;unfold maxLen;omega,by simp only;unfold maxLen;omega⟩,HW1.out.2,HW2.out.2,HW3.out.2⟩
    have HXB:Hid (XB (w.heap.size+1) w3.heap.size ⟨a1,a2,a3,k1,k2,k3,l1,l2,l3⟩):=⟨HW1.out.1.widen (by omega) (by omega),HW2.out.1.widen (by omega) (by omega),HW3.out.1.widen (by omega) (by omega)⟩
    clear b0 b1 b2 b3
    go_wp2_with fail
    refine bodyPost_ret (v:=.agg #[.slice a1 l1.length k1,.slice a2 l2.length k2,.slice a3 l3.length k3]) (by simp[results,Tryz.results71,go_sem,y0,y1,y2]) rfl ⟨(dJ (dJ (dJ G3.out (Nat.le_refl _) 0 _) (Nat.le_refl _) 1 _) (Nat.le_refl _) 2 _),?_⟩
    rw[HG.out]
    refine⟨_,rfl,⟨⟨a1,a2,a3,k1,k2,k3,l1,l2,l3⟩,rfl,rfl,?_,HXB.out.widen (by omega) (by simp)⟩,((H3.out.set hR).set hR).set hR⟩
    exact gb_x (xI _ _ _ _) (gb_x (xI _ _ _ _) (gb_x (xI _ _ _ _) HX.out HXB.out (Nat.lt_succ_self _)) HXB.out (Nat.lt_succ_self _)) HXB.out (Nat.lt_succ_self _)
theorem mU {w:World} {ops:Array Oper} {rest:List Oper} {o:Oper} {a:Act} {Q:Exit→Act→World→Prop} (hgd:o.guard=none) (s x:Operand)
  (ho:o.op=.call {callee:=.builtin .append,args:=#[s,x],argTypes:=#[27,27]})
  (C:Nat) (v:Value) (l:List TxA) (hs:a.eval s=v) (hown:TxRow C w v l)
  (ad:Addr) (y:TxA) (c:Nat) (hx:a.eval x=.slice (some ad) 1 c) (hnews:∀j u,(gZ y)[j]?=some u→w.cell? (ad.add j)=some u) (hm:IsX w y∧XIn C w.heap.size v y)
  (hsm:l.length≤1000) (hbase:C≤w.heap.size)
  (h:∀v' w',TxRow C w' v' (l++[y])→w.grownBy w' v.ownBlock→wpList Tryz.prog ops Q rest (a.put o.dst v') w') :
  wpList Tryz.prog ops Q (o::rest) a w:=by
 obtain⟨i,hi,hz,hsz,hby⟩:=info_parts Tryz.info95
 refine wpList_append_own_at w hgd s x 27 ho C 95 i _ 3 72 Tryz.underlying27 hi hz hsz hby rfl (by decide) v l.length (fC l) hs hown.1 ad 1 c (gZ y) hx rfl hnews (fun u hu=>uX [y] u (by simpa[fC]using hu)) (by unfold maxLen;omega) (by omega) hbase ?_
 intro v' w' h2 h3 _ h5
 exact h v' w' (hown.push (m:=[y]) (by simpa[fC]using h2) h3 h5 (fun x hx=>by simp only[List.mem_singleton]at hx;subst hx;exact hm)) h3
theorem XB.xin {C lo hi:Nat} {v:Value} {x:TxA} (h:XB lo hi x) (hC:C≤lo) (hv:∀j,v.ownBlock=some j→j<lo):XIn C hi v x:=
 ⟨h.1.widen hC (Nat.le_refl _),h.2.1.widen hC (Nat.le_refl _),h.2.2.widen hC (Nat.le_refl _),fun ad e q=>by have:=hv _ q;have:=(h.1 ad e).1;omega,fun ad e q=>by have:=hv _ q;have:=(h.2.1 ad e).1;omega,fun ad e q=>by have:=hv _ q;have:=(h.2.2 ad e).1;omega⟩
theorem rdTxns_any (P:Nat) (bs:List Int) (w:World) (h:RdS P w bs) :
  Calls Tryz.prog 70 #[.pointer (some ⟨P,0,none⟩),.func (.func 71) #[.pointer (some ⟨P,0,none⟩)] #[]] w fun e w'=>RdR P w (eQ kO bs) (fun l v w'=>∃cl,TxRow w.heap.size w' v cl∧cl.map TxA.core=l) e w':=by
 have hP:=h.lt
 have HB:Hid (Byt bs):=h.byt
 have H0:Hid (RdS P w bs):=h
 clear h
 go_enter Tryz.func70,Tryz.ntmps70
 go_wp2_with fail
 refine(dF P bs _ H0.out).mono ?_
 rintro e w1 ⟨g,hm⟩
 cases hc:fH bs with
 | none=>
  rw[hc]at hm
  have HG:Hid (eQ kO bs=none):=by
   show eQ kO bs=none
   simp[eQ,hc]
  subst hm
  unfold dY
  go_wp2
  refine⟨rfl,g,?_⟩
  rw[HG.out];rfl
 | some p=>
  obtain⟨b,r0⟩:=p
  rw[hc]at hm
  obtain⟨v,rfl,rfl,h1⟩:=hm
  obtain⟨hb0,hb1⟩:=HB.out b (qT hc)
  obtain⟨n,rfl⟩:∃n:Nat,b=n:=⟨b.toNat,by omega⟩
  have HL:Hid (eQ kO bs=iP kO n r0):=by
   show eQ kO bs=_
   simp[eQ,hc]
  have H1:Hid (RdS P w1 r0):=h1
  have G1:Hid (w.grownBy w1 (some P)):=g
  clear h1 g hc hb0
  go_wp2
  go_loopw [5,8] (fun v i wr=>∃(k:Nat) (l:List TxA) (r:List Int),k≤n∧i=.int .i64 k∧l.length=k∧Hid (iP kO n r0=(iP kO (n - k) r).map fun q=>(l.map TxA.core++q.1,q.2))∧Hid (TxRow w.heap.size wr v l)∧Hid (RdS P wr r)∧Hid (w.grownBy wr (some P))) (fun _ i _=>n - (intOf i).toNat)
  case atStart=>exact⟨0,[],r0,Nat.zero_le _,rfl,rfl,by show _=_;simp,txRow_nil _ _,H1,G1⟩
  case round=>
   obtain⟨k,l,r,hk,rfl,hl,hK,hrow,hR,hG⟩:=hrel
   by_cases hlt:k<n
   ·have hlow:Hid (∀j,u5.ownBlock=some j→w.heap.size≤j∧j<wr.heap.size):=fun j hj=>hrow.out.1.lt j hj
    go_wp2_with fail
    refine(rdTxn_any P r _ hR.out).mono ?_
    rintro e w3 ⟨g,hm⟩
    cases hc:kO r with
    | none=>
     rw[hc]at hm
     have HG:Hid (eQ kO bs=none):=by
      show eQ kO bs=none
      rw[HL.out,hK.out]
      obtain⟨j,hj⟩:∃j,n - k=j+1:=⟨n - k - 1,by omega⟩
      rw[hj]
      simp[iP,hc]
     subst hm
     unfold dY
     go_wp2
     refine⟨rfl,hG.out.trans g,?_⟩
     rw[HG.out];rfl
    | some p=>
     obtain⟨c,r'⟩:=p
     rw[hc]at hm
     obtain⟨v,rfl,⟨x,rfl,rfl,hx,hxb⟩,h3⟩:=hm
     have HK3:Hid (iP kO n r0=(iP kO (n - (k+1)) r').map fun q=>((l++[x]).map TxA.core++q.1,q.2)):=by
      show _=_
      rw[hK.out]
      obtain⟨j,hj⟩:∃j,n - k=j+1:=⟨n - k - 1,by omega⟩
      have hj2:n - (k+1)=j:=by omega
      rw[hj,hj2]
      simp[iP,hc,Option.map_map,Function.comp_def]
     have hCw:w.heap.size≤wr.heap.size:=hG.out.size
     have hww:wr.heap.size≤w3.heap.size:=g.size
     have HO:Hid (TxRow w.heap.size w3 u5 l):=hrow.out.kept g (fun j e=>by injection e with e;omega)
     have HM:Hid (∀o,IsX (w3.alloc o) x∧XIn w.heap.size (w3.alloc o).heap.size u5 x):=fun o=>⟨hx.below (aA (Below.refl _ _) _),(hxb.xin hCw (fun j hj=>(hlow.out j hj).2)).widen (Nat.le_refl _) (by simp)⟩
     have H3:Hid (RdS P w3 r'):=h3
     have G3:Hid (w.grownBy w3 (some P)):=hG.out.trans g
     clear h3 g hc hK hrow hR hG hx hxb
     obtain⟨ra,ga,sa,rc,gc,sc,rs,gs,ss⟩:=x
     simp only
     go_wp2_with (first
      | (at_builtin;refine mU rfl _ _ rfl w.heap.size u5 l rfl (HO.out.below (aA (Below.refl _ _) _)) _ ⟨ra,ga,sa,rc,gc,sc,rs,gs,ss⟩ 1 rfl (nF w3 [.slice ra rs.length rc,.slice ga gs.length gc,.slice sa ss.length sc] 95 _ rfl) (HM.out _) (by omega) (by simp;omega) ?_;intro v' w5 hown' hgrow;have HO5:=hid hown';have HGR:=hid hgrow;clear hown' hgrow)
      | go_in)
     go_roundw
     case rel=>
      have hgA:w3.grownBy w5 u5.ownBlock:=(World.grownBy_alloc w3 _ _).trans HGR.out
      refine⟨k+1,l++[⟨ra,ga,sa,rc,gc,sc,rs,gs,ss⟩],r',by omega,by go_num,by simp[hl],HK3,HO5,?_,?_⟩
      ·exact H3.out.kept hgA (fun e=>by have:=(hlow.out P e.symm).1;omega)
      ·exact gb_up G3.out hgA (fun j hj=>(hlow.out j hj).1)
     case measure=>simp[intOf];omega
   ·have hkn:k=n:=by omega
    subst hkn
    have HE:Hid (eQ kO bs=some (l.map TxA.core,r)):=by
     show eQ kO bs=_
     rw[HL.out,hK.out]
     simp[iP]
    clear hK HL
    go_wp2
    go_ret
    refine⟨hG.out,?_⟩
    rw[HE.out]
    exact⟨_,rfl,⟨l,hrow.out,rfl⟩,hR.out⟩
theorem TxRow.set {C R i:Nat} {w:World} {v u:Value} {l:List TxA} (h:TxRow C w v l) (hR:R<C):TxRow C (w.setCell ⟨R,i,none⟩ u) v l:=h.kept (xI w R i u) (fun j e=>by injection e with e;omega)
theorem rdPlan_any (P:Nat) (bs:List Int) (w:World) (h:RdS P w bs) :
  Calls Tryz.prog 34 #[.pointer (some ⟨P,0,none⟩)] w fun e w'=>RdR P w (yR bs) (fun p v w'=>∃v2 cl,v=.agg #[.int .i64 p.1,v2]∧TxRow (w.heap.size+1) w' v2 cl∧cl.map TxA.core=p.2) e w':=by
 have hmf:∀(fn:Fn) (first cap:Array Value) (w:World),(Instr.makeFunc fn first cap).run Tryz.prog w=.ok (.func fn first cap) w:=fun _ _ _ _=>rfl
 have hP:=h.lt
 obtain⟨W,hWe⟩:∃W,W=w.alloc (.cells #[.int .i64 0,.slice none 0 0] 29):=⟨_,rfl⟩
 have HWE:Hid (W=w.alloc (.cells #[.int .i64 0,.slice none 0 0] 29)):=hWe
 have H0:Hid (RdS P W bs):=by subst hWe;exact h.alloc _
 have G0:Hid (w.grownBy W (some P)):=by subst hWe;exact World.grownBy_alloc _ _ _
 have S0:Hid (w.heap.size<W.heap.size):=by subst hWe;show _<_;simp
 have c0:W.cell? ⟨w.heap.size,0,none⟩=some (.int .i64 0):=by subst hWe;simp
 have c1:W.cell? ⟨w.heap.size,1,none⟩=some (.slice none 0 0):=by subst hWe;simp
 have f0:∀i,W.frozen? ⟨w.heap.size,i,none⟩=false:=by subst hWe;intro i;simp
 have hR:w.heap.size≠P:=by omega
 clear h hWe
 go_enter Tryz.func34,Tryz.ntmps34
 go_upto_region 1 with fail
 rw[←HWE.out]
 go_wp2_with fail
 refine(dF P bs _ H0.out).mono ?_
 rintro e w1 ⟨g,hm⟩
 cases hc:fH bs with
 | none=>
  rw[hc]at hm
  have HG:Hid (yR bs=none):=by
   show yR bs=none
   simp[yR,hc]
  subst hm
  unfold dY
  go_wp2
  refine⟨rfl,G0.out.trans g,?_⟩
  rw[HG.out];rfl
 | some p=>
  obtain⟨m,r1⟩:=p
  rw[hc]at hm
  obtain⟨v,rfl,rfl,h1⟩:=hm
  have HC1:Hid (fH bs=some (m,r1)):=hc
  have H1:Hid (RdS P w1 r1):=h1
  have G1:Hid (w.grownBy w1 (some P)):=G0.out.trans g
  have c0:=aN g hR c0
  have c1:=aN g hR c1
  have f0:=bS g hR S0.out f0
  have S1:Hid (w.heap.size<w1.heap.size):=Nat.lt_of_lt_of_le S0.out g.size
  clear h1 g hc
  go_wp2_with fail
  refine(rdTxns_any P r1 _ H1.out).mono ?_
  rintro e w2 ⟨g,hm⟩
  cases hc:eQ kO r1 with
  | none=>
   rw[hc]at hm
   have HG:Hid (yR bs=none):=by
    show yR bs=none
    simp[yR,HC1.out,hc]
   subst hm
   unfold dY
   go_wp2
   refine⟨rfl,G1.out.trans g,?_⟩
   rw[HG.out];rfl
  | some p=>
   obtain⟨l,r2⟩:=p
   rw[hc]at hm
   obtain⟨v,rfl,⟨cl,hrow,hcl⟩,h2⟩:=hm
   have HG:Hid (yR bs=some ((m,l),r2)):=by
    show yR bs=_
    simp[yR,HC1.out,hc]
   have HRW:Hid (TxRow (w.heap.size+1) w2 v cl):=hrow.low S1.out
   have HCL:Hid (cl.map TxA.core=l):=hcl
   have H2:Hid (RdS P w2 r2):=h2
   have G2:Hid (w.grownBy w2 (some P)):=G1.out.trans g
   have c0:=aN g hR c0
   have c1:=aN g hR c1
   have f0:=bS g hR S1.out f0
   obtain⟨a2,k2,hv,_⟩:=hrow.txs
   subst hv
   clear h2 g hc hrow hcl
   obtain⟨y0,y1⟩:=put2 (.int .i64 m) (.slice a2 cl.length k2) c0 c1
   go_wp2_with fail
   refine bodyPost_ret (v:=.agg #[.int .i64 m,.slice a2 cl.length k2]) (by simp[results,Tryz.results34,go_sem,y0,y1]) rfl ⟨(dJ (dJ G2.out (Nat.le_refl _) 0 _) (Nat.le_refl _) 1 _),?_⟩
   rw[HG.out]
   exact⟨_,rfl,⟨_,cl,rfl,(HRW.out.set (Nat.lt_succ_self _)).set (Nat.lt_succ_self _),HCL.out⟩,(H2.out.set hR).set hR⟩
end Go.Proofs.YtcgpkonfneofdaaGreatDoor
