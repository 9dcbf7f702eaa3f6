/- Conditions: those that each theorem states. -/
import Derived.Test.YtcgpkonfneofdaaGreatDoorSDkS
import Derived.Test.YtcgpkonfneofdaaGreatDoorSWireR
set_option maxRecDepth 100000
set_option maxHeartbeats 8000000
namespace Go.Proofs.YtcgpkonfneofdaaGreatDoor
open Go.RowKit
def cX (c:fG):TxA:=⟨none,none,none,0,0,0,c.1,c.2.1,c.2.2⟩
theorem iC (m:Int) (l:List TxA):aM m ((l.map TxA.core).map cX)=aM m l:=by
 have e:((l.map TxA.core).map cX).map eT=l.map eT:=by simp[eT,cX,TxA.core,Function.comp_def]
 have e2:((l.map TxA.core).map cX).length=l.length:=by simp
 simp only[aM,dD,e,e2]
theorem aAj (m:Int) (l:List TxA):plB m l=pB (m,l.map TxA.core):=by
 simp only[plB,xsB,pB,lB',List.length_map,List.flatMap_map]
 rfl
def iA (bs:List Int):Option (Int×List fG):=(yR bs).bind fun p=>if p.2=[]∧aM p.1.1 (p.1.2.map cX)=0 then some p.1 else none
def aAf (bs:List Int):Int:=if 4096<bs.length then 2 else if (iA bs).isSome then 0 else 1
def aBb (s:ByteArray):Int:=if eS s=[] then 0 else 1
def riE (m:Int) (l:List TxA):Int:=if aM m l=0 then 0 else 1
theorem aBa (s:ByteArray) (w:World):Calls Tryz.prog 35 #[.agg #[.string s]] w fun e w'=>e=.returned (.int .i64 (aBb s))∧Below w.heap.size w w':=by
 by_cases h:eS s=[]
 ·have hn:s.toList=[]:=by have:=qV (s:=s);rw[h]at this;simpa using this
  have hni:s.toList.isEmpty=true:=by rw[hn];rfl
  have HE:Hid (aBb s=0):=if_pos h
  clear h
  go_enter Tryz.func35,Tryz.ntmps35
  go_wp2
  go_ret
  exact⟨by rw[HE.out];rfl,aA (Below.refl _ _) _⟩
 ·have hn:¬s.toList=[]:=by have:=qV (s:=s);intro e;rw[e]at this;simp[h]at this
  have hni:s.toList.isEmpty=false:=by cases h2:s.toList with
   | nil=>exact absurd h2 hn
   | cons _ _=>rfl
  have HE:Hid (aBb s=1):=if_neg h
  clear h
  go_enter Tryz.func35,Tryz.ntmps35
  go_wp2
  go_ret
  exact⟨by rw[HE.out];rfl,aA (Below.refl _ _) _⟩
theorem wP (la:Option Addr) (lc:Nat) (l:List TxA) (m:Int) (w:World) (hl:IsTxs w la l):Calls Tryz.prog 36 #[.agg #[.int .i64 m,.slice la l.length lc]] w fun e w'=>e=.returned (.int .i64 (riE m l))∧Below w.heap.size w w':=by
 have HC:=hid (bB la lc l m _ (hl.below (aA (Below.refl _ _) (.cells #[.int .i64 m,.slice la l.length lc] 29))))
 clear hl
 by_cases h:aM m l=0
 ·have HE:Hid (riE m l=0):=if_pos h
  rw[h]at HC
  clear h
  go_enter Tryz.func36,Tryz.ntmps36
  go_wp2_with fail
  refine HC.out.mono ?_
  rintro e w1 ⟨rfl,hb⟩
  have HB:Hid (Below w.heap.size w w1):=aC (aA (Below.refl _ _) _) hb
  clear hb HC
  go_wp2
  go_ret
  exact⟨by rw[HE.out];rfl,HB.out⟩
 ·have HE:Hid (riE m l=1):=if_neg h
  have hb0:(aM m l != 0)=true:=by simpa using h
  generalize aM m l=E at *
  go_enter Tryz.func36,Tryz.ntmps36
  go_wp2_with fail
  refine HC.out.mono ?_
  rintro e w1 ⟨rfl,hb⟩
  have HB:Hid (Below w.heap.size w w1):=aC (aA (Below.refl _ _) _) hb
  clear hb HC
  go_wp2
  go_ret
  exact⟨by rw[HE.out];rfl,HB.out⟩
theorem mV (s:ByteArray) (w:World):Calls Tryz.prog 33 #[.string s] w fun e w'=>e=.returned (.int .i64 (if 4096<s.size then 2 else 0))∧w'=w:=by
 by_cases h:4096<s.size
 ·have hi:(4096:Int)<(s.size:Int):=by omega
  rw[if_pos h]
  clear h
  go_enter Tryz.func33,Tryz.ntmps33
  go_wp2
  go_ret
  exact⟨rfl,rfl⟩
 ·have hi:¬(4096:Int)<(s.size:Int):=by omega
  rw[if_neg h]
  clear h
  go_enter Tryz.func33,Tryz.ntmps33
  go_wp2
  go_ret
  exact⟨rfl,rfl⟩
def ReadP (p:Int×List fG) (C:Nat) (m:Int) (a:Option Addr) (n c:Nat) (w:World):Prop:=m=p.1∧∃cl:List TxA,n=cl.length∧TxRow C w (.slice a n c) cl∧cl.map TxA.core=p.2
theorem read1_many (B:Nat) (s:ByteArray) (w:World) (c0:w.cell? ⟨B,0,none⟩=some (.string s)) (h:4096<s.size) :
  Calls Tryz.prog 32 #[.pointer (some ⟨B,0,none⟩)] w fun e w'=>e=.panicked [{v:=.iface 22 (.int .i64 2),recovered:=false}]∧Below w.heap.size w w':=by
 have HC:Hid (∀w',Calls Tryz.prog 33 #[.string s] w' fun e w''=>e=.returned (.int .i64 2)∧w''=w'):=fun w'=>by have:=mV s w';rw[if_pos h]at this;exact this
 have e0:(w.alloc (.cells #[.int .i64 0,.slice none 0 0] 29)).cell? ⟨B,0,none⟩=some (.string s):=aB (aA (Below.refl _ _) _) c0
 clear c0 h
 go_enter Tryz.func32,Tryz.ntmps32
 go_wp2_with fail
 refine(HC.out _).mono ?_
 rintro e w1 ⟨rfl,rfl⟩
 go_wp2_with fail
 refine(cF [2] 0 2 _ 1 _ (by simp) (by simp) (by simp) rfl (by decide) (cD _ _ _ (by simp))).mono ?_
 rintro e w' ⟨rfl,rfl⟩
 go_wp2
 exact⟨rfl,rfl,aA (aA (Below.refl _ _) _) _⟩
def RdEnd (C:Nat) (o:Option (Int×List fG)) (e:Ending) (w':World):Prop:=match o with
 | none=>e=.panicked [{v:=.iface 22 (.int .i64 1),recovered:=false}]
 | some p=>∃m a n c,e=.returned (.agg #[.int .i64 m,.slice a n c])∧ReadP p C m a n c w'
theorem uI (B:Nat) (s:ByteArray) (w:World) (c0:w.cell? ⟨B,0,none⟩=some (.string s)) (hm:¬4096<s.size) :
  Calls Tryz.prog 32 #[.pointer (some ⟨B,0,none⟩)] w fun e w'=>Below w.heap.size w w'∧RdEnd w.heap.size (iA (eS s)) e w':=by
 have HC:Hid (∀w',Calls Tryz.prog 33 #[.string s] w' fun e w''=>e=.returned (.int .i64 0)∧w''=w'):=fun w'=>by have:=mV s w';rw[if_neg hm]at this;exact this
 have e0:(w.alloc (.cells #[.int .i64 0,.slice none 0 0] 29)).cell? ⟨B,0,none⟩=some (.string s):=aB (aA (Below.refl _ _) _) c0
 have hBw:B<w.heap.size:=World.block_lt_of_cell? w ⟨B,0,none⟩ c0
 clear c0 hm
 go_enter Tryz.func32,Tryz.ntmps32
 go_wp2_with fail
 refine(HC.out _).mono ?_
 rintro e w1 ⟨rfl,rfl⟩
 clear HC
 go_wp2_with fail
 refine(aO [0] _ 1 _ (by simp) rfl (cD _ _ _ (by simp))).mono ?_
 rintro e w' ⟨rfl,rfl⟩
 obtain⟨W,hWe⟩:∃W,W=((w.alloc (.cells #[.int .i64 0,.slice none 0 0] 29)).alloc (.cells #[.int .i64 0] 22)):=⟨_,rfl⟩
 have HW:Hid (Below w.heap.size w W):=by subst hWe;exact aA (aA (Below.refl _ _) _) _
 have HSZ:Hid (W.heap.size=w.heap.size+2):=by subst hWe;show _=_;simp
 have e1:W.cell? ⟨B,0,none⟩=some (.string s):=by subst hWe;exact aB (aA (Below.refl _ _) _) e0
 have t0:W.cell? ⟨w.heap.size,0,none⟩=some (.int .i64 0):=by subst hWe;exact aB (aA (Below.refl _ _) _) (aG w _ 29 _ 0 _ rfl rfl)
 have t1:W.cell? ⟨w.heap.size,1,none⟩=some (.slice none 0 0):=by subst hWe;exact aB (aA (Below.refl _ _) _) (aG w _ 29 _ 1 _ rfl rfl)
 have tf:∀i,W.frozen? ⟨w.heap.size,i,none⟩=false:=by subst hWe;intro i;exact((aA (Below.refl (w.alloc (.cells #[.int .i64 0,.slice none 0 0] 29)).heap.size (w.alloc (.cells #[.int .i64 0,.slice none 0 0] 29))) (.cells #[.int .i64 0] 22)).frozen (p:=⟨w.heap.size,i,none⟩) (by simp)).trans (by simp)
 rw[←hWe]
 clear hWe e0
 obtain⟨V,hVe⟩:∃V,V=W.alloc (.cells #[.string s] 77):=⟨_,rfl⟩
 have HVE:Hid (V=W.alloc (.cells #[.string s] 77)):=hVe
 have HR:Hid (RdS W.heap.size V (eS s)):=by subst hVe;exact⟨s,by simp,by simp,rfl⟩
 have HVW:Hid (Below W.heap.size W V):=by subst hVe;exact aA (Below.refl _ _) _
 have HVS:Hid (V.heap.size=W.heap.size+1):=by subst hVe;show _=_;simp
 clear hVe
 go_upto_region 3 with fail
 rw[←HVE.out]
 go_wp2_with fail
 refine(rdPlan_any W.heap.size (eS s) V HR.out).mono ?_
 rintro e w2 ⟨g,hm⟩
 have hsz:=HSZ.out
 have hvs:=HVS.out
 have B2:Hid (Below w.heap.size w w2):=aC HW.out ⟨g.os.trans HVW.out.os,g.tape.trans HVW.out.tape,g.output.trans HVW.out.output,Nat.le_trans HVW.out.size g.size,fun b hb=>(g.block b (by omega) (fun e=>by injection e with e;omega)).trans (HVW.out.block b hb)⟩
 cases hc:yR (eS s) with
 | none=>
  rw[hc]at hm
  have HG:Hid (iA (eS s)=none):=by show iA (eS s)=none;simp[iA,hc]
  subst hm
  clear hsz hvs
  unfold dY
  go_wp2
  refine⟨rfl,B2.out,?_⟩
  rw[HG.out]
  rfl
 | some q=>
  obtain⟨⟨m,L⟩,r⟩:=q
  rw[hc]at hm
  obtain⟨v,rfl,⟨v2,cl,rfl,hrow,hcl⟩,s2,k2,k2f,hs2⟩:=hm
  obtain⟨a2,cc,hv,htx⟩:=hrow.txs
  subst hv
  have hcl:cl.map TxA.core=L:=hcl
  have hgW:∀b,b<W.heap.size→w2.heap[b]?=W.heap[b]?:=fun b hb=>(g.block b (by omega) (fun e=>by injection e with e;omega)).trans (HVW.out.block b hb)
  have u0:w2.cell? ⟨w.heap.size,0,none⟩=some (.int .i64 0):=(World.cell?_of_block (a:=⟨w.heap.size,0,none⟩) (hgW w.heap.size (by omega))).trans t0
  have u1:w2.cell? ⟨w.heap.size,1,none⟩=some (.slice none 0 0):=(World.cell?_of_block (a:=⟨w.heap.size,1,none⟩) (hgW w.heap.size (by omega))).trans t1
  have uf:∀i,w2.frozen? ⟨w.heap.size,i,none⟩=false:=fun i=>(World.frozen?_of_block (a:=⟨w.heap.size,i,none⟩) (hgW w.heap.size (by omega))).trans (tf i)
  have HGS:w.heap.size+2<w2.heap.size:=by have:=g.size;omega
  have HROW:Hid (TxRow (w.heap.size+1) w2 (.slice a2 cl.length cc) cl):=hrow.low (by omega)
  have HTX:Hid (IsTxs w2 a2 cl):=htx
  have HCL:Hid (cl.map TxA.core=L):=hcl
  have HPE:Hid (aM m (L.map cX)=aM m cl):=by show _=_;rw[←hcl,iC]
  have HSE:Hid (aBb s2=if r=[] then 0 else 1):=by show _=_;unfold aBb;rw[hs2]
  have HOK:Hid (iA (eS s)=if r=[]∧aM m cl=0 then some (m,L) else none):=by
   show _=_
   simp only[iA,hc,Option.bind_some]
   rw[HPE.out]
  clear hgW t0 t1 tf hrow htx hcl hs2 hc g HVW HR HVE e1 hsz hvs HSZ
  obtain⟨X,hXe⟩:∃X,X=w2.alloc (.cells #[.int .i64 m,.slice a2 cl.length cc] 29):=⟨_,rfl⟩
  have HXE:Hid (X=w2.alloc (.cells #[.int .i64 m,.slice a2 cl.length cc] 29)):=hXe
  have BX:Below w2.heap.size w2 X:=by subst hXe;exact aA (Below.refl _ _) _
  have BX':Hid (Below w2.heap.size w2 X):=BX
  have x0:X.cell? ⟨w2.heap.size,0,none⟩=some (.int .i64 m):=by subst hXe;simp
  have x1:X.cell? ⟨w2.heap.size,1,none⟩=some (.slice a2 cl.length cc):=by subst hXe;simp
  have x2:X.cell? ⟨W.heap.size,0,none⟩=some (.string s2):=aB BX k2
  have u0:=aB BX u0
  have u1:=aB BX u1
  have uf:∀i,X.frozen? ⟨w.heap.size,i,none⟩=false:=fun i=>(BX.frozen (p:=⟨w.heap.size,i,none⟩) (show w.heap.size<w2.heap.size by omega)).trans (uf i)
  have HSX:w.heap.size<X.heap.size:=by have:=BX.size;omega
  clear hXe BX k2 k2f
  go_upto_region 4 with fail
  rw[←HXE.out]
  have EXT:Hid (∀w',Below X.heap.size X w'→Below X.heap.size X w'∧w'.cell? ⟨W.heap.size,0,none⟩=some (.string s2)∧w'.cell? ⟨w2.heap.size,0,none⟩=some (.int .i64 m)∧w'.cell? ⟨w2.heap.size,1,none⟩=some (.slice a2 cl.length cc)):=fun w' hb=>⟨hb,aB hb x2,aB hb x0,aB hb x1⟩
  have CL:Hid (∀w',Calls Tryz.prog 35 #[.agg #[.string s2]] w' fun e w''=>e=.returned (.int .i64 (aBb s2))∧Below w'.heap.size w' w''):=fun w'=>aBa s2 w'
  have CR:Hid (∀w',Below X.heap.size X w'→Calls Tryz.prog 36 #[.agg #[.int .i64 m,.slice a2 cl.length cc]] w' fun e w''=>e=.returned (.int .i64 (riE m cl))∧Below w'.heap.size w' w''):=fun w' hb=>wP a2 cc cl m w' (HTX.out.below (aC BX'.out hb))
  clear x0 x1 x2 HVS HXE
  by_cases hE:aF [aBb s2,riE m cl]=0
  ·have HE:Hid (aF [aBb s2,riE m cl]=0):=hE
   have HG:Hid (iA (eS s)=some (m,L)):=by
    show _=_
    rw[HOK.out]
    have z:=aR _ hE
    have z0:aBb s2=0:=by simpa using z 0
    have z1:riE m cl=0:=by simpa using z 1
    rw[HSE.out]at z0
    unfold riE at z1
    rw[if_pos]
    constructor
    ·by_cases c:r=[]
     ·exact c
     ·rw[if_neg c]at z0;omega
    ·by_cases c:aM m cl=0
     ·exact c
     ·rw[if_neg c]at z1;omega
   clear hE HOK HSE HPE
   generalize aBb s2=E1 at *
   generalize riE m cl=E2 at *
   go_region_held3 (fun w'=>Below X.heap.size X w'∧w'.cell? ⟨W.heap.size,0,none⟩=some (.string s2)∧w'.cell? ⟨w2.heap.size,0,none⟩=some (.int .i64 m)∧w'.cell? ⟨w2.heap.size,1,none⟩=some (.slice a2 cl.length cc)) ((go_split_ands;refine EXT.out _ ?_;repeat (first | assumption | exact Below.refl _ _ | exact Hid.out (by assumption) | refine aD ?_ | refine aA ?_ _ | refine aC ?_ (by assumption))))
    (first
     | (go_at_call 35;refine(CL.out _).mono ?_;rintro e w' ⟨rfl,hbx⟩)
     | (go_at_call 36;refine(CR.out _ ?_).mono ?_;(go_split_ands;repeat (first | assumption | exact Below.refl _ _ | exact Hid.out (by assumption) | refine aD ?_ | refine aA ?_ _ | refine aC ?_ (by assumption)));rintro e w' ⟨rfl,hby⟩)
     | (go_at_call 15;refine(aO [E1,E2] _ 2 _ (by simp) HE.out ?_).mono ?_;(exact iU _ _ _ _ (by simp));rintro e w' ⟨rfl,rfl⟩))
   all_goals (
    go_split_ands
    rename_i hBl hA0 hA1 hA2
    have q0:=aB hBl u0
    have q1:=aB hBl u1
    have qf:∀i,World.frozen? _ ⟨w.heap.size,i,none⟩=false:=fun i=>(hBl.frozen (p:=⟨w.heap.size,i,none⟩) HSX).trans (uf i)
    have QB:Hid (Below w.heap.size w _):=aC (aC B2.out BX'.out) hBl
    have QR:Hid (TxRow (w.heap.size+1) _ (.slice a2 cl.length cc) cl):=(HROW.out.below BX'.out).below hBl
    obtain⟨y0,y1⟩:=put2 (.int .i64 m) (.slice a2 cl.length cc) q0 q1
    clear u0 u1 uf hBl EXT CL CR
    go_wp2_with fail
    refine bodyPost_ret (v:=.agg #[.int .i64 m,.slice a2 cl.length cc]) (by simp[results,Tryz.results32,go_sem,y0,y1]) rfl ⟨aI (aI QB.out (Nat.le_refl _) _) (Nat.le_refl _) _,?_⟩
    rw[HG.out]
    exact⟨_,_,_,_,rfl,rfl,cl,rfl,((QR.out.set (Nat.lt_succ_self _)).set (Nat.lt_succ_self _)).low (Nat.le_succ _),HCL.out⟩)
  ·have HE:Hid (¬aF [aBb s2,riE m cl]=0):=hE
   have HV:Hid (aF [aBb s2,riE m cl]=1):=by
    show _=_
    have a1:aBb s2=0∨aBb s2=1:=by unfold aBb;split <;> simp
    have a2:riE m cl=0∨riE m cl=1:=by unfold riE;split <;> simp
    rcases a1 with a1 | a1 <;> rcases a2 with a2 | a2 <;> rw[a1,a2]at hE ⊢ <;> simp_all [aF]
   have HG:Hid (iA (eS s)=none):=by
    show _=_
    rw[HOK.out,if_neg]
    rintro ⟨c1,c2⟩
    apply hE
    have z0:aBb s2=0:=by rw[HSE.out,if_pos c1]
    have z1:riE m cl=0:=if_pos c2
    rw[z0,z1];rfl
   clear hE HOK HSE HPE
   generalize aBb s2=E1 at *
   generalize riE m cl=E2 at *
   go_region_held (fun w'=>Below X.heap.size X w'∧w'.cell? ⟨W.heap.size,0,none⟩=some (.string s2)∧w'.cell? ⟨w2.heap.size,0,none⟩=some (.int .i64 m)∧w'.cell? ⟨w2.heap.size,1,none⟩=some (.slice a2 cl.length cc)) ((go_split_ands;refine EXT.out _ ?_;repeat (first | assumption | exact Below.refl _ _ | exact Hid.out (by assumption) | refine aD ?_ | refine aA ?_ _ | refine aC ?_ (by assumption))))
    (first
     | (go_at_call 35;refine(CL.out _).mono ?_;rintro e w' ⟨rfl,hbx⟩)
     | (go_at_call 36;refine(CR.out _ ?_).mono ?_;(go_split_ands;repeat (first | assumption | exact Below.refl _ _ | exact Hid.out (by assumption) | refine aD ?_ | refine aA ?_ _ | refine aC ?_ (by assumption)));rintro e w' ⟨rfl,hby⟩)
     | (go_at_call 15;refine(dM (cH [E1,E2] _ 2 _ (by simp) HE.out ?_) (.tuple #[])).mono ?_;(exact iU _ _ _ _ (by simp));rintro e w' (⟨rfl,rfl⟩ | ⟨hF,rfl,rfl⟩);(refine⟨rfl,?_,by rw[HG.out];exact congrArg (fun x=>Ending.panicked [{v:=.iface 22 (.int .i64 x),recovered:=false}]) HV.out⟩;refine aC (aC B2.out BX'.out) ?_;go_split_ands;repeat (first | assumption | exact Below.refl _ _ | exact Hid.out (by assumption) | refine aD ?_ | refine aA ?_ _ | refine aC ?_ (by assumption)))))
   exact(‹Hid False› : Hid False).out.elim
def eH (bs:List Int):Option (Int×List fG):=if 4096<bs.length then none else iA bs
def qD (bs:List Int) (e:Ending) (w':World):Prop:=match eH bs with
 | none=>e=.returned (.tuple #[.agg #[.int .i64 0,.slice none 0 0],.int .i64 (aAf bs)])
 | some p=>∃(a:Option Addr) (cl:List TxA) (c:Nat),e=.returned (.tuple #[.agg #[.int .i64 p.1,.slice a cl.length c],.int .i64 0])∧IsTxs w' a cl∧cl.map TxA.core=p.2
theorem ReadP.set {p:Int×List fG} {C R i:Nat} {m:Int} {a:Option Addr} {n c:Nat} {w:World} {u:Value} (h:ReadP p C m a n c w) (hR:R<C):ReadP p C m a n c (w.setCell ⟨R,i,none⟩ u):=by
 obtain⟨h1,cl,h2,h3,h4⟩:=h
 exact⟨h1,cl,h2,h3.set hR,h4⟩
theorem jT (s:ByteArray) (w:World) :
  Calls Tryz.prog 14 #[.string s] w fun e w'=>Below w.heap.size w w'∧qD (eS s) e w':=by
 have hmf:∀(fn:Fn) (first cap:Array Value) (w:World),(Instr.makeFunc fn first cap).run Tryz.prog w=.ok (.func fn first cap) w:=fun _ _ _ _=>rfl
 obtain⟨W,hWe⟩:∃W,W=((w.alloc (.cells #[.string s] 9)).alloc (.cells #[.int .i64 0,.slice none 0 0] 29)):=⟨_,rfl⟩
 have HWE:Hid (W=((w.alloc (.cells #[.string s] 9)).alloc (.cells #[.int .i64 0,.slice none 0 0] 29))):=hWe
 have BW:Hid (Below w.heap.size w W):=by subst hWe;exact aA (aA (Below.refl _ _) _) _
 have HS:Hid (W.heap.size=w.heap.size+2):=by subst hWe;show _=_;simp
 have c0:W.cell? ⟨w.heap.size,0,none⟩=some (.string s):=by subst hWe;exact aB (aA (Below.refl _ _) _) (aG w _ 9 _ 0 _ rfl rfl)
 have r0:W.cell? ⟨w.heap.size+1,0,none⟩=some (.int .i64 0):=by subst hWe;exact aG _ _ 29 _ 0 _ (by simp) rfl
 have r1:W.cell? ⟨w.heap.size+1,1,none⟩=some (.slice none 0 0):=by subst hWe;exact aG _ _ 29 _ 1 _ (by simp) rfl
 have rf:∀i,W.frozen? ⟨w.heap.size+1,i,none⟩=false:=by subst hWe;intro i;exact cO _ _ 29 _ i (by simp)
 clear hWe
 have E0:Below W.heap.size W ((W.alloc (.cells #[.int .i64 0,.slice none 0 0] 29)).alloc (.cells #[.int .i64 0] 22)):=aA (aA (Below.refl _ _) _) _
 have e0:=aB E0 c0
 have hlt:w.heap.size+1<W.heap.size:=by have:=HS.out;omega
 cases hr:eH (eS s) with
 | none=>
  have HC:=yE 32 #[.pointer (some ⟨w.heap.size,0,none⟩)] (fun _=>rfl) (aAf (eS s)) W (by
   by_cases h4:4096<s.size
   ·have e:aAf (eS s)=2:=by unfold aAf;rw[jZ,if_pos h4]
    rw[e]
    exact read1_many w.heap.size s _ e0 h4
   ·have hk:iA (eS s)=none:=by unfold eH at hr;rw[jZ,if_neg h4]at hr;exact hr
    have e:aAf (eS s)=1:=by unfold aAf;rw[jZ,if_neg h4,hk];rfl
    rw[e]
    refine(uI w.heap.size s _ e0 h4).mono fun e w' h=>?_
    rw[hk]at h
    exact⟨h.2,h.1⟩)
  have HC':=hid HC
  have HO:Hid (∀w',qD (eS s) (.returned (.tuple #[.agg #[.int .i64 0,.slice none 0 0],.int .i64 (aAf (eS s))])) w'):=fun w'=>by
   unfold qD
   rw[hr]
  clear HC E0 e0 hr c0
  generalize aAf (eS s)=E at *
  go_enter Tryz.func14,Tryz.ntmps14
  go_upto_region 1 with fail
  rw[←HWE.out]
  go_wp2_with fail
  refine HC'.out.mono ?_
  rintro e w1 ⟨rfl,hb⟩
  have q0:=aB hb r0
  have q1:=aB hb r1
  have qf:∀i,w1.frozen? ⟨w.heap.size+1,i,none⟩=false:=fun i=>(hb.frozen (p:=⟨w.heap.size+1,i,none⟩) hlt).trans (rf i)
  have B1:Hid (Below w.heap.size w w1):=aC BW.out hb
  obtain⟨y0,y1⟩:=put2 (.int .i64 0) (.slice none 0 0) q0 q1
  clear hb r0 r1 rf
  go_wp2_with fail
  refine bodyPost_ret (v:=.tuple #[.agg #[.int .i64 0,.slice none 0 0],.int .i64 E]) (by simp[results,Tryz.results14,go_sem,y0,y1]) rfl ⟨aI (aI B1.out (Nat.le_succ _) _) (Nat.le_succ _) _,HO.out _⟩
 | some p=>
  have h4:¬4096<s.size:=by intro h4;unfold eH at hr;rw[jZ,if_pos h4]at hr;cases hr
  have hk:iA (eS s)=some p:=by unfold eH at hr;rw[jZ,if_neg h4]at hr;exact hr
  have HC:=yD 32 #[.pointer (some ⟨w.heap.size,0,none⟩)] (fun _=>rfl) (fun m a n c w'=>ReadP p (W.heap.size+2) m a n c w') W (fun m a n c w' i u j hj h=>h.set (by rcases hj with rfl | rfl <;> omega)) (by
   refine(uI w.heap.size s _ e0 h4).mono fun e w' h=>?_
   rw[hk]at h
   obtain⟨hb,m,a,n,c,he,hp⟩:=h
   exact⟨m,a,n,c,he,by simpa using hp,hb⟩)
  have HC':=hid HC
  have HO:Hid (∀m a n c w',ReadP p (W.heap.size+2) m a n c w'→qD (eS s) (.returned (.tuple #[.agg #[.int .i64 m,.slice a n c],.int .i64 0])) w'):=fun m a n c w' h=>by
   obtain⟨rfl,cl,rfl,h3,h4⟩:=h
   unfold qD
   rw[hr]
   obtain⟨a',c',he,htx⟩:=h3.txs
   injection he with e1 e2 e3
   subst e1 e3
   exact⟨_,cl,_,rfl,htx,h4⟩
  clear HC E0 e0 hr c0 hk h4
  go_enter Tryz.func14,Tryz.ntmps14
  go_upto_region 1 with fail
  rw[←HWE.out]
  go_wp2_with fail
  refine HC'.out.mono ?_
  rintro e w1 ⟨m,a,n,c,rfl,hp,hb⟩
  have q0:=aB hb r0
  have q1:=aB hb r1
  have qf:∀i,w1.frozen? ⟨w.heap.size+1,i,none⟩=false:=fun i=>(hb.frozen (p:=⟨w.heap.size+1,i,none⟩) hlt).trans (rf i)
  have B1:Hid (Below w.heap.size w w1):=aC BW.out hb
  have HP:=hid hp
  obtain⟨y0,y1⟩:=put2 (.int .i64 m) (.slice a n c) q0 q1
  clear hb r0 r1 rf hp
  go_wp2_with fail
  refine bodyPost_ret (v:=.tuple #[.agg #[.int .i64 m,.slice a n c],.int .i64 0]) (by simp[results,Tryz.results14,go_sem,y0,y1]) rfl ⟨aI (aI B1.out (Nat.le_succ _) _) (Nat.le_succ _) _,HO.out _ _ _ _ _ ((HP.out.set (by omega)).set (by omega))⟩
end Go.Proofs.YtcgpkonfneofdaaGreatDoor

set_option maxRecDepth 100000
set_option maxHeartbeats 8000000
namespace Go.Proofs.YtcgpkonfneofdaaGreatDoor
open Go.RowKit
section
theorem few_of {m:Int} {l:List TxA} (h:aM m l=0):l.length≤8∧Few l:=by
 obtain⟨_,_,h3⟩:=aY h
 refine⟨eD h3,fun k hk=>?_⟩
 have hx:=nR h3 k hk
 generalize l.getD k x0=x at *
 have hmany:bF x.rs.length x.gs.length x.ss.length=0:=by
  by_cases hm:bF x.rs.length x.gs.length x.ss.length=0
  ·exact hm
  ·have h1:=tH x.rs x.gs x.ss hm
   have h2:bA x.rs x.gs x.ss=0:=hx
   omega
 obtain⟨m1,m2,m3,_⟩:=bL _ _ _ hmany
 exact⟨by omega,by omega,by omega⟩
theorem plB_byt (m:Int) (l:List TxA):Byt (plB m l):=by
 have hm:∀x:Int,0≤x%256∧x%256<256:=fun x=>⟨Int.emod_nonneg _ (by decide),Int.emod_lt_of_pos _ (by decide)⟩
 have hv:∀n:Int,Byt (iY n):=valL_byt
 have ho:∀k n:Int,Byt (opB k n):=fun k n b hb=>by
  rcases List.mem_cons.1 hb with rfl | hb
  ·exact hm _
  ·exact hv n b hb
 have hg:∀x:Gd,Byt (gdB x.k x.ak x.an x.bk x.bn):=fun x b hb=>by
  rcases List.mem_cons.1 hb with rfl | hb
  ·exact hm _
  ·rcases List.mem_append.1 hb with hb | hb
   ·exact ho _ _ b hb
   ·exact ho _ _ b hb
 have hs:∀x:St,Byt (stB x.key x.op x.ak x.an x.bk x.bn):=fun x b hb=>by
  rcases List.mem_cons.1 hb with rfl | hb
  ·exact hm _
  ·rcases List.mem_cons.1 hb with rfl | hb
   ·exact hm _
   ·rcases List.mem_append.1 hb with hb | hb
    ·exact ho _ _ b hb
    ·exact ho _ _ b hb
 have hx:∀x:TxA,Byt (xB x):=fun x b hb=>by
  rcases List.mem_append.1 hb with hb | hb
  ·rcases List.mem_append.1 hb with hb | hb
   ·rcases List.mem_cons.1 hb with rfl | hb
    ·exact hm _
    ·obtain⟨z,_,rfl⟩:=List.mem_map.1 hb
     exact hm _
   ·rcases List.mem_cons.1 hb with rfl | hb
    ·exact hm _
    ·obtain⟨z,_,hz⟩:=List.mem_flatMap.1 hb
     exact hg z b hz
  ·rcases List.mem_cons.1 hb with rfl | hb
   ·exact hm _
   ·obtain⟨z,_,hz⟩:=List.mem_flatMap.1 hb
    exact hs z b hz
 intro b hb
 rcases List.mem_cons.1 hb with rfl | hb
 ·exact hm _
 ·rcases List.mem_cons.1 hb with rfl | hb
  ·exact hm _
  ·obtain⟨z,_,hz⟩:=List.mem_flatMap.1 hb
   exact hx z b hz
theorem conv_bytes (w:World) (base g cap:Nat) (bs:List Int) (h:w.ownsRow base 5 1 (.slice (some ⟨g,0,none⟩) bs.length cap) bs.length (bs.map (Value.int .u8))) (hB:Byt bs) :
  ∃S:ByteArray,(convert 52 9 (.slice (some ⟨g,0,none⟩) bs.length cap)).run Tryz.prog w=.ok (.string S) w∧eS S=bs:=by
 have hl:=run_loadCells_list (P:=Tryz.prog) w ⟨g,0,none⟩ (bs.map (Value.int .u8)) (fun j v hj=>h.cells (g:=g) rfl j v hj)
 simp only[List.length_map]at hl
 refine⟨_,(run_convert_bytes_string w 52 9 5 _ _ _ Tryz.underlying52 (by kernel_rfl) (by kernel_rfl)).trans (run_bytesToString w ⟨g,0,none⟩ bs.length cap bs hl),?_⟩
 rw[uP bs _ hB]
 rfl
variable (la:Option Addr) (lc:Nat) (l:List TxA) (m:Int)
theorem write1_ok (B:Nat) (w:World) (c0:w.cell? ⟨B,0,none⟩=some (.int .i64 m)) (c1:w.cell? ⟨B,1,none⟩=some (.slice la l.length lc)) (hl:IsTxs w la l) (hE:aM m l=0) :
  Calls Tryz.prog 27 #[.pointer (some ⟨B,0,none⟩)] w fun e w'=>∃v,e=.returned v∧(∃S,v=.string S∧eS S=plB m l)∧Below w.heap.size w w':=by
 obtain⟨h8,hfew⟩:=few_of hE
 have HFW:Hid (Few l):=hfew
 have HL:Hid (IsTxs w la l):=hl
 have CP:=bB la lc l m w hl
 rw[hE]at CP
 have HCP:=hid CP
 clear hl hE CP hfew
 go_enter Tryz.func27,Tryz.ntmps27
 go_wp2_with fail
 refine HCP.out.mono ?_
 rintro e w1 ⟨rfl,hb1⟩
 have d0:=aB hb1 c0
 have d1:=aB hb1 c1
 clear c0 c1 HCP
 go_wp2_with fail
 refine(aO [0] _ 1 _ (by simp) rfl (cD _ _ _ rfl)).mono ?_
 rintro e w' ⟨rfl,rfl⟩
 have HB:B<w1.heap.size:=World.block_lt_of_cell? w1 ⟨B,0,none⟩ d0
 have b0:Below w.heap.size w ((w1.alloc (.cells #[.int .i64 0] 22)).alloc (.cells #[.slice none 0 0] 73)):=aC hb1 (aA (aA (Below.refl _ _) _) _)
 have B0:Hid (Below w.heap.size w ((w1.alloc (.cells #[.int .i64 0] 22)).alloc (.cells #[.slice none 0 0] 73))):=b0
 have hsz:=hb1.size
 clear b0 hb1
 go_wp2_with fail
 refine(wrPlan_any (w1.heap.size+1) m l la lc [] _ ⟨.slice none 0 0,by simp,by simp,World.ownsRow_nil _ _ _ _⟩ (by simp) h8 HFW.out (fun w' hb=>HL.out.below (B0.out.trans (hb.mono (by omega))))).mono ?_
 rintro e w3 ⟨rfl,h3,k3⟩
 obtain⟨v,hc,hf,ho⟩:=h3
 have B3:Hid (Below w.heap.size w w3):=B0.out.trans ((k3.below (by simp)).mono (by omega))
 obtain⟨g,cap,hv,_,_⟩:=ho.form (by simp[plB])
 subst hv
 rw[List.nil_append]at ho hc
 obtain⟨S,hS,hSl⟩:=conv_bytes w3 _ g cap _ ho (plB_byt m l)
 have HS:Hid (eS S=plB m l):=hSl
 clear k3 ho hSl
 generalize (plB m l).length=N at *
 go_wp2
 go_ret
 exact⟨_,rfl,⟨S,rfl,HS.out⟩,B3.out⟩
theorem write1_bad (B:Nat) (w:World) (c0:w.cell? ⟨B,0,none⟩=some (.int .i64 m)) (c1:w.cell? ⟨B,1,none⟩=some (.slice la l.length lc)) (hl:IsTxs w la l) (hE:¬aM m l=0) :
  Calls Tryz.prog 27 #[.pointer (some ⟨B,0,none⟩)] w fun e w'=>e=.panicked [{v:=.iface 22 (.int .i64 (aM m l)),recovered:=false}]∧Below w.heap.size w w':=by
 have HCP:=hid (bB la lc l m w hl)
 have HE:Hid (¬aM m l=0):=hE
 clear hl hE
 generalize aM m l=E at *
 go_enter Tryz.func27,Tryz.ntmps27
 go_wp2_with fail
 refine HCP.out.mono ?_
 rintro e w1 ⟨rfl,hb1⟩
 have B1:Hid (Below w.heap.size w w1):=hb1
 clear hb1 HCP
 go_wp2_with fail
 refine(cF [E] 0 E w1.heap.size 1 _ (by simp) (by simp) (by simp) rfl HE.out (cD _ _ _ rfl)).mono ?_
 rintro e w' ⟨rfl,rfl⟩
 go_wp2
 exact⟨rfl,rfl,aA B1.out _⟩
def wrL (m:Int) (l:List TxA):List Int:=if aM m l=0 then plB m l else []
theorem iX (w:World) (hl:IsTxs w la l) :
  Calls Tryz.prog 8 #[.agg #[.int .i64 m,.slice la l.length lc]] w fun e w'=>∃S,e=.returned (.tuple #[.string S,.int .i64 (aM m l)])∧eS S=wrL m l∧Below w.heap.size w w':=by
 have hmf:∀(fn:Fn) (first cap:Array Value) (w:World),(Instr.makeFunc fn first cap).run Tryz.prog w=.ok (.func fn first cap) w:=fun _ _ _ _=>rfl
 obtain⟨W,hWe⟩:∃W,W=w.alloc (.cells #[.int .i64 m,.slice la l.length lc] 29):=⟨_,rfl⟩
 have HWE:Hid (W=w.alloc (.cells #[.int .i64 m,.slice la l.length lc] 29)):=hWe
 have c0:W.cell? ⟨w.heap.size,0,none⟩=some (.int .i64 m):=by subst hWe;simp
 have c1:W.cell? ⟨w.heap.size,1,none⟩=some (.slice la l.length lc):=by subst hWe;simp
 have BW:Below w.heap.size w W:=by subst hWe;exact aA (Below.refl _ _) _
 have HL:IsTxs W la l:=hl.below BW
 clear hl hWe
 have E0:Below W.heap.size W (W.alloc (.cells #[.int .i64 0] 22)):=aA (Below.refl _ _) _
 have e0:=aB E0 c0
 have e1:=aB E0 c1
 have BW':Hid (Below w.heap.size w W):=BW
 by_cases hE:aM m l=0
 ·have HC:=nT 27 #[.pointer (some ⟨w.heap.size,0,none⟩)] (fun _=>rfl) (fun v _=>∃S,v=.string S∧eS S=plB m l) W (fun _ _ h=>h) ((write1_ok la lc l m w.heap.size _ e0 e1 (HL.below E0) hE).mono fun e w' ⟨v,h1,h2,h3⟩=>⟨v,h1,h2,by simpa using h3⟩)
  have HC':=hid HC
  have HV:Hid (wrL m l=plB m l):=if_pos hE
  rw[hE]
  clear HC HL E0 e0 e1 hE c0 c1 BW
  go_enter Tryz.func8,Tryz.ntmps8
  go_upto_region 1 with fail
  rw[←HWE.out]
  go_wp2_with fail
  refine HC'.out.mono ?_
  rintro e w1 ⟨v,rfl,⟨S,rfl,hS⟩,hb⟩
  have HS:Hid (eS S=wrL m l):=hS.trans HV.out.symm
  have HB1:Hid (Below w.heap.size w w1):=aC BW'.out hb
  clear hb hS
  go_wp2
  go_ret2
  exact⟨S,rfl,HS.out,HB1.out⟩
 ·have HC:=kG 27 #[.pointer (some ⟨w.heap.size,0,none⟩)] (fun _=>rfl) (aM m l) W ((write1_bad la lc l m w.heap.size _ e0 e1 (HL.below E0) hE).mono fun e w' ⟨h1,h3⟩=>⟨h1,by simpa using h3⟩)
  have HC':=hid HC
  have HV:Hid (wrL m l=[]):=if_neg hE
  clear HC HL E0 e0 e1 hE c0 c1 BW
  generalize aM m l=E at *
  go_enter Tryz.func8,Tryz.ntmps8
  go_upto_region 1 with fail
  rw[←HWE.out]
  go_wp2_with fail
  refine HC'.out.mono ?_
  rintro e w1 ⟨rfl,hb⟩
  have HB1:Hid (Below w.heap.size w w1):=aC BW'.out hb
  clear hb
  go_wp2
  go_ret2
  exact⟨_,rfl,HV.out.symm,HB1.out⟩
end
def docOk (bs:List Int):Option (Int×List fG):=if aM (zP bs).1.1 ((zP bs).1.2.map cX)=0∧pB (zP bs).1=bs then some (zP bs).1 else none
end Go.Proofs.YtcgpkonfneofdaaGreatDoor

set_option maxRecDepth 100000
set_option maxHeartbeats 8000000
namespace Go.Proofs.YtcgpkonfneofdaaGreatDoor
open Go.RowKit
def lE {α:Type} (g:List Int→α×List Int) (G:α→Prop):Prop:=∀bs,Byt bs→G (g bs).1∧Byt (g bs).2
theorem iK:lE zN B1:=by
 intro bs h
 cases bs with
 | nil=>exact⟨⟨Int.le_refl _,by decide⟩,h⟩
 | cons b r=>exact⟨h b (by simp),h.tail⟩
theorem vT {α:Type} {g:List Int→α×List Int} {G:α→Prop} (hg:lE g G):∀n,lE (zK g n) (fun l=>l.length=n∧∀x∈l,G x)
 | 0,bs,h=>⟨⟨rfl,fun x hx=>by cases hx⟩,h⟩
 | n+1,bs,h=>by
  obtain⟨h1,h2⟩:=hg bs h
  obtain⟨⟨h3,h4⟩,h5⟩:=vT hg n (g bs).2 h2
  refine⟨⟨by simp[zK,h3],fun x hx=>?_⟩,h5⟩
  rcases List.mem_cons.1 hx with rfl | hx
  ·exact h1
  ·exact h4 x hx
theorem qR {α:Type} {g:List Int→α×List Int} {G:α→Prop} (hg:lE g G):lE (zL g) (fun l=>l.length<256∧∀x∈l,G x):=by
 intro bs h
 obtain⟨⟨b1,b2⟩,h2⟩:=iK bs h
 obtain⟨⟨h3,h4⟩,h5⟩:=vT hg (zN bs).1.toNat (zN bs).2 h2
 refine⟨⟨?_,h4⟩,h5⟩
 show (zK g (zN bs).1.toNat (zN bs).2).1.length<256
 rw[h3];omega
theorem zV_good:lE zV dV:=by
 intro bs h
 obtain⟨⟨h1,h2⟩,h3⟩:=vT iK 8 bs h
 refine⟨?_,h3⟩
 have hB:Byt (zK zN 8 bs).1:=fun x hx=>h2 x hx
 obtain⟨a,b⟩:=wA _ hB
 rw[h1]at b
 show dV (sgn (eV (zK zN 8 bs).1))
 have b':eV (zK zN 8 bs).1<18446744073709551616:=by simpa using b
 unfold sgn dV
 split <;> omega
theorem qP:lE zO OkO:=by
 intro bs h
 obtain⟨h1,h2⟩:=iK bs h
 obtain⟨h3,h4⟩:=zV_good (zN bs).2 h2
 exact⟨⟨h1,h3⟩,h4⟩
theorem zG_good:lE zG OkG:=by
 intro bs h
 obtain⟨h1,h2⟩:=iK bs h
 obtain⟨h3,h4⟩:=qP (zN bs).2 h2
 obtain⟨h5,h6⟩:=qP (zO (zN bs).2).2 h4
 exact⟨⟨h1,h3.1,h3.2,h5.1,h5.2⟩,h6⟩
theorem zS_good:lE zS OkS:=by
 intro bs h
 obtain⟨h1,h2⟩:=iK bs h
 obtain⟨h1',h2'⟩:=iK (zN bs).2 h2
 obtain⟨h3,h4⟩:=qP (zN (zN bs).2).2 h2'
 obtain⟨h5,h6⟩:=qP (zO (zN (zN bs).2).2).2 h4
 exact⟨⟨h1,h1',h3.1,h3.2,h5.1,h5.2⟩,h6⟩
theorem zT_good:lE zT OkC:=by
 intro bs h
 obtain⟨h1,h2⟩:=qR iK bs h
 obtain⟨h3,h4⟩:=qR zG_good (zL zN bs).2 h2
 obtain⟨h5,h6⟩:=qR zS_good (zL zG (zL zN bs).2).2 h4
 exact⟨⟨h1,h3,h5⟩,h6⟩
theorem zP_good:lE zP OkP:=by
 intro bs h
 obtain⟨h1,h2⟩:=iK bs h
 obtain⟨h3,h4⟩:=qR zT_good (zN bs).2 h2
 exact⟨⟨h1,h3.1,h3.2⟩,h4⟩
theorem doc_same {bs:List Int} (h:Byt bs):docOk bs=iA bs:=by
 cases hr:iA bs with
 | some p=>
  simp only[iA,Option.bind_eq_some_iff]at hr
  obtain⟨⟨q,r⟩,h1,h2⟩:=hr
  by_cases hc:r=[]∧aM q.1 (q.2.map cX)=0
  ·rw[if_pos hc]at h2
   injection h2 with h2
   subst h2
   obtain⟨rfl,h3⟩:=hc
   have hz:=zP_zero bs _ h1
   obtain⟨h4,_⟩:=rW bs q [] h h1
   unfold docOk
   rw[hz]
   rw[if_pos ⟨h3,by rw[h4];simp⟩]
  ·rw[if_neg hc]at h2;cases h2
 | none=>
  unfold docOk
  by_cases hc:aM (zP bs).1.1 ((zP bs).1.2.map cX)=0∧pB (zP bs).1=bs
  ·exfalso
   have hb:=zY (zP_good bs h).1 []
   rw[List.append_nil,hc.2]at hb
   simp[iA,hb,hc.1]at hr
  ·rw[if_neg hc]
theorem pL {p:Int×List fG} (hp:OkP p) (hE:aM p.1 (p.2.map cX)=0):iA (pB p)=some p:=by
 have hb:=zY hp []
 rw[List.append_nil]at hb
 simp[iA,hb,hE]
theorem bytes_of_rd {bs:List Int} {p:Int×List fG} (h:Byt bs) (hr:iA bs=some p):pB p=bs∧aM p.1 (p.2.map cX)=0:=by
 simp only[iA,Option.bind_eq_some_iff]at hr
 obtain⟨⟨q,r⟩,h1,h2⟩:=hr
 by_cases hc:r=[]∧aM q.1 (q.2.map cX)=0
 ·rw[if_pos hc]at h2
  injection h2 with h2
  subst h2
  obtain⟨rfl,h3⟩:=hc
  obtain⟨h4,_⟩:=rW bs q [] h h1
  exact⟨by rw[h4];simp,h3⟩
 ·rw[if_neg hc]at h2;cases h2
section
open Go.ChangeShapes Go.WideShapes Go.ChangeAt Go.RowKit Go.Deep
def V64 (x:TxA):Prop:=(∀z∈x.gs,dV z.an∧dV z.bn)∧(∀z∈x.ss,dV z.an∧dV z.bn)
section
variable {H:Type} {enc:TypeId×Value→H} {w:World} {base:Nat} {spare:Nat→Bool} {held:Bool}
theorem nL {n:Nat} {c:Value} {y:DataW H×List MemPlace} (h:DataW.trod enc Tryz.prog w base spare held n 3 [c]=some y):∃k,c=.int .i64 k∧dV k:=by
 obtain⟨k,hk,_,hw⟩:=DataW.trod_int Tryz.underlying3 h
 refine⟨k,by simpa using hk,?_⟩
 simp only[Lit.wf,Bool.and_eq_true,decide_eq_true_eq]at hw
 have h1:IntKind.i64.min = -9223372036854775808:=by decide
 have h2:IntKind.i64.max=9223372036854775807:=by decide
 rw[h1,h2]at hw
 exact⟨hw.1,by omega⟩
theorem gM {n:Nat} {c0 c1:Value} {y:DataW H×List MemPlace} (h:DataW.trod enc Tryz.prog w base spare held n 97 [c0,c1]=some y):∃k m,c0=.int .i64 k∧c1=.int .i64 m∧dV m:=by
 obtain⟨y0,y1,m,_,_,h0,h1⟩:=trod_struct2 Tryz.underlying97 h
 have k3:Tryz.prog.cellsOf 3=1:=by kernel_rfl
 simp only[k3]at h0 h1
 obtain⟨a,ha⟩:=sS (c:=c0) (by simpa using h0)
 obtain⟨b,hb,vb⟩:=nL (c:=c1) (by simpa using h1)
 exact⟨a,b,ha,hb,vb⟩
theorem guard64_of {n:Nat} {c0 c1 c2 c3 c4:Value} {y:DataW H×List MemPlace} (h:DataW.trod enc Tryz.prog w base spare held n 99 [c0,c1,c2,c3,c4]=some y):∃g:Gd,c0=.int .i64 g.k∧c1=.int .i64 g.ak∧c2=.int .i64 g.an∧c3=.int .i64 g.bk∧c4=.int .i64 g.bn∧dV g.an∧dV g.bn:=by
 obtain⟨y0,y1,y2,m,_,_,h0,h1,h2⟩:=trod_struct3 Tryz.underlying99 h
 have k3:Tryz.prog.cellsOf 3=1:=by kernel_rfl
 have k23:Tryz.prog.cellsOf 97=2:=by kernel_rfl
 simp only[k3,k23]at h0 h1 h2
 obtain⟨a,ha⟩:=sS (c:=c0) (by simpa using h0)
 obtain⟨b,b',hb,hb',vb⟩:=gM (c0:=c1) (c1:=c2) (by simpa using h1)
 obtain⟨d,d',hd,hd',vd⟩:=gM (c0:=c3) (c1:=c4) (by simpa using h2)
 exact⟨⟨a,b,b',d,d'⟩,ha,hb,hb',hd,hd',vb,vd⟩
theorem set64_of {n:Nat} {c0 c1 c2 c3 c4 c5:Value} {y:DataW H×List MemPlace} (h:DataW.trod enc Tryz.prog w base spare held n 102 [c0,c1,c2,c3,c4,c5]=some y):∃g:St,c0=.int .i64 g.key∧c1=.int .i64 g.op∧c2=.int .i64 g.ak∧c3=.int .i64 g.an∧c4=.int .i64 g.bk∧c5=.int .i64 g.bn∧dV g.an∧dV g.bn:=by
 obtain⟨xs,m,_,_,_,hlen,hf⟩:=DataW.trod_struct Tryz.underlying102 h
 have k3:Tryz.prog.cellsOf 3=1:=by kernel_rfl
 have k23:Tryz.prog.cellsOf 97=2:=by kernel_rfl
 match xs,hlen with
 | [y0,y1,y2,y3],_=>
  have h0:DataW.trod enc Tryz.prog w base spare held m 3 (([c0,c1,c2,c3,c4,c5].drop 0).take (Tryz.prog.cellsOf 3))=some y0:=hf 0 _ rfl
  have h1:DataW.trod enc Tryz.prog w base spare held m 3 (([c0,c1,c2,c3,c4,c5].drop 1).take (Tryz.prog.cellsOf 3))=some y1:=hf 1 _ rfl
  have h2:DataW.trod enc Tryz.prog w base spare held m 97 (([c0,c1,c2,c3,c4,c5].drop 2).take (Tryz.prog.cellsOf 97))=some y2:=hf 2 _ rfl
  have h3:DataW.trod enc Tryz.prog w base spare held m 97 (([c0,c1,c2,c3,c4,c5].drop 4).take (Tryz.prog.cellsOf 97))=some y3:=hf 3 _ rfl
  simp only[k3,k23]at h0 h1 h2 h3
  obtain⟨a,ha⟩:=sS (c:=c0) (by simpa using h0)
  obtain⟨a',ha'⟩:=sS (c:=c1) (by simpa using h1)
  obtain⟨b,b',hb,hb',vb⟩:=gM (c0:=c2) (c1:=c3) (by simpa using h2)
  obtain⟨d,d',hd,hd',vd⟩:=gM (c0:=c4) (c1:=c5) (by simpa using h3)
  exact⟨⟨a,a',b,b',d,d'⟩,ha,ha',hb,hb',hd,hd',vb,vd⟩
theorem open_gs64 {n:Nat} {v:Value} {y:DataW H×List MemPlace} (h:DataW.trod enc Tryz.prog w base spare held n 92 [v]=some y):∃(a:Option Addr) (gs:List Gd) (cap:Nat),v=.slice a gs.length cap∧gs.length≤maxLen∧IsGs w a gs∧(a=none→cap=0)∧(∀z∈gs,dV z.an∧dV z.bn):=by
 have k58:Tryz.prog.cellsOf 99=5:=by kernel_rfl
 rcases open_slice Tryz.underlying92 h with ⟨hcs,_⟩ | ⟨a,len,cap,m,n',D,Pl,hcs,_,hl,hm,hmm,_,hx⟩
 ·simp at hcs
  exact⟨none,[],0,by simpa using hcs,by simp,fun i hi=>absurd hi (by simp),fun _=>rfl,fun z hz=>by cases hz⟩
 ·simp at hcs
  have hlm:len≤m:=by rw[hmm];split <;> omega
  rw[k58]at hx
  have:Inhabited Gd:=⟨g0⟩
  obtain⟨f,hf⟩:=choose_lt (α:=Gd) (p:=fun i g=>w.cell? ((a.add (i*5)).add 0)=some (.int .i64 g.k)∧w.cell? ((a.add (i*5)).add 1)=some (.int .i64 g.ak)∧w.cell? ((a.add (i*5)).add 2)=some (.int .i64 g.an)∧w.cell? ((a.add (i*5)).add 3)=some (.int .i64 g.bk)∧w.cell? ((a.add (i*5)).add 4)=some (.int .i64 g.bn)∧dV g.an∧dV g.bn) (n:=m) (fun i hi=>by
   obtain⟨cs',h1,h2⟩:=hx i hi
   obtain⟨_,hlen,hc⟩:=World.cells?_some h1
   match cs',hlen with
   | [c0,c1,c2,c3,c4],_=>
    obtain⟨g,rfl,rfl,rfl,rfl,rfl,hv1,hv2⟩:=guard64_of h2
    exact⟨g,hc 0 (by omega),hc 1 (by omega),hc 2 (by omega),hc 3 (by omega),hc 4 (by omega),hv1,hv2⟩)
  obtain⟨b,off,spot⟩:=a
  refine⟨some ⟨b,off,spot⟩,(List.range len).map f,cap,by simpa using hcs,by simp;omega,fun i hi=>?_,fun h=>(by cases h),fun z hz=>?_⟩
  rotate_left
  ·obtain⟨i,hi,rfl⟩:=List.mem_map.1 hz
   have hi2:i<len:=by simpa using hi
   exact(hf i (by omega)).2.2.2.2.2
  have hi':i<len:=by simpa using hi
  have hsp:spot=none:=by
   have:=World.cell?_spot (hf 0 (by omega)).1
   simpa[Addr.add]using this
  subst hsp
  obtain⟨e0,e1,e2,e3,e4,_⟩:=hf i (by omega)
  rw[qZ]at e0 e1 e2 e3 e4
  have eg:((List.range len).map f).getD i g0=f i:=by simp[List.getD,hi']
  rw[eg]
  exact⟨b,off,rfl,World.block_lt_of_cell? w _ e0,e0,e1,e2,e3,e4⟩
theorem open_ss64 {n:Nat} {v:Value} {y:DataW H×List MemPlace} (h:DataW.trod enc Tryz.prog w base spare held n 93 [v]=some y):∃(a:Option Addr) (gs:List St) (cap:Nat),v=.slice a gs.length cap∧gs.length≤maxLen∧IsSs w a gs∧(a=none→cap=0)∧(∀z∈gs,dV z.an∧dV z.bn):=by
 have k76:Tryz.prog.cellsOf 102=6:=by kernel_rfl
 rcases open_slice Tryz.underlying93 h with ⟨hcs,_⟩ | ⟨a,len,cap,m,n',D,Pl,hcs,_,hl,hm,hmm,_,hx⟩
 ·simp at hcs
  exact⟨none,[],0,by simpa using hcs,by simp,fun i hi=>absurd hi (by simp),fun _=>rfl,fun z hz=>by cases hz⟩
 ·simp at hcs
  have hlm:len≤m:=by rw[hmm];split <;> omega
  rw[k76]at hx
  have:Inhabited St:=⟨s0⟩
  obtain⟨f,hf⟩:=choose_lt (α:=St) (p:=fun i g=>w.cell? ((a.add (i*6)).add 0)=some (.int .i64 g.key)∧w.cell? ((a.add (i*6)).add 1)=some (.int .i64 g.op)∧w.cell? ((a.add (i*6)).add 2)=some (.int .i64 g.ak)∧w.cell? ((a.add (i*6)).add 3)=some (.int .i64 g.an)∧w.cell? ((a.add (i*6)).add 4)=some (.int .i64 g.bk)∧w.cell? ((a.add (i*6)).add 5)=some (.int .i64 g.bn)∧dV g.an∧dV g.bn) (n:=m) (fun i hi=>by
   obtain⟨cs',h1,h2⟩:=hx i hi
   obtain⟨_,hlen,hc⟩:=World.cells?_some h1
   match cs',hlen with
   | [c0,c1,c2,c3,c4,c5],_=>
    obtain⟨g,rfl,rfl,rfl,rfl,rfl,rfl,hv1,hv2⟩:=set64_of h2
    exact⟨g,hc 0 (by omega),hc 1 (by omega),hc 2 (by omega),hc 3 (by omega),hc 4 (by omega),hc 5 (by omega),hv1,hv2⟩)
  obtain⟨b,off,spot⟩:=a
  refine⟨some ⟨b,off,spot⟩,(List.range len).map f,cap,by simpa using hcs,by simp;omega,fun i hi=>?_,fun h=>(by cases h),fun z hz=>?_⟩
  rotate_left
  ·obtain⟨i,hi,rfl⟩:=List.mem_map.1 hz
   have hi2:i<len:=by simpa using hi
   exact(hf i (by omega)).2.2.2.2.2.2
  have hi':i<len:=by simpa using hi
  have hsp:spot=none:=by
   have:=World.cell?_spot (hf 0 (by omega)).1
   simpa[Addr.add]using this
  subst hsp
  obtain⟨e0,e1,e2,e3,e4,e5,_⟩:=hf i (by omega)
  rw[qZ]at e0 e1 e2 e3 e4 e5
  have eg:((List.range len).map f).getD i s0=f i:=by simp[List.getD,hi']
  rw[eg]
  exact⟨b,off,rfl,World.block_lt_of_cell? w _ e0,e0,e1,e2,e3,e4,e5⟩
end
section
variable {H:Type} {enc:TypeId×Value→H} {w:World} {base:Nat} {held:Bool}
theorem tx64_of {n:Nat} {c0 c1 c2:Value} {y:DataW H×List MemPlace} (h:DataW.trod enc Tryz.prog w base (fun _=>true) held n 95 [c0,c1,c2]=some y) :
  ∃x:TxA,c0=.slice x.ra x.rs.length x.rc∧c1=.slice x.ga x.gs.length x.gc∧c2=.slice x.sa x.ss.length x.sc∧IsX w x∧V64 x:=by
 obtain⟨y0,y1,y2,m,_,_,h0,h1,h2⟩:=trod_struct3 Tryz.underlying95 h
 have k22:Tryz.prog.cellsOf 41=1:=by kernel_rfl
 have k23:Tryz.prog.cellsOf 92=1:=by kernel_rfl
 have k24:Tryz.prog.cellsOf 93=1:=by kernel_rfl
 simp only[k22,k23,k24]at h0 h1 h2
 obtain⟨ra,rs,rc,rfl,lr,ir,rn⟩:=open_rs (v:=c0) (by simpa using h0)
 obtain⟨ga,gs,gc,rfl,lg,ig,gn,vg⟩:=open_gs64 (v:=c1) (by simpa using h1)
 obtain⟨sa,ss,sc,rfl,ls,is,sn,vs⟩:=open_ss64 (v:=c2) (by simpa using h2)
 exact⟨⟨ra,ga,sa,rc,gc,sc,rs,gs,ss⟩,rfl,rfl,rfl,⟨⟨ir,ig,is,lr,lg,ls⟩,rn,gn,sn⟩,vg,vs⟩
theorem open_txs64 {n:Nat} {v:Value} {y:DataW H×List MemPlace} (h:DataW.trod enc Tryz.prog w base (fun _=>true) held n 27 [v]=some y):∃(a:Option Addr) (l:List TxA) (cap:Nat),v=.slice a l.length cap∧l.length≤maxLen∧l.length≤cap∧IsTxs w a l∧(a=none→cap=0)∧(∀x∈l,V64 x):=by
 have k26:Tryz.prog.cellsOf 95=3:=by kernel_rfl
 rcases open_slice Tryz.underlying27 h with ⟨hcs,_⟩ | ⟨a,len,cap,m,n',D,Pl,hcs,_,hl,hm,hmm,_,hx⟩
 ·simp at hcs
  exact⟨none,[],0,by simpa using hcs,by simp,by simp,fun i hi=>absurd hi (by simp),fun _=>rfl,fun z hz=>by cases hz⟩
 ·simp at hcs
  have hlm:len≤m:=by rw[hmm];split <;> omega
  rw[k26]at hx
  have:Inhabited TxA:=⟨x0⟩
  obtain⟨f,hf⟩:=choose_lt (α:=TxA) (p:=fun i x=>w.cell? ((a.add (i*3)).add 0)=some (.slice x.ra x.rs.length x.rc)∧w.cell? ((a.add (i*3)).add 1)=some (.slice x.ga x.gs.length x.gc)∧w.cell? ((a.add (i*3)).add 2)=some (.slice x.sa x.ss.length x.sc)∧IsX w x∧V64 x) (n:=m) (fun i hi=>by
   obtain⟨cs',h1,h2⟩:=hx i hi
   obtain⟨_,hlen,hc⟩:=World.cells?_some h1
   match cs',hlen with
   | [c0,c1,c2],_=>
    obtain⟨x,rfl,rfl,rfl,hX⟩:=tx64_of h2
    exact⟨x,hc 0 (by omega),hc 1 (by omega),hc 2 (by omega),hX⟩)
  obtain⟨b,off,spot⟩:=a
  refine⟨some ⟨b,off,spot⟩,(List.range len).map f,cap,by simpa using hcs,by simp;omega,by simp;omega,fun i hi=>?_,fun h=>(by cases h),fun z hz=>?_⟩
  rotate_left
  ·obtain⟨i,hi,rfl⟩:=List.mem_map.1 hz
   have hi2:i<len:=by simpa using hi
   exact(hf i (by omega)).2.2.2.2
  have hi':i<len:=by simpa using hi
  have hsp:spot=none:=by
   have:=World.cell?_spot (hf 0 (by omega)).1
   simpa[Addr.add]using this
  subst hsp
  obtain⟨e0,e1,e2,eX,_⟩:=hf i (by omega)
  rw[qZ]at e0 e1 e2
  have eg:((List.range len).map f).getD i x0=f i:=by simp[List.getD,hi']
  rw[eg]
  exact⟨b,off,rfl,World.block_lt_of_cell? w _ e0,e0,e1,e2,eX⟩
theorem open_p64 {b0:Nat} {v:Value} {d:DataW H} {p:List MemPlace} (hv:Value.okWide Tryz.prog w .any b0 29 v) (h:DataW.Trod enc Tryz.prog w base (fun _=>true) held 29 v d p) :
  ∃(m:Int) (la:Option Addr) (l:List TxA) (lc:Nat),v=.agg #[.int .i64 m,.slice la l.length lc]∧IsTxs w la l∧∀x∈l,V64 x:=by
 obtain⟨c0,c1,y0,y1,m,rfl,_,_,h0,h1⟩:=Joins.open_agg2 Tryz.underlying29 (by kernel_rfl) (by kernel_rfl) hv h
 obtain⟨k,rfl⟩:=sS h0
 obtain⟨la,l,lc,rfl,_,_,hl,_,hv⟩:=open_txs64 h1
 exact⟨k,la,l,lc,rfl,hl,hv⟩
end
theorem lM {k n:Int} {r:Nat} (h:bD k n r=0):B1 k:=by
 unfold bD at h
 by_cases c0:(r:Int)<0∨4<(r:Int)
 ·rw[if_pos c0]at h;omega
 ·rw[if_neg c0]at h
  by_cases c1:k=1
  ·exact⟨by omega,by omega⟩
  ·rw[if_neg c1]at h
   by_cases c2:k=2
   ·exact⟨by omega,by omega⟩
   ·rw[if_pos c2]at h;omega
theorem holdE_kind {k:Int} (h:iT k=0):B1 k:=by
 unfold iT at h
 by_cases c:1≤k∧k≤4
 ·exact⟨by omega,by omega⟩
 ·rw[if_neg c]at h;omega
theorem reckE_kind {k:Int} (h:iN k=0):B1 k:=by
 unfold iN at h
 by_cases c:1≤k∧k≤6
 ·exact⟨by omega,by omega⟩
 ·rw[if_neg c]at h;omega
theorem okP_of {m:Int} {l:List TxA} (hE:aM m l=0) (hv:∀x∈l,V64 x):OkP (m,l.map TxA.core):=by
 obtain⟨m1,m2,hC⟩:=aY hE
 refine⟨⟨by simp only;omega,by simp only;omega⟩,by simp only[List.length_map];have:=eD hC;omega,fun c hc=>?_⟩
 obtain⟨x,hx,rfl⟩:=List.mem_map.1 hc
 obtain⟨k,hk,rfl⟩:=List.getElem_of_mem hx
 have hX:eT l[k]=0:=by
  have:=nR hC k hk
  simpa[List.getD,hk]using this
 have hvx:=hv _ hx
 generalize l[k]=x at *
 obtain⟨ra,ga,sa,rc,gc,sc,rs,gs,ss⟩:=x
 have hT:bA rs gs ss=0:=hX
 obtain⟨p1,p2,p3,p4⟩:=dH hT
 obtain⟨s1,s2,s3,_⟩:=bL _ _ _ p1
 obtain⟨q1,q2⟩:=mO hT
 have hg:∀z∈gs,cL rs.length z=0:=fun z hz=>by
  obtain⟨i,hi,rfl⟩:=List.getElem_of_mem hz
  have:=aR _ p3 i
  simpa[List.getD,hi]using this
 have hs:∀z∈ss,cU rs.length z=0:=fun z hz=>by
  obtain⟨i,hi,rfl⟩:=List.getElem_of_mem hz
  have:=aR _ p4 i
  simpa[List.getD,hi]using this
 refine⟨⟨by simp only[TxA.core];omega,fun z hz=>?_⟩,⟨by simp only[TxA.core];omega,fun z hz=>?_⟩,by simp only[TxA.core];omega,fun z hz=>?_⟩
 ·have:=gY rs q1 z hz
  exact⟨by omega,by omega⟩
 ·have h:=aR _ (hg z hz)
  have h0:iT z.k=0:=by simpa using h 0
  have h1:bD z.ak z.an rs.length=0:=by simpa using h 1
  have h2:bD z.bk z.bn rs.length=0:=by simpa using h 2
  exact⟨holdE_kind h0,lM h1,(hvx.1 z hz).1,lM h2,(hvx.1 z hz).2⟩
 ·have h:=aR _ (hs z hz)
  have h0:iN z.op=0:=by simpa using h 0
  have h1:bD z.ak z.an rs.length=0:=by simpa using h 1
  have h2:bD z.bk z.bn rs.length=0:=by simpa using h 2
  have hk:0≤z.key∧z.key<8:=gY _ q2 _ (List.mem_map.2 ⟨z,hz,rfl⟩)
  exact⟨⟨by omega,by omega⟩,reckE_kind h0,lM h1,(hvx.2 z hz).1,lM h2,(hvx.2 z hz).2⟩
end
end Go.Proofs.YtcgpkonfneofdaaGreatDoor
