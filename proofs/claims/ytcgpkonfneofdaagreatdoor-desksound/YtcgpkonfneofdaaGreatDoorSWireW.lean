/- Conditions: those that each theorem states. -/
import Derived.Test.YtcgpkonfneofdaaGreatDoorSDkS
import Derived.Test.YtcgpkonfneofdaaGreatDoorSWireR
set_option maxRecDepth 100000
set_option maxHeartbeats 8000000
namespace Go.Proofs.YtcgpkonfneofdaaGreatDoor
open Go.RowKit
def cX (c:fG):TxA:=⟨none,none,none,0,0,0,c.1,c.2.1,c.2.2⟩
theorem iC (m:Int) (l:List TxA):aM m ((l.map TxA.core).map cX)=aM m l:=by
 have e:((l.map TxA.core).map cX).map eT=l.map eT:=by simp[eT,cX,TxA.core,Function.comp_def]
 have e2:((l.map TxA.core).map cX).length=l.length:=by simp
 simp only[aM,dD,e,e2]
theorem aAj (m:Int) (l:List TxA):plB m l=pB (m,l.map TxA.core):=by
 simp only[plB,xsB,pB,lB',List.length_map,List.flatMap_map]
 rfl
def iA (bs:List Int):Option (Int×List fG):=(yR bs).bind fun p=>if p.2=[]∧aM p.1.1 (p.1.2.map cX)=0 then some p.1 else none
def aAf (bs:List Int):Int:=if 4096<bs.length then 2 else if (iA bs).isSome then 0 else 1
def aBb (s:ByteArray):Int:=if eS s=[] then 0 else 1
def riE (m:Int) (l:List TxA):Int:=if aM m l=0 then 0 else 1
theorem aBa (s:ByteArray) (w:World):Calls Tryz.prog 35 #[.agg #[.string s]] w fun e w'=>e=.returned (.int .i64 (aBb s))∧Below w.heap.size w w':=by
 by_cases h:eS s=[]
 ·have hn:s.toList=[]:=by have:=qV (s:=s);rw[h]at this;simpa using this
  have hni:s.toList.isEmpty=true:=by rw[hn];rfl
  have HE:Hid (aBb s=0):=if_pos h
  clear h
  go_enter Tryz.func35,Tryz.ntmps35
  go_wp2
  go_ret
  exact⟨by rw[HE.out];rfl,aA (Below.refl _ _) _⟩
 ·have hn:¬s.toList=[]:=by have:=qV (s:=s);intro e;rw[e]at this;simp[h]at this
  have hni:s.toList.isEmpty=false:=by cases h2:s.toList with
   | nil=>exact absurd h2 hn
   | cons _ _=>rfl
  have HE:Hid (aBb s=1):=if_neg h
  clear h
  go_enter Tryz.func35,Tryz.ntmps35
  go_wp2
  go_ret
  exact⟨by rw[HE.out];rfl,aA (Below.refl _ _) _⟩
theorem wP (la:Option Addr) (lc:Nat) (l:List TxA) (m:Int) (w:World) (hl:IsTxs w la l):Calls Tryz.prog 36 #[.agg #[.int .i64 m,.slice la l.length lc]] w fun e w'=>e=.returned (.int .i64 (riE m l))∧Below w.heap.size w w':=by
 have HC:=hid (bB la lc l m _ (hl.below (aA (Below.refl _ _) (.cells #[.int .i64 m,.slice la l.length lc] 29))))
 clear hl
 by_cases h:aM m l=0
 ·have HE:Hid (riE m l=0):=if_pos h
  rw[h]at HC
  clear h
  go_enter Tryz.func36,Tryz.ntmps36
  go_wp2_with fail
  refine HC.out.mono ?_
  rintro e w1 ⟨rfl,hb⟩
  have HB:Hid (Below w.heap.size w w1):=aC (aA (Below.refl _ _) _) hb
  clear hb HC
  go_wp2
  go_ret
  exact⟨by rw[HE.out];rfl,HB.out⟩
 ·have HE:Hid (riE m l=1):=if_neg h
  have hb0:(aM m l != 0)=true:=by simpa using h
  generalize aM m l=E at *
  go_enter Tryz.func36,Tryz.ntmps36
  go_wp2_with fail
  refine HC.out.mono ?_
  rintro e w1 ⟨rfl,hb⟩
  have HB:Hid (Below w.heap.size w w1):=aC (aA (Below.refl _ _) _) hb
  clear hb HC
  go_wp2
  go_ret
  exact⟨by rw[HE.out];rfl,HB.out⟩
theorem mV (s:ByteArray) (w:World):Calls Tryz.prog 33 #[.string s] w fun e w'=>e=.returned (.int .i64 (if 4096<s.size then 2 else 0))∧w'=w:=by
 by_cases h:4096<s.size
 ·have hi:(4096:Int)<(s.size:Int):=by omega
  rw[if_pos h]
  clear h
  go_enter Tryz.func33,Tryz.ntmps33
  go_wp2
  go_ret
  exact⟨rfl,rfl⟩
 ·have hi:¬(4096:Int)<(s.size:Int):=by omega
  rw[if_neg h]
  clear h
  go_enter Tryz.func33,Tryz.ntmps33
  go_wp2
  go_ret
  exact⟨rfl,rfl⟩
def ReadP (p:Int×List fG) (C:Nat) (m:Int) (a:Option Addr) (n c:Nat) (w:World):Prop:=m=p.1∧∃cl:List TxA,n=cl.length∧TxRow C w (.slice a n c) cl∧cl.map TxA.core=p.2
theorem read1_many (B:Nat) (s:ByteArray) (w:World) (c0:w.cell? ⟨B,0,none⟩=some (.string s)) (h:4096<s.size) :
  Calls Tryz.prog 32 #[.pointer (some ⟨B,0,none⟩)] w fun e w'=>e=.panicked [{v:=.iface 22 (.int .i64 2),recovered:=false}]∧Below w.heap.size w w':=by
 have HC:Hid (∀w',Calls Tryz.prog 33 #[.string s] w' fun e w''=>e=.returned (.int .i64 2)∧w''=w'):=fun w'=>by have:=mV s w';rw[if_pos h]at this;exact this
 have e0:(w.alloc (.cells #[.int .i64 0,.slice none 0 0] 29)).cell? ⟨B,0,none⟩=some (.string s):=aB (aA (Below.refl _ _) _) c0
 clear c0 h
 go_enter Tryz.func32,Tryz.ntmps32
 go_wp2_with fail
 refine(HC.out _).mono ?_
 rintro e w1 ⟨rfl,rfl⟩
 go_wp2_with fail
 refine(cF [2] 0 2 _ 1 _ (by simp) (by simp) (by simp) rfl (by decide) (cD _ _ _ (by simp))).mono ?_
 rintro e w' ⟨rfl,rfl⟩
 go_wp2
 exact⟨rfl,rfl,aA (aA (Below.refl _ _) _) _⟩
def RdEnd (C:Nat) (o:Option (Int×List fG)) (e:Ending) (w':World):Prop:=match o with
 | none=>e=.panicked [{v:=.iface 22 (.int .i64 1),recovered:=false}]
 | some p=>∃m a n c,e=.returned (.agg #[.int .i64 m,.slice a n c])∧ReadP p C m a n c w'
theorem uI (B:Nat) (s:ByteArray) (w:World) (c0:w.cell? ⟨B,0,none⟩=some (.string s)) (hm:¬4096<s.size) :
  Calls Tryz.prog 32 #[.pointer (some ⟨B,0,none⟩)] w fun e w'=>Below w.heap.size w w'∧RdEnd w.heap.size (iA (eS s)) e w':=by
 have HC:Hid (∀w',Calls Tryz.prog 33 #[.string s] w' fun e w''=>e=.returned (.int .i64 0)∧w''=w'):=fun w'=>by have:=mV s w';rw[if_neg hm]at this;exact this
 have e0:(w.alloc (.cells #[.int .i64 0,.slice none 0 0] 29)).cell? ⟨B,0,none⟩=some (.string s):=aB (aA (Below.refl _ _) _) c0
 have hBw:B<w.heap.size:=World.block_lt_of_cell? w ⟨B,0,none⟩ c0
 clear c0 hm
 go_enter Tryz.func32,Tryz.ntmps32
 go_wp2_with fail
 refine(HC.out _).mono ?_
 rintro e w1 ⟨rfl,rfl⟩
 clear HC
 go_wp2_with fail
 refine(aO [0] _ 1 _ (by simp) rfl (cD _ _ _ (by simp))).mono ?_
 rintro e w' ⟨rfl,rfl⟩
 obtain⟨W,hWe⟩:∃W,W=((w.alloc (.cells #[.int .i64 0,.slice none 0 0] 29)).alloc (.cells #[.int .i64 0] 22)):=⟨_,rfl⟩
 have HW:Hid (Below w.heap.size w W):=by subst hWe;exact aA (aA (Below.refl _ _) _) _
 have HSZ:Hid (W.heap.size=w.heap.size+2):=by subst hWe;show _=_;simp
 have e1:W.cell? ⟨B,0,none⟩=some (.string s):=by subst hWe;exact aB (aA (Below.refl _ _) _) e0
 have t0:W.cell? ⟨w.heap.size,0,none⟩=some (.int .i64 0):=by subst hWe;exact aB (aA (Below.refl _ _) _) (aG w _ 29 _ 0 _ rfl rfl)
 have t1:W.cell? ⟨w.heap.size,1,none⟩=some (.slice none 0 0):=by subst hWe;exact aB (aA (Below.refl _ _) _) (aG w _ 29 _ 1 _ rfl rfl)
 have tf:∀i,W.frozen? ⟨w.heap.size,i,none⟩=false:=by subst hWe;intro i;exact((aA (Below.refl (w.alloc (.cells #[.int .i64 0,.slice none 0 0] 29)).heap.size (w.alloc (.cells #[.int .i64 0,.slice none 0 0] 29))) (.cells #[.int .i64 0] 22)).frozen (p:=⟨w.heap.size,i,none⟩) (by simp)).trans (by simp)
 rw[←hWe]
 clear hWe e0
 obtain⟨V,hVe⟩:∃V,V=W.alloc (.cells #[.string s] 77):=⟨_,rfl⟩
 have HVE:Hid (V=W.alloc (.cells #[.string s] 77)):=hVe
 have HR:Hid (RdS W.heap.size V (eS s)):=by subst hVe;exact⟨s,by simp,by simp,rfl⟩
 have HVW:Hid (Below W.heap.size W V):=by subst hVe;exact aA (Below.refl _ _) _
 have HVS:Hid (V.heap.size=W.heap.size+1):=by subst hVe;show _=_;simp
 clear hVe
 go_upto_region 3 with fail
 rw[←HVE.out]
 go_wp2_with fail
 refine(rdPlan_any W.heap.size (eS s) V HR.out).mono ?_
 rintro e w2 ⟨g,hm⟩
 have hsz:=HSZ.out
 have hvs:=HVS.out
 have B2:Hid (Below w.heap.size w w2):=aC HW.out ⟨g.os.trans HVW.out.os,g.tape.trans HVW.out.tape,g.output.trans HVW.out.output,Nat.le_trans HVW.out.size g.size,fun b hb=>(g.block b (by omega) (fun e=>by injection e with e;omega)).trans (HVW.out.block b hb)⟩
 cases hc:yR (eS s) with
 | none=>
  rw[hc]at hm
  have HG:Hid (iA (eS s)=none):=by show iA (eS s)=none;simp[iA,hc]
  subst hm
  clear hsz hvs
  unfold dY
  go_wp2
  refine⟨rfl,B2.out,?_⟩
  rw[HG.out]
  rfl
 | some q=>
  obtain⟨⟨m,L⟩,r⟩:=q
  rw[hc]at hm
  obtain⟨v,rfl,⟨v2,cl,rfl,hrow,hcl⟩,s2,k2,k2f,hs2⟩:=hm
  obtain⟨a2,cc,hv,htx⟩:=hrow.txs
  subst hv
  have hcl:cl.map TxA.core=L:=hcl
  have hgW:∀b,b<W.heap.size→w2.heap[b]?=W.heap[b]?:=fun b hb=>(g.block b (by omega) (fun e=>by injection e with e;omega)).trans (HVW.out.block b hb)
  have u0:w2.cell? ⟨w.heap.size,0,none⟩=some (.int .i64 0):=(World.cell?_of_block (a:=⟨w.heap.size,0,none⟩) (hgW w.heap.size (by omega))).trans t0
  have u1:w2.cell? ⟨w.heap.size,1,none⟩=some (.slice none 0 0):=(World.cell?_of_block (a:=⟨w.heap.size,1,none⟩) (hgW w.heap.size (by omega))).trans t1
  have uf:∀i,w2.frozen? ⟨w.heap.size,i,none⟩=false:=fun i=>(World.frozen?_of_block (a:=⟨w.heap.size,i,none⟩) (hgW w.heap.size (by omega))).trans (tf i)
  have HGS:w.heap.size+2<w2.heap.size:=by have:=g.size;omega
  have HROW:Hid (TxRow (w.heap.size+1) w2 (.slice a2 cl.length cc) cl):=hrow.low (by omega)
  have HTX:Hid (IsTxs w2 a2 cl):=htx
  have HCL:Hid (cl.map TxA.core=L):=hcl
  have HPE:Hid (aM m (L.map cX)=aM m cl):=by show _=_;rw[←hcl,iC]
  have HSE:Hid (aBb s2=if r=[] then 0 else 1):=by show _=_;unfold aBb;rw[hs2]
  have HOK:Hid (iA (eS s)=if r=[]∧aM m cl=0 then some (m,L) else none):=by
   show _=_
   simp only[iA,hc,Option.bind_some]
   rw[HPE.out]
  clear hgW t0 t1 tf hrow htx hcl hs2 hc g HVW HR HVE e1 hsz hvs HSZ
  obtain⟨X,hXe⟩:∃X,X=w2.alloc (.cells #[.int .i64 m,.slice a2 cl.length cc] 29):=⟨_,rfl⟩
  have HXE:Hid (X=w2.alloc (.cells #[.int .i64 m,.slice a2 cl.length cc] 29)):=hXe
  have BX:Below w2.heap.size w2 X:=by subst hXe;exact aA (Below.refl _ _) _
  have BX':Hid (Below w2.heap.size w2 X):=BX
  have x0:X.cell? ⟨w2.heap.size,0,none⟩=some (.int .i64 m):=by subst hXe;simp
  have x1:X.cell? ⟨w2.heap.size,1,none⟩=some (.slice a2 cl.length cc):=by subst hXe;simp
  have x2:X.cell? ⟨W.heap.size,0,none⟩=some (.string s2):=aB BX k2
  have u0:=aB BX u0
  have u1:=aB BX u1
  have uf:∀i,X.frozen? ⟨w.heap.size,i,none⟩=false:=fun i=>(BX.frozen (p:=⟨w.heap.size,i,none⟩) (show w.heap.size<w2.heap.size by omega)).trans (uf i)
  have HSX:w.heap.size<X.heap.size:=by have:=BX.size;omega
  clear hXe BX k2 k2f
  go_upto_region 4 with fail
  rw[←HXE.out]
  have EXT:Hid (∀w',Below X.heap.size X w'→Below X.heap.size X w'∧w'.cell? ⟨W.heap.size,0,none⟩=some (.string s2)∧w'.cell? ⟨w2.heap.size,0,none⟩=some (.int .i64 m)∧w'.cell? ⟨w2.heap.size,1,none⟩=some (.slice a2 cl.length cc)):=fun w' hb=>⟨hb,aB hb x2,aB hb x0,aB hb x1⟩
  have CL:Hid (∀w',Calls Tryz.prog 35 #[.agg #[.string s2]] w' fun e w''=>e=.returned (.int .i64 (aBb s2))∧Below w'.heap.size w' w''):=fun w'=>aBa s2 w'
  have CR:Hid (∀w',Below X.heap.size X w'→Calls Tryz.prog 36 #[.agg #[.int .i64 m,.slice a2 cl.length cc]] w' fun e w''=>e=.returned (.int .i64 (riE m cl))∧Below w'.heap.size w' w''):=fun w' hb=>wP a2 cc cl m w' (HTX.out.below (aC BX'.out hb))
  clear x0 x1 x2 HVS HXE
  by_cases hE:aF [aBb s2,riE m cl]=0
  ·have HE:Hid (aF [aBb s2,riE m cl]=0):=hE
   have HG:Hid (iA (eS s)=some (m,L)):=by
    show _=_
    rw[HOK.out]
    have z:=aR _ hE
    have z0:aBb s2=0:=by simpa using z 0
    have z1:riE m cl=0:=by simpa using z 1
    rw[HSE.out]at z0
    unfold riE at z1
    rw[if_pos]
    constructor
    ·by_cases c:r=[]
     ·exact c
     ·rw[if_neg c]at z0;omega
    ·by_cases c:aM m cl=0
     ·exact c
     ·rw[if_neg c]at z1;omega
   clear hE HOK HSE HPE
   generalize aBb s2=E1 at *
   generalize riE m cl=E2 at *
   go_region_held3 (fun w'=>Below X.heap.size X w'∧w'.cell? ⟨W.heap.size,0,none⟩=some (.string s2)∧w'.cell? ⟨w2.heap.size,0,none⟩=some (.int .i64 m)∧w'.cell? ⟨w2.heap.size,1,none⟩=some (.slice a2 cl.length cc)) ((go_split_ands;refine EXT.out _ ?_;repeat (first | assumption | exact Below.refl _ _ | exact Hid.out (by assumption) | refine aD ?_ | refine aA ?_ _ | refine aC ?_ (by assumption))))
    (first
     | (go_at_call 35;refine(CL.out _).mono ?_;rintro e w' ⟨rfl,hbx⟩)
     | (go_at_call 36;refine(CR.out _ ?_).mono ?_;(go_split_ands;repeat (first | assumption | exact Below.refl _ _ | exact Hid.out (by assumption) | refine aD ?_ | refine aA ?_ _ | refine aC ?_ (by assumption)));rintro e w' ⟨rfl,hby⟩)
     | (go_at_call 15;refine(aO [E1,E2] _ 2 _ (by simp) HE.out ?_).mono ?_;(exact iU _ _ _ _ (by simp));rintro e w' ⟨rfl,rfl⟩))
   all_goals (
    go_split_ands
    rename_i hBl hA0 hA1 hA2
    have q0:=aB hBl u0
    have q1:=aB hBl u1
    have qf:∀i,World.frozen? _ ⟨w.heap.size,i,none⟩=false:=fun i=>(hBl.frozen (p:=⟨w.heap.size,i,none⟩) HSX).trans (uf i)
    have QB:Hid (Below w.heap.size w _):=aC (aC B2.out BX'.out) hBl
    have QR:Hid (TxRow (w.heap.size+1) _ (.slice a2 cl.length cc) cl):=(HROW.out.below BX'.out).below hBl
    obtain⟨y0,y1⟩:=put2 (.int .i64 m) (.slice a2 cl.length cc) q0 q1
    clear u0 u1 uf hBl EXT CL CR
    go_wp2_with fail
    refine bodyPost_ret (v:=.agg #[.int .i64 m,.slice a2 cl.length cc]) (by simp[results,Tryz.results32,go_sem,y0,y1]) rfl ⟨aI (aI QB.out (Nat.le_refl _) _) (Nat.le_refl _) _,?_⟩
    rw[HG.out]
    exact⟨_,_,_,_,rfl,rfl,cl,rfl,((QR.out.set (Nat.lt_succ_self _)).set (Nat.lt_succ_self _)).low (Nat.le_succ _),HCL.out⟩)
  ·have HE:Hid (¬aF [aBb s2,riE m cl]=0):=hE
   have HV:Hid (aF [aBb s2,riE m cl]=1):=by
    show _=_
    have a1:aBb s2=0∨aBb s2=1:=by unfold aBb;split <;> simp
    have a2:riE m cl=0∨riE m cl=1:=by unfold riE;split <;> simp
    rcases a1 with a1 | a1 <;> rcases a2 with a2 | a2 <;> rw[a1,a2]at hE ⊢ <;> simp_all [aF]
   have HG:Hid (iA (eS s)=none):=by
    show _=_
    rw[HOK.out,if_neg]
    rintro ⟨c1,c2⟩
    apply hE
    have z0:aBb s2=0:=by rw[HSE.out,if_pos c1]
    have z1:riE m cl=0:=if_pos c2
    rw[z0,z1];rfl
   clear hE HOK HSE HPE
   generalize aBb s2=E1 at *
   generalize riE m cl=E2 at *
   go_region_held (fun w'=>Below X.heap.size X w'∧w'.cell? ⟨W.heap.size,0,none⟩=some (.string s2)∧w'.cell? ⟨w2.heap.size,0,none⟩=some (.int .i64 m)∧w'.cell? ⟨w2.heap.size,1,none⟩=some (.slice a2 cl.length cc)) ((go_split_ands;refine EXT.out _ ?_;repeat (first | assumption | exact Below.refl _ _ | exact Hid.out (by assumption) | refine aD ?_ | refine aA ?_ _ | refine aC ?_ (by assumption))))
    (first
     | (go_at_call 35;refine(CL.out _).mono ?_;rintro e w' ⟨rfl,hbx⟩)
     | (go_at_call 36;refine(CR.out _ ?_).mono ?_;(go_split_ands;repeat (first | assumption | exact Below.refl _ _ | exact Hid.out (by assumption) | refine aD ?_ | refine aA ?_ _ | refine aC ?_ (by assumption)));rintro e w' ⟨rfl,hby⟩)
     | (go_at_call 15;refine(dM (cH [E1,E2] _ 2 _ (by simp) HE.out ?_) (.tuple #[])).mono ?_;(exact iU _ _ _ _ (by simp));rintro e w' (⟨rfl,rfl⟩ | ⟨hF,rfl,rfl⟩);(refine⟨rfl,?_,by rw[HG.out];exact congrArg (fun x=>Ending.panicked [{v:=.iface 22 (.int .i64 x),recovered:=false}]) HV.out⟩;refine aC (aC B2.out BX'.out) ?_;go_split_ands;repeat (first | assumption | exact Below.refl _ _ | exact Hid.out (by assumption) | refine aD ?_ | refine aA ?_ _ | refine aC ?_ (by assumption)))))
   exact(‹Hid False› : Hid False).out.elim
def eH (bs:List Int):Option (Int×List fG):=if 4096<bs.length then none else iA bs
def qD (bs:List Int) (e:Ending) (w':World):Prop:=match eH bs with
 | none=>e=.returned (.tuple #[.agg #[.int .i64 0,.slice none 0 0],.int .i64 (aAf bs)])
 | some p=>∃(a:Option Addr) (cl:List TxA) (c:Nat),e=.returned (.tuple #[.agg #[.int .i64 p.1,.slice a cl.length c],.int .i64 0])∧IsTxs w' a cl∧cl.map TxA.core=p.2
theorem ReadP.set {p:Int×List fG} {C R i:Nat} {m:Int} {a:Option Addr} {n c:Nat} {w:World} {u:Value} (h:ReadP p C m a n c w) (hR:R<C):ReadP p C m a n c (w.setCell ⟨R,i,none⟩ u):=by
 obtain⟨h1,cl,h2,h3,h4⟩:=h
 exact⟨h1,cl,h2,h3.set hR,h4⟩
theorem jT (s:ByteArray) (w:World) :
  Calls Tryz.prog 14 #[.string s] w fun e w'=>Below w.heap.size w w'∧qD (eS s) e w':=by
 have hmf:∀(fn:Fn) (first cap:Array Value) (w:World),(Instr.makeFunc fn first cap).run Tryz.prog w=.ok (.func fn first cap) w:=fun _ _ _ _=>rfl
 obtain⟨W,hWe⟩:∃W,W=((w.alloc (.cells #[.string s] 9)).alloc (.cells #[.int .i64 0,.slice none 0 0] 29)):=⟨_,rfl⟩
 have HWE:Hid (W=((w.alloc (.cells #[.string s] 9)).alloc (.cells #[.int .i64 0,.slice none 0 0] 29))):=hWe
 have BW:Hid (Below w.heap.size w W):=by subst hWe;exact aA (aA (Below.refl _ _) _) _
 have HS:Hid (W.heap.size=w.heap.size+2):=by subst hWe;show _=_;simp
 have c0:W.cell? ⟨w.heap.size,0,none⟩=some (.string s):=by subst hWe;exact aB (aA (Below.refl _ _) _) (aG w _ 9 _ 0 _ rfl rfl)
 have r0:W.cell? ⟨w.heap.size+1,0,none⟩=some (.int .i64 0):=by subst hWe;exact aG _ _ 29 _ 0 _ (by simp) rfl
 have r1:W.cell? ⟨w.heap.size+1,1,none⟩=some (.slice none 0 0):=by subst hWe;exact aG _ _ 29 _ 1 _ (by simp) rfl
 have rf:∀i,W.frozen? ⟨w.heap.size+1,i,none⟩=false:=by subst hWe;intro i;exact cO _ _ 29 _ i (by simp)
 clear hWe
 have E0:Below W.heap.size W ((W.alloc (.cells #[.int .i64 0,.slice none 0 0] 29)).alloc (.cells #[.int .i64 0] 22)):=aA (aA (Below.refl _ _) _) _
 have e0:=aB E0 c0
 have hlt:w.heap.size+1<W.heap.size:=by have:=HS.out;omega
 cases hr:eH (eS s) with
 | none=>
  have HC:=yE 32 #[.pointer (some ⟨w.heap.size,0,none⟩)] (fun _=>rfl) (aAf (eS s)) W (by
   by_cases h4:4096<s.size
   ·have e:aAf (eS s)=2:=by unfold aAf;rw[jZ,if_pos h4]
    rw[e]
    exact read1_many w.heap.size s _ e0 h4
   ·have hk:iA (eS s)=none:=by unfold eH at hr;rw[jZ,if_neg h4]at hr;exact hr
    have e:aAf (eS s)=1:=by unfold aAf;rw[jZ,if_neg h4,hk];rfl
    rw[e]
    refine(uI w.heap.size s _ e0 h4).mono fun e w' h=>?_
    rw[hk]at h
    exact⟨h.2,h.1⟩)
  have HC':=hid HC
  have HO:Hid (∀w',qD (eS s) (.returned (.tuple #[.agg #[.int .i64 0,.slice none 0 0],.int .i64 (aAf (eS s))])) w'):=fun w'=>by
   unfold qD
   rw[hr]
  clear HC E0 e0 hr c0
  generalize aAf (eS s)=E at *
  go_enter Tryz.func14,Tryz.ntmps14
  go_upto_region 1 with fail
  rw[←HWE.out]
  go_wp2_with fail
  refine HC'.out.mono ?_
  rintro e w1 ⟨rfl,hb⟩
  have q0:=aB hb r0
  have q1:=aB hb r1
  have qf:∀i,w1.frozen? ⟨w.heap.size+1,i,none⟩=false:=fun i=>(hb.frozen (p:=⟨w.heap.size+1,i,none⟩) hlt).trans (rf i)
  have B1:Hid (Below w.heap.size w w1):=aC BW.out hb
  obtain⟨y0,y1⟩:=put2 (.int .i64 0) (.slice none 0 0) q0 q1
  clear hb r0 r1 rf
  go_wp2_with fail
  refine bodyPost_ret (v:=.tuple #[.agg #[.int .i64 0,.slice none 0 0],.int .i64 E]) (by simp[results,Tryz.results14,go_sem,y0,y1]) rfl ⟨aI (aI B1.out (Nat.le_succ _) _) (Nat.le_succ _) _,HO.out _⟩
 | some p=>
  have h4:¬4096<s.size:=by intro h4;unfold eH at hr;rw[jZ,if_pos h4]at hr;cases hr
  have hk:iA (eS s)=some p:=by unfold eH at hr;rw[jZ,if_neg h4]at hr;exact hr
  have HC:=yD 32 #[.pointer (some ⟨w.heap.size,0,none⟩)] (fun _=>rfl) (fun m a n c w'=>ReadP p (W.heap.size+2) m a n c w') W (fun m a n c w' i u j hj h=>h.set (by rcases hj with rfl | rfl <;> omega)) (by
   refine(uI w.heap.size s _ e0 h4).mono fun e w' h=>?_
   rw[hk]at h
   obtain⟨hb,m,a,n,c,he,hp⟩:=h
   exact⟨m,a,n,c,he,by simpa using hp,hb⟩)
  have HC':=hid HC
  have HO:Hid (∀m a n c w',ReadP p (W.heap.size+2) m a n c w'→qD (eS s) (.returned (.tuple #[.agg #[.int .i64 m,.slice a n c],.int .i64 0])) w'):=fun m a n c w' h=>by
   obtain⟨rfl,cl,rfl,h3,h4⟩:=h
   unfold qD
   rw[hr]
   obtain⟨a',c',he,htx⟩:=h3.txs
   injection he with e1 e2 e3
   subst e1 e3
   exact⟨_,cl,_,rfl,htx,h4⟩
  clear HC E0 e0 hr c0 hk h4
  go_enter Tryz.func14,Tryz.ntmps14
  go_upto_region 1 with fail
  rw[←HWE.out]
  go_wp2_with fail
  refine HC'.out.mono ?_
  rintro e w1 ⟨m,a,n,c,rfl,hp,hb⟩
  have q0:=aB hb r0
  have q1:=aB hb r1
  have qf:∀i,w1.frozen? ⟨w.heap.size+1,i,none⟩=false:=fun i=>(hb.frozen (p:=⟨w.heap.size+1,i,none⟩) hlt).trans (rf i)
  have B1:Hid (Below w.heap.size w w1):=aC BW.out hb
  have HP:=hid hp
  obtain⟨y0,y1⟩:=put2 (.int .i64 m) (.slice a n c) q0 q1
  clear hb r0 r1 rf hp
  go_wp2_with fail
  refine bodyPost_ret (v:=.tuple #[.agg #[.int .i64 m,.slice a n c],.int .i64 0]) (by simp[results,Tryz.results14,go_sem,y0,y1]) rfl ⟨aI (aI B1.out (Nat.le_succ _) _) (Nat.le_succ _) _,HO.out _ _ _ _ _ ((HP.out.set (by omega)).set (by omega))⟩
end Go.Proofs.YtcgpkonfneofdaaGreatDoor
