/- Conditions: those that each theorem states. -/
import Derived.Test.YtcgpkonfneofdaaGreatDoorSTxnI
import Derived.Lib.OwnKind
set_option maxRecDepth 100000
set_option maxHeartbeats 8000000
namespace Go.Proofs.YtcgpkonfneofdaaGreatDoor
open Go.RowKit
section
def IsAt (lo hi:Nat) (w:World) (a:Option Addr) (zs:List Int):Prop:=
 ∀i,i<zs.length→∃b off,a=some ⟨b,off,none⟩∧lo≤b∧b<hi∧w.cell? ⟨b,off+i,none⟩=some (.int .i64 (zs.getD i 0))
theorem IsAt.ints {lo hi:Nat} {w:World} {a:Option Addr} {zs:List Int} (h:IsAt lo hi w a zs) (hh:hi≤w.heap.size):IsInts w a zs:=fun i hi'=>by
 obtain⟨b,off,ha,_,h2,hc⟩:=h i hi'
 exact⟨b,off,ha,Nat.lt_of_lt_of_le h2 hh,hc⟩
theorem IsAt.below {lo hi:Nat} {w w':World} {a:Option Addr} {zs:List Int} (h:IsAt lo hi w a zs) (hb:Below w.heap.size w w'):IsAt lo hi w' a zs:=fun i hi'=>by
 obtain⟨b,off,ha,h1,h2,hc⟩:=h i hi'
 exact⟨b,off,ha,h1,h2,aB hb hc⟩
theorem IsAt.set {lo hi:Nat} {w:World} {a:Option Addr} {zs:List Int} (h:IsAt lo hi w a zs) (p:Addr) (v:Value) (hp:p.block<lo∨hi≤p.block):IsAt lo hi (w.setCell p v) a zs:=fun i hi'=>by
 obtain⟨b,off,ha,h1,h2,hc⟩:=h i hi'
 refine⟨b,off,ha,h1,h2,?_⟩
 rw[World.cell?_setCell_far _ _ _ _ (by simp;omega)]
 exact hc
theorem IsAt.widen {lo hi lo' hi':Nat} {w:World} {a:Option Addr} {zs:List Int} (h:IsAt lo hi w a zs) (h1:lo'≤lo) (h2:hi≤hi'):IsAt lo' hi' w a zs:=fun i hi''=>by
 obtain⟨b,off,ha,h3,h4,hc⟩:=h i hi''
 exact⟨b,off,ha,by omega,by omega,hc⟩
theorem mS {w:World} {base:Nat} {v:Value} {n:Nat} {zs:List Int} (h:w.ownsRow base 3 1 v n (zs.map (Value.int .i64))):∃a cap,v=.slice a zs.length cap∧IsAt base w.heap.size w a zs:=by
 have hn:zs.length=n:=by have:=h.1;simpa using this
 rcases h.2 with ⟨rfl,h0⟩ | ⟨g,cap,cur,rfl,hb,hg,hnc,hcm,hcs,htake⟩
 ·refine⟨none,0,by rw[hn,h0],fun i hi=>?_⟩
  omega
 ·refine⟨some ⟨g,0,none⟩,cap,by rw[hn],fun i hi=>⟨g,0,rfl,hb,(Array.getElem?_eq_some_iff.1 hg).1,?_⟩⟩
  have hc:=h.cellAt i (by omega)
  rw[Nat.zero_add,hc]
  simp[List.getD,hi]
theorem bC (b off j:Nat):(⟨b,off,none⟩:Addr).add j=⟨b,off+j,none⟩:=by
 unfold Addr.add
 by_cases h:j=0
 ·subst h;simp
 ·simp[h]
theorem clone_own (zs:List Int) (ad:Addr) (zc:Nat) (w:World) (h4:zs.length≤4) (hz:IsInts w (some ad) zs) :
  Calls Tryz.prog 79 #[.slice (some ad) zs.length zc] w fun e w'=>∃v,e=.returned v∧w'.ownsRow w.heap.size 3 1 v zs.length (zs.map (Value.int .i64))∧Below w.heap.size w w':=by
 have q24:∀(w:World) (a:Option Addr) (n c n' c':Nat),(binOp .eql 41 (.slice a n c) (.slice none n' c')).run Tryz.prog w=.ok (.bool a.isNone) w:=fun w a n c n' c'=>Lib.run_eql_slice_nil w _ _ a n c n' c' Tryz.underlying41
 obtain⟨i0,hi,hz0,hz1,hz2⟩:=info_parts Tryz.info3
 have hnews:∀(o:Obj) j u,(zs.map (Value.int .i64))[j]?=some u→(w.alloc o).cell? (ad.add j)=some u:=by
  intro o j u hj
  have hlt:j<zs.length:=by
   have:=(List.getElem?_eq_some_iff.1 hj).1
   simpa using this
  obtain⟨b,off,ha,hb,hc⟩:=hz j hlt
  injection ha with ha
  subst ha
  rw[bC,World.cell?_alloc_lt _ _ _ hb,hc]
  simp[hlt]at hj
  simp[List.getD,hlt,hj]
 clear hz
 go_enter Tryz.func79,Tryz.ntmps79
 go_wp2_with (first
  | (at_builtin;refine wpList_append_own _ rfl _ _ 41 rfl w.heap.size 3 i0 (.int .i64 0) 1 8 Tryz.underlying41 hi hz0 hz1 hz2 rfl (by decide) _ 0 [] rfl (World.ownsRow_lit w #[] 0 (Nat.le_refl _) (by decide) rfl) ad zs.length zc (zs.map (Value.int .i64)) rfl (by simp) (hnews _) (ints_oneCell .i64 zs) (by unfold maxLen;omega) (by omega) (by simp) ?_;intro v' w1 hown' hgrow _)
  | go_in)
 have RB:Below w.heap.size w w1:=(aA (Below.refl _ _) _).grown hgrow (by simp) (fun j hj=>by have hj':some w.heap.size=some j:=hj;injection hj' with hj';exact Nat.le_of_eq hj')
 simp only[Nat.zero_add,List.nil_append]at hown'
 clear hgrow hnews
 go_wp2
 go_ret
 exact⟨_,rfl,hown',RB⟩
theorem clone_nil (w:World):Calls Tryz.prog 79 #[.slice none 0 0] w fun e w'=>e=.returned (.slice none 0 0)∧w'=w:=by
 have q24:∀(w:World) (a:Option Addr) (n c n' c':Nat),(binOp .eql 41 (.slice a n c) (.slice none n' c')).run Tryz.prog w=.ok (.bool a.isNone) w:=fun w a n c n' c'=>Lib.run_eql_slice_nil w _ _ a n c n' c' Tryz.underlying41
 go_enter Tryz.func79,Tryz.ntmps79
 go_wp2
 go_ret
 exact⟨rfl,rfl⟩
theorem vM (zs:List Int) (za:Option Addr) (zc:Nat) (w:World) (h4:zs.length≤4) (hz:IsInts w za zs) (hn:za=none→zc=0) :
  Calls Tryz.prog 79 #[.slice za zs.length zc] w fun e w'=>∃a cap,e=.returned (.slice a zs.length cap)∧IsAt w.heap.size w'.heap.size w' a zs∧Below w.heap.size w w':=by
 cases za with
 | none=>
  have hzs:zs=[]:=by
   cases zs with
   | nil=>rfl
   | cons z t=>
    obtain⟨b,off,ha,_⟩:=hz 0 (by simp)
    cases ha
  subst hzs
  rw[hn rfl]
  exact(clone_nil w).mono fun e w' ⟨he,hw⟩=>⟨none,0,he,fun i hi=>absurd hi (by simp),by rw[hw];exact Below.refl _ _⟩
 | some ad=>
  exact(clone_own zs ad zc w h4 hz).mono fun e w' ⟨v,he,ho,hb⟩=>by
   obtain⟨a,cap,rfl,hza⟩:=mS ho
   exact⟨a,cap,he,hza,hb⟩
variable (ra ga sa:Option Addr) (rc gc sc:Nat) (rs:List Int) (gs:List Gd) (ss:List St) (za:Option Addr) (zc:Nat) (zs:List Int)
theorem wL (w:World) (ht:IsTx w ra ga sa rs gs ss) (hz:IsInts w za zs) (hzl0:zs.length≤maxLen) (hlen:zs.length=rs.length) (hs0:aF (ss.map (cU rs.length))=0) (h3:ss.length≤3) :
  Calls Tryz.prog 259 #[.agg #[.slice ra rs.length rc,.slice ga gs.length gc,.slice sa ss.length sc],.slice za zs.length zc] w fun e w'=>∃a cap,e=.returned (.slice a (fF zs ss).length cap)∧IsAt (w.heap.size+1) w'.heap.size w' a (fF zs ss)∧Below w.heap.size w w':=
 (tU ra ga sa rc gc sc rs gs ss za zc zs w ht hz hzl0 hlen hs0 h3).mono fun e w' ⟨v,he,ho,hb⟩=>by
  obtain⟨a,cap,rfl,hz⟩:=mS ho
  exact⟨a,cap,he,hz,hb⟩
def aZ (zs:List Int) (gs:List Gd) (ss:List St):List Int:=if cW zs gs then fF zs ss else []
theorem outcome_no (w:World) (ht:IsTx w ra ga sa rs gs ss) (hz:IsInts w za zs) (hn:za=none→zc=0) (h4:zs.length≤4) (hlen:zs.length=rs.length) (hg0:aF (gs.map (cL rs.length))=0) (hd:cW zs gs=false) :
  Calls Tryz.prog 220 #[.agg #[.slice ra rs.length rc,.slice ga gs.length gc,.slice sa ss.length sc],.slice za zs.length zc] w fun e w'=>∃va vc,e=.returned (.agg #[.bool false,.slice va zs.length vc,.slice none 0 0])∧IsAt w.heap.size w'.heap.size w' va zs∧Below w.heap.size w w':=by
 have hzl:Hid (zs.length≤maxLen):=by show _≤_;unfold maxLen;omega
 have HT:Hid (IsTx w ra ga sa rs gs ss):=ht
 have HZ:Hid (IsInts w za zs):=hz
 have HG:Hid (aF (gs.map (cL rs.length))=0):=hg0
 have HL:Hid (zs.length=rs.length):=hlen
 have HN:Hid (za=none→zc=0):=hn
 have HD:Hid (cW zs gs=false):=hd
 clear ht hz hg0 hlen hn hd
 go_enter Tryz.func220,Tryz.ntmps220
 go_wp2_with fail
 refine(lU ra ga sa rc gc sc rs gs ss za zc zs _ (HT.out.below (by repeat (first | assumption | exact Below.refl _ _ | refine aD ?_ | refine aA ?_ _ | refine aC ?_ (by assumption)))) (HZ.out.below (by repeat (first | assumption | exact Below.refl _ _ | refine aD ?_ | refine aA ?_ _ | refine aC ?_ (by assumption)))) hzl.out HL.out HG.out).mono ?_
 rintro e w1 ⟨rfl,hb1⟩
 rw[HD.out]
 go_wp2_with fail
 have B1:Below w.heap.size w w1:=by repeat (first | assumption | exact Below.refl _ _ | refine aD ?_ | refine aA ?_ _ | refine aC ?_ (by assumption))
 refine(vM zs za zc _ h4 (HZ.out.below B1) HN.out).mono ?_
 rintro e w2 ⟨va,vc,rfl,hva,hb2⟩
 have z0:w1.cell? ⟨w.heap.size+1,0,none⟩=some (.bool false):=(hb1.cell (by simp)).trans (by simp)
 have z1:w1.cell? ⟨w.heap.size+1,1,none⟩=some (.slice none 0 0):=(hb1.cell (by simp)).trans (by simp)
 have z2:w1.cell? ⟨w.heap.size+1,2,none⟩=some (.slice none 0 0):=(hb1.cell (by simp)).trans (by simp)
 have f1:∀j,w1.frozen? ⟨w.heap.size+1,j,none⟩=false:=fun j=>(hb1.frozen (p:=⟨w.heap.size+1,j,none⟩) (by simp)).trans (by simp)
 have x0:=aB hb2 z0
 have x1:=aB hb2 z1
 have x2:=aB hb2 z2
 have hq:=World.block_lt_of_cell? w1 _ z0
 have g1:∀j,w2.frozen? ⟨w.heap.size+1,j,none⟩=false:=fun j=>(hb2.frozen (p:=⟨w.heap.size+1,j,none⟩) hq).trans (f1 j)
 have hq2:w.heap.size+1<w2.heap.size:=Nat.lt_of_lt_of_le hq hb2.size
 have X0:=fun o=>aB (aA (Below.refl w2.heap.size w2) o) x0
 have X1:=fun o=>aB (aA (Below.refl w2.heap.size w2) o) x1
 have X2:=fun o=>aB (aA (Below.refl w2.heap.size w2) o) x2
 have G1:∀o j,(w2.alloc o).frozen? ⟨w.heap.size+1,j,none⟩=false:=fun o j=>((aA (Below.refl w2.heap.size w2) o).frozen (p:=⟨w.heap.size+1,j,none⟩) hq2).trans (g1 j)
 have B2:=aC B1 hb2
 have HB1:Hid (w.heap.size≤w1.heap.size):=B1.size
 clear z0 z1 z2 f1 HT HZ HG HL HN HD
 go_wp2
 have r0:((((w2.setCell ⟨w.heap.size+1,0,none⟩ (.bool false)).setCell ⟨w.heap.size+1,1,none⟩ (.slice va zs.length vc)).setCell ⟨w.heap.size+1,2,none⟩ (.slice none 0 0)).alloc (.cells #[.bool false,.slice va zs.length vc,.slice none 0 0] 243)).cell? ⟨w.heap.size+1,0,none⟩=some (.bool false):=by rw[World.cell?_alloc_lt _ _ _ (by simp;omega)];simp[go_sem,x0]
 have r1:((((w2.setCell ⟨w.heap.size+1,0,none⟩ (.bool false)).setCell ⟨w.heap.size+1,1,none⟩ (.slice va zs.length vc)).setCell ⟨w.heap.size+1,2,none⟩ (.slice none 0 0)).alloc (.cells #[.bool false,.slice va zs.length vc,.slice none 0 0] 243)).cell? ⟨w.heap.size+1,1,none⟩=some (.slice va zs.length vc):=by rw[World.cell?_alloc_lt _ _ _ (by simp;omega)];simp[go_sem,x1]
 have r2:((((w2.setCell ⟨w.heap.size+1,0,none⟩ (.bool false)).setCell ⟨w.heap.size+1,1,none⟩ (.slice va zs.length vc)).setCell ⟨w.heap.size+1,2,none⟩ (.slice none 0 0)).alloc (.cells #[.bool false,.slice va zs.length vc,.slice none 0 0] 243)).cell? ⟨w.heap.size+1,2,none⟩=some (.slice none 0 0):=by rw[World.cell?_alloc_lt _ _ _ (by simp;omega)];simp[go_sem,x2]
 refine bodyPost_ret (v:=.agg #[.bool false,.slice va zs.length vc,.slice none 0 0]) (by simp[results,Tryz.results220,go_sem,r0,r1,r2]) rfl ⟨va,vc,rfl,?_,?_⟩
 ·have h1:=((hva.set ⟨w.heap.size+1,0,none⟩ (.bool false) (.inl hq)).set ⟨w.heap.size+1,1,none⟩ (.slice va zs.length vc) (.inl hq)).set ⟨w.heap.size+1,2,none⟩ (.slice none 0 0) (.inl hq)
  exact(h1.below (aA (Below.refl _ _) _)).widen HB1.out (by simp)
 ·exact aA (aI (aI (aI B2 (by simp) _) (by simp) _) (by simp) _) _
theorem aAl (w:World) (ht:IsTx w ra ga sa rs gs ss) (hz:IsInts w za zs) (hn:za=none→zc=0) (h4:zs.length≤4) (hlen:zs.length=rs.length) (hg0:aF (gs.map (cL rs.length))=0) (hs0:aF (ss.map (cU rs.length))=0) (h3:ss.length≤3) (hd:cW zs gs=true) :
  Calls Tryz.prog 220 #[.agg #[.slice ra rs.length rc,.slice ga gs.length gc,.slice sa ss.length sc],.slice za zs.length zc] w fun e w'=>∃va vc ma mc,e=.returned (.agg #[.bool true,.slice va zs.length vc,.slice ma (fF zs ss).length mc])∧IsAt w.heap.size w'.heap.size w' va zs∧IsAt w.heap.size w'.heap.size w' ma (fF zs ss)∧Below w.heap.size w w':=by
 have hzl:Hid (zs.length≤maxLen):=by show _≤_;unfold maxLen;omega
 have HT:Hid (IsTx w ra ga sa rs gs ss):=ht
 have HZ:Hid (IsInts w za zs):=hz
 have HG:Hid (aF (gs.map (cL rs.length))=0):=hg0
 have HS:Hid (aF (ss.map (cU rs.length))=0):=hs0
 have HL:Hid (zs.length=rs.length):=hlen
 have HN:Hid (za=none→zc=0):=hn
 have HD:Hid (cW zs gs=true):=hd
 clear ht hz hg0 hlen hn hd hs0
 go_enter Tryz.func220,Tryz.ntmps220
 go_wp2_with fail
 refine(lU ra ga sa rc gc sc rs gs ss za zc zs _ (HT.out.below (by repeat (first | assumption | exact Below.refl _ _ | refine aD ?_ | refine aA ?_ _ | refine aC ?_ (by assumption)))) (HZ.out.below (by repeat (first | assumption | exact Below.refl _ _ | refine aD ?_ | refine aA ?_ _ | refine aC ?_ (by assumption)))) hzl.out HL.out HG.out).mono ?_
 rintro e w1 ⟨rfl,hb1⟩
 rw[HD.out]
 go_wp2_with fail
 have B1:Below w.heap.size w w1:=by repeat (first | assumption | exact Below.refl _ _ | refine aD ?_ | refine aA ?_ _ | refine aC ?_ (by assumption))
 refine(vM zs za zc _ h4 (HZ.out.below B1) HN.out).mono ?_
 rintro e w2 ⟨va,vc,rfl,hva,hb2⟩
 have bx0:w1.cell? ⟨w.heap.size,0,none⟩=some (.slice ra rs.length rc):=(hb1.cell (by simp;omega)).trans ((World.cell?_alloc_lt _ _ _ (by simp)).trans (by simp))
 have bx1:w1.cell? ⟨w.heap.size,1,none⟩=some (.slice ga gs.length gc):=(hb1.cell (by simp;omega)).trans ((World.cell?_alloc_lt _ _ _ (by simp)).trans (by simp))
 have bx2:w1.cell? ⟨w.heap.size,2,none⟩=some (.slice sa ss.length sc):=(hb1.cell (by simp;omega)).trans ((World.cell?_alloc_lt _ _ _ (by simp)).trans (by simp))
 have z0:w1.cell? ⟨w.heap.size+1,0,none⟩=some (.bool false):=(hb1.cell (by simp)).trans (by simp)
 have z1:w1.cell? ⟨w.heap.size+1,1,none⟩=some (.slice none 0 0):=(hb1.cell (by simp)).trans (by simp)
 have z2:w1.cell? ⟨w.heap.size+1,2,none⟩=some (.slice none 0 0):=(hb1.cell (by simp)).trans (by simp)
 have f1:∀j,w1.frozen? ⟨w.heap.size+1,j,none⟩=false:=fun j=>(hb1.frozen (p:=⟨w.heap.size+1,j,none⟩) (by simp)).trans (by simp)
 have hq:=World.block_lt_of_cell? w1 _ z0
 have hq2:w.heap.size+1<w2.heap.size:=Nat.lt_of_lt_of_le hq hb2.size
 have c0:=fun o=>aB (aA hb2 o) bx0
 have c1:=fun o=>aB (aA hb2 o) bx1
 have c2:=fun o=>aB (aA hb2 o) bx2
 have B2:=aC B1 hb2
 clear bx0 bx1 bx2
 go_wp2_with fail
 refine(wL ra ga sa rc gc sc rs gs ss za zc zs _ (HT.out.below (aA B2 _)) (HZ.out.below (aA B2 _)) hzl.out HL.out HS.out h3).mono ?_
 rintro e w3 ⟨ma,mc,rfl,hma,hb3⟩
 have hb13:Below w1.heap.size w1 w3:=aC (aA hb2 _) hb3
 have x0:=aB hb13 z0
 have x1:=aB hb13 z1
 have x2:=aB hb13 z2
 have g1:∀j,w3.frozen? ⟨w.heap.size+1,j,none⟩=false:=fun j=>(hb13.frozen (p:=⟨w.heap.size+1,j,none⟩) hq).trans (f1 j)
 have o0:w3.cell? ⟨w2.heap.size,0,none⟩=some (.bool true):=(hb3.cell (by simp)).trans (by simp)
 have o1:w3.cell? ⟨w2.heap.size,1,none⟩=some (.slice va zs.length vc):=(hb3.cell (by simp)).trans (by simp)
 have o2:w3.cell? ⟨w2.heap.size,2,none⟩=some (.slice none 0 0):=(hb3.cell (by simp)).trans (by simp)
 have og:∀j,w3.frozen? ⟨w2.heap.size,j,none⟩=false:=fun j=>(hb3.frozen (p:=⟨w2.heap.size,j,none⟩) (by simp)).trans (by simp)
 have hne:¬w2.heap.size=w.heap.size+1:=by omega
 have B3:Below w.heap.size w w3:=aC (aA B2 _) hb3
 have HB1:Hid (w.heap.size≤w1.heap.size):=B1.size
 have hs3:w2.heap.size+1≤w3.heap.size:=by have:=hb3.size;simpa using this
 have hva3:IsAt w1.heap.size w2.heap.size w3 va zs:=(hva.below (aA (Below.refl _ _) _)).below hb3
 have hma3:IsAt (w2.heap.size+1) w3.heap.size w3 ma (fF zs ss):=hma.widen (by simp) (Nat.le_refl _)
 have HLW:Hid (w1.heap.size≤w2.heap.size):=hb2.size
 clear z0 z1 z2 f1 HT HZ HG HL HN HD HS c0 c1 c2 hb1 hb2 hb3 hb13 hva hma B1 B2
 generalize w2.heap.size=q2 at *
 go_wp2
 refine bodyPost_ret (v:=.agg #[.bool true,.slice va zs.length vc,.slice ma (fF zs ss).length mc]) (by simp[results,Tryz.results220,go_sem,x0,x1,x2]) rfl ⟨va,vc,ma,mc,rfl,?_,?_,?_⟩
 ·have h1:=(((hva3.set ⟨q2,2,none⟩ (.slice ma (fF zs ss).length mc) (.inr (Nat.le_refl _))).set ⟨w.heap.size+1,0,none⟩ (.bool true) (.inl hq)).set ⟨w.heap.size+1,1,none⟩ (.slice va zs.length vc) (.inl hq)).set ⟨w.heap.size+1,2,none⟩ (.slice ma (fF zs ss).length mc) (.inl hq)
  exact h1.widen HB1.out (by simp;omega)
 ·have h1:=(((hma3.set ⟨q2,2,none⟩ (.slice ma (fF zs ss).length mc) (.inl (Nat.lt_succ_self _))).set ⟨w.heap.size+1,0,none⟩ (.bool true) (.inl (Nat.lt_succ_of_lt hq2))).set ⟨w.heap.size+1,1,none⟩ (.slice va zs.length vc) (.inl (Nat.lt_succ_of_lt hq2))).set ⟨w.heap.size+1,2,none⟩ (.slice ma (fF zs ss).length mc) (.inl (Nat.lt_succ_of_lt hq2))
  exact h1.widen (by omega) (by simp)
 ·exact aI (aI (aI (aI B3 (by simp;omega) _) (by simp) _) (by simp) _) (by simp) _
theorem outcome_ok (w:World) (ht:IsTx w ra ga sa rs gs ss) (hz:IsInts w za zs) (hn:za=none→zc=0) (h4:zs.length≤4) (hlen:zs.length=rs.length) (hg0:aF (gs.map (cL rs.length))=0) (hs0:aF (ss.map (cU rs.length))=0) (h3:ss.length≤3) :
  Calls Tryz.prog 220 #[.agg #[.slice ra rs.length rc,.slice ga gs.length gc,.slice sa ss.length sc],.slice za zs.length zc] w fun e w'=>∃va vc ma mc,e=.returned (.agg #[.bool (cW zs gs),.slice va zs.length vc,.slice ma (aZ zs gs ss).length mc])∧IsAt w.heap.size w'.heap.size w' va zs∧IsAt w.heap.size w'.heap.size w' ma (aZ zs gs ss)∧Below w.heap.size w w':=by
 by_cases hd:cW zs gs=true
 ·have hm:aZ zs gs ss=fF zs ss:=by unfold aZ;rw[if_pos hd]
  rw[hm,hd]
  exact aAl ra ga sa rc gc sc rs gs ss za zc zs w ht hz hn h4 hlen hg0 hs0 h3 hd
 ·have hm:aZ zs gs ss=[]:=by unfold aZ;rw[if_neg hd]
  have hd':cW zs gs=false:=by simpa using hd
  rw[hm,hd']
  exact(outcome_no ra ga sa rc gc sc rs gs ss za zc zs w ht hz hn h4 hlen hg0 hd').mono fun _ _ ⟨va,vc,he,h1,h2⟩=>⟨va,vc,none,0,he,h1,fun i hi=>absurd hi (by simp),h2⟩
end
theorem Tryz.info5:(Tryz.prog.info? 5).map (fun i=>(i.zero,i.size,i.bytes))=some (some (.int .u8 0),1,1):=by kernel_rfl
def cP (w:World) (b:Nat):Prop:=∀c fz,w.heap[b]?≠some (.cells c 5 fz)
structure WK (P:Nat) (w w':World):Prop where
 os:w'.os=w.os
 tape:w'.tape=w.tape
 output:w'.output=w.output
 size:w.heap.size≤w'.heap.size
 keep:∀b,b<w.heap.size→b≠P→(b<P∨cP w b)→w'.heap[b]?=w.heap[b]?
theorem WK.refl (P:Nat) (w:World):WK P w w:=⟨rfl,rfl,rfl,Nat.le_refl _,fun _ _ _ _=>rfl⟩
theorem WK.trans {P:Nat} {a b c:World} (h:WK P a b) (k:WK P b c):WK P a c:=
 ⟨k.os.trans h.os,k.tape.trans h.tape,k.output.trans h.output,Nat.le_trans h.size k.size,fun i hi hP hor=>by
  have h1:=h.keep i hi hP hor
  exact(k.keep i (Nat.lt_of_lt_of_le hi h.size) hP (hor.imp id (fun hn c fz e=>hn c fz (h1 ▸ e)))).trans h1⟩
theorem WK.alloc {P:Nat} {a w:World} (h:WK P a w) (o:Obj):WK P a (w.alloc o):=
 h.trans ⟨rfl,rfl,rfl,by simp,fun b hb _ _=>Below.heap_alloc _ _ _ hb⟩
theorem WK.below {P:Nat} {w w':World} (h:WK P w w') (hP:P<w.heap.size):Below P w w':=⟨h.os,h.tape,h.output,h.size,fun b hb=>h.keep b (by omega) (by omega) (Or.inl hb)⟩
theorem WK.cell {P:Nat} {w w':World} (h:WK P w w') {b i:Nat} {v:Value} (hc:w.cell? ⟨b,i,none⟩=some v) (hP:b≠P) (hor:b<P∨cP w b):w'.cell? ⟨b,i,none⟩=some v:=by
 have hb:b<w.heap.size:=World.block_lt_of_cell? w ⟨b,i,none⟩ hc
 have e:=h.keep b hb hP hor
 exact(World.cell?_of_block (w:=w) (w':=w') (a:=⟨b,i,none⟩) e).trans hc
def WrS (P:Nat) (w:World) (bs:List Int):Prop:=∃v,w.cell? ⟨P,0,none⟩=some v∧w.frozen? ⟨P,0,none⟩=false∧w.ownsRow (P+1) 5 1 v bs.length (bs.map (Value.int .u8))
section
def dX (rs zs:List Int):Int:=if zs.length=rs.length then 0 else 3
theorem new_two (w:World) (x y:Value) (T:TypeId) (s:Nat) (hs:s=w.heap.size):(w.alloc (.cells #[x,y] T)).cell? ⟨s,0,none⟩=some x∧(w.alloc (.cells #[x,y] T)).cell? ⟨s,1,none⟩=some y∧∀j,(w.alloc (.cells #[x,y] T)).frozen? ⟨s,j,none⟩=false:=by
 subst hs
 exact⟨by simp,by simp,fun j=>by simp⟩
theorem ext4 {W w':World} {p1 p2 p3 p4:Addr} {v1 v2 v3 v4:Value} (hb:Below W.heap.size W w') (q1:W.cell? p1=some v1) (q2:W.cell? p2=some v2) (q3:W.cell? p3=some v3) (q4:W.cell? p4=some v4) :
  Below W.heap.size W w'∧w'.cell? p1=some v1∧w'.cell? p2=some v2∧w'.cell? p3=some v3∧w'.cell? p4=some v4:=⟨hb,aB hb q1,aB hb q2,aB hb q3,aB hb q4⟩
variable (ra ga sa:Option Addr) (rc gc sc:Nat) (rs:List Int) (gs:List Gd) (ss:List St) (za:Option Addr) (zc:Nat) (zs:List Int)
theorem kY (w:World) :
  Calls Tryz.prog 219 #[.agg #[.slice ra rs.length rc,.slice ga gs.length gc,.slice sa ss.length sc],.slice za zs.length zc] w fun e w'=>e=.returned (.int .i64 (dX rs zs))∧w'=w.alloc (.cells #[.slice ra rs.length rc,.slice ga gs.length gc,.slice sa ss.length sc] 95):=by
 by_cases h:zs.length=rs.length
 ·have hv:Hid (dX rs zs=0):=if_pos h
  have hb:((zs.length:Int) != (rs.length:Int))=false:=by simp[h]
  clear h
  go_enter Tryz.func219,Tryz.ntmps219
  go_wp2
  go_ret
  exact⟨by rw[hv.out];rfl,rfl⟩
 ·have hv:Hid (dX rs zs=3):=if_neg h
  have hb:((zs.length:Int) != (rs.length:Int))=true:=by simp;omega
  clear h
  go_enter Tryz.func219,Tryz.ntmps219
  go_wp2
  go_ret
  exact⟨by rw[hv.out];rfl,rfl⟩
theorem run1_pan (p r:Nat) (w:World) (h0:w.cell? ⟨p,0,none⟩=some (.slice ra rs.length rc)) (h1:w.cell? ⟨p,1,none⟩=some (.slice ga gs.length gc)) (h2:w.cell? ⟨p,2,none⟩=some (.slice sa ss.length sc)) (h5:w.cell? ⟨r,0,none⟩=some (.slice za zs.length zc)) (ht:IsTx w ra ga sa rs gs ss) (hz:IsInts w za zs) (he:¬aF [bA rs gs ss,dX rs zs]=0) :
  Calls Tryz.prog 218 #[.pointer (some ⟨p,0,none⟩),.pointer (some ⟨r,0,none⟩)] w fun e w'=>e=.panicked [{v:=.iface 22 (.int .i64 (aF [bA rs gs ss,dX rs zs])),recovered:=false}]∧Below w.heap.size w w':=by
 have HE:Hid (¬aF [bA rs gs ss,dX rs zs]=0):=he
 clear he
 have hW:Hid (Below w.heap.size w (w.alloc (.cells #[.bool false,.slice none 0 0,.slice none 0 0] 243))):=aA (Below.refl _ _) _
 have HTW:Hid (IsTx (w.alloc (.cells #[.bool false,.slice none 0 0,.slice none 0 0] 243)) ra ga sa rs gs ss):=ht.below hW.out
 have HZW:Hid (IsInts (w.alloc (.cells #[.bool false,.slice none 0 0,.slice none 0 0] 243)) za zs):=hz.below hW.out
 have y0:=aB hW.out h0
 have y1:=aB hW.out h1
 have y2:=aB hW.out h2
 have y5:=aB hW.out h5
 have v0:(w.alloc (.cells #[.bool false,.slice none 0 0,.slice none 0 0] 243)).cell? ⟨w.heap.size,0,none⟩=some (.bool false):=by simp
 have v1:(w.alloc (.cells #[.bool false,.slice none 0 0,.slice none 0 0] 243)).cell? ⟨w.heap.size,1,none⟩=some (.slice none 0 0):=by simp
 have v2:(w.alloc (.cells #[.bool false,.slice none 0 0,.slice none 0 0] 243)).cell? ⟨w.heap.size,2,none⟩=some (.slice none 0 0):=by simp
 have vf:∀j,(w.alloc (.cells #[.bool false,.slice none 0 0,.slice none 0 0] 243)).frozen? ⟨w.heap.size,j,none⟩=false:=fun j=>by simp
 have hqW:w.heap.size<(w.alloc (.cells #[.bool false,.slice none 0 0,.slice none 0 0] 243)).heap.size:=by simp
 clear ht hz h0 h1 h2 h5
 go_enter Tryz.func218,Tryz.ntmps218
 go_wp2_with fail
 generalize w.alloc (.cells #[.bool false,.slice none 0 0,.slice none 0 0] 243)=W at *
 clear v0 v1 v2 vf
 go_region_held (fun w'=>Below W.heap.size W w'∧w'.cell? ⟨p,0,none⟩=some (.slice ra rs.length rc)∧w'.cell? ⟨p,1,none⟩=some (.slice ga gs.length gc)∧w'.cell? ⟨p,2,none⟩=some (.slice sa ss.length sc)∧w'.cell? ⟨r,0,none⟩=some (.slice za zs.length zc)) ((go_split_ands;refine ext4 ?_ y0 y1 y2 y5;repeat (first | assumption | exact Below.refl _ _ | refine aD ?_ | refine aA ?_ _ | refine aC ?_ (by assumption))))
  (first
   | (go_at_call 102;refine(cZ ra ga sa rc gc sc rs gs ss _ ?_).mono ?_;(refine HTW.out.below ?_;go_split_ands;repeat (first | assumption | exact Below.refl _ _ | refine aD ?_ | refine aA ?_ _ | refine aC ?_ (by assumption)));rintro e w' ⟨rfl,hbx⟩)
   | (go_at_call 219;refine(kY ra ga sa rc gc sc rs gs ss za zc zs _).mono ?_;rintro e w' ⟨rfl,rfl⟩)
   | (go_at_call 15;refine(dM (cH [bA rs gs ss,dX rs zs] _ 2 _ (by simp) HE.out ?_) (.tuple #[])).mono ?_;(exact iU _ _ _ _ (by simp));rintro e w' (⟨rfl,rfl⟩ | ⟨hF,rfl,rfl⟩);(refine⟨rfl,rfl,aC hW.out ?_⟩;go_split_ands;repeat (first | assumption | exact Below.refl _ _ | refine aD ?_ | refine aA ?_ _ | refine aC ?_ (by assumption)))))
 exact(‹Hid False› : Hid False).out.elim
theorem run1_ok (p r:Nat) (w:World) (h0:w.cell? ⟨p,0,none⟩=some (.slice ra rs.length rc)) (h1:w.cell? ⟨p,1,none⟩=some (.slice ga gs.length gc)) (h2:w.cell? ⟨p,2,none⟩=some (.slice sa ss.length sc)) (h5:w.cell? ⟨r,0,none⟩=some (.slice za zs.length zc)) (ht:IsTx w ra ga sa rs gs ss) (hz:IsInts w za zs) (hn:za=none→zc=0) (he:aF [bA rs gs ss,dX rs zs]=0) (hg0:aF (gs.map (cL rs.length))=0) (hs0:aF (ss.map (cU rs.length))=0) (h3:ss.length≤3) (h4:zs.length≤4) (hlen:zs.length=rs.length) :
  Calls Tryz.prog 218 #[.pointer (some ⟨p,0,none⟩),.pointer (some ⟨r,0,none⟩)] w fun e w'=>∃va vc ma mc,e=.returned (.agg #[.bool (cW zs gs),.slice va zs.length vc,.slice ma (aZ zs gs ss).length mc])∧IsAt w.heap.size w'.heap.size w' va zs∧IsAt w.heap.size w'.heap.size w' ma (aZ zs gs ss)∧Below w.heap.size w w':=by
 have HE:Hid (aF [bA rs gs ss,dX rs zs]=0):=he
 have HG:Hid (aF (gs.map (cL rs.length))=0):=hg0
 have HS:Hid (aF (ss.map (cU rs.length))=0):=hs0
 have HL:Hid (zs.length=rs.length):=hlen
 have HN:Hid (za=none→zc=0):=hn
 clear he hg0 hs0 hlen hn
 have hW:Hid (Below w.heap.size w (w.alloc (.cells #[.bool false,.slice none 0 0,.slice none 0 0] 243))):=aA (Below.refl _ _) _
 have HTW:Hid (IsTx (w.alloc (.cells #[.bool false,.slice none 0 0,.slice none 0 0] 243)) ra ga sa rs gs ss):=ht.below hW.out
 have HZW:Hid (IsInts (w.alloc (.cells #[.bool false,.slice none 0 0,.slice none 0 0] 243)) za zs):=hz.below hW.out
 have y0:=aB hW.out h0
 have y1:=aB hW.out h1
 have y2:=aB hW.out h2
 have y5:=aB hW.out h5
 have v0:(w.alloc (.cells #[.bool false,.slice none 0 0,.slice none 0 0] 243)).cell? ⟨w.heap.size,0,none⟩=some (.bool false):=by simp
 have v1:(w.alloc (.cells #[.bool false,.slice none 0 0,.slice none 0 0] 243)).cell? ⟨w.heap.size,1,none⟩=some (.slice none 0 0):=by simp
 have v2:(w.alloc (.cells #[.bool false,.slice none 0 0,.slice none 0 0] 243)).cell? ⟨w.heap.size,2,none⟩=some (.slice none 0 0):=by simp
 have vf:∀j,(w.alloc (.cells #[.bool false,.slice none 0 0,.slice none 0 0] 243)).frozen? ⟨w.heap.size,j,none⟩=false:=fun j=>by simp
 have hqW:w.heap.size<(w.alloc (.cells #[.bool false,.slice none 0 0,.slice none 0 0] 243)).heap.size:=by simp
 clear ht hz h0 h1 h2 h5
 go_enter Tryz.func218,Tryz.ntmps218
 go_wp2_with fail
 generalize w.alloc (.cells #[.bool false,.slice none 0 0,.slice none 0 0] 243)=W at *
 go_region_held3 (fun w'=>Below W.heap.size W w'∧w'.cell? ⟨p,0,none⟩=some (.slice ra rs.length rc)∧w'.cell? ⟨p,1,none⟩=some (.slice ga gs.length gc)∧w'.cell? ⟨p,2,none⟩=some (.slice sa ss.length sc)∧w'.cell? ⟨r,0,none⟩=some (.slice za zs.length zc)) ((go_split_ands;refine ext4 ?_ y0 y1 y2 y5;repeat (first | assumption | exact Below.refl _ _ | refine aD ?_ | refine aA ?_ _ | refine aC ?_ (by assumption))))
  (first
   | (go_at_call 102;refine(cZ ra ga sa rc gc sc rs gs ss _ ?_).mono ?_;(refine HTW.out.below ?_;go_split_ands;repeat (first | assumption | exact Below.refl _ _ | refine aD ?_ | refine aA ?_ _ | refine aC ?_ (by assumption)));rintro e w' ⟨rfl,hbx⟩)
   | (go_at_call 219;refine(kY ra ga sa rc gc sc rs gs ss za zc zs _).mono ?_;rintro e w' ⟨rfl,rfl⟩)
   | (go_at_call 15;refine(aO [bA rs gs ss,dX rs zs] _ 2 _ (by simp) HE.out ?_).mono ?_;(exact iU _ _ _ _ (by simp));rintro e w' ⟨rfl,rfl⟩))
 go_split_ands
 go_wp2_with fail
 refine(outcome_ok ra ga sa rc gc sc rs gs ss za zc zs _ (HTW.out.below ?_) (HZW.out.below ?_) HN.out h4 HL.out HG.out HS.out h3).mono ?_
 ·assumption
 ·assumption
 rintro e w2 ⟨va,vc,ma,mc,rfl,hva,hma,hb2⟩
 have hb3:Below W.heap.size W w2:=by
  refine aC ?_ hb2
  assumption
 have hva':IsAt (w.heap.size+1) w2.heap.size w2 va zs:=hva.widen (Nat.le_trans hqW (Below.size (B:=W.heap.size) (by assumption))) (Nat.le_refl _)
 have hma':IsAt (w.heap.size+1) w2.heap.size w2 ma (aZ zs gs ss):=hma.widen (Nat.le_trans hqW (Below.size (B:=W.heap.size) (by assumption))) (Nat.le_refl _)
 have x0:=aB hb3 v0
 have x1:=aB hb3 v1
 have x2:=aB hb3 v2
 have xf:∀j,w2.frozen? ⟨w.heap.size,j,none⟩=false:=fun j=>(hb3.frozen (p:=⟨w.heap.size,j,none⟩) hqW).trans (vf j)
 have B3:=aC hW.out hb3
 clear hva hma hb2 v0 v1 v2 vf HTW HZW
 go_wp2
 refine bodyPost_ret (v:=.agg #[.bool (cW zs gs),.slice va zs.length vc,.slice ma (aZ zs gs ss).length mc]) (by simp[results,Tryz.results218,go_sem,x0,x1,x2]) rfl ⟨va,vc,ma,mc,rfl,?_,?_,?_⟩
 ·have h1:=((hva'.set ⟨w.heap.size,0,none⟩ (.bool (cW zs gs)) (.inl (Nat.lt_succ_self _))).set ⟨w.heap.size,1,none⟩ (.slice va zs.length vc) (.inl (Nat.lt_succ_self _))).set ⟨w.heap.size,2,none⟩ (.slice ma (aZ zs gs ss).length mc) (.inl (Nat.lt_succ_self _))
  exact h1.widen (by omega) (by simp)
 ·have h1:=((hma'.set ⟨w.heap.size,0,none⟩ (.bool (cW zs gs)) (.inl (Nat.lt_succ_self _))).set ⟨w.heap.size,1,none⟩ (.slice va zs.length vc) (.inl (Nat.lt_succ_self _))).set ⟨w.heap.size,2,none⟩ (.slice ma (aZ zs gs ss).length mc) (.inl (Nat.lt_succ_self _))
  exact h1.widen (by omega) (by simp)
 ·exact aI (aI (aI B3 (Nat.le_refl _) _) (Nat.le_refl _) _) (Nat.le_refl _) _
theorem xV (cap:Array Value) (d:Bool) (zs made:List Int) (w:World)
  (h:Calls Tryz.prog 218 cap ((w.alloc (.cells #[.bool false,.slice none 0 0,.slice none 0 0] 243)).alloc (.cells #[.int .i64 0] 22)) fun e w'=>∃va vc ma mc,e=.returned (.agg #[.bool d,.slice va zs.length vc,.slice ma made.length mc])∧IsAt ((w.alloc (.cells #[.bool false,.slice none 0 0,.slice none 0 0] 243)).alloc (.cells #[.int .i64 0] 22)).heap.size w'.heap.size w' va zs∧IsAt ((w.alloc (.cells #[.bool false,.slice none 0 0,.slice none 0 0] 243)).alloc (.cells #[.int .i64 0] 22)).heap.size w'.heap.size w' ma made∧Below ((w.alloc (.cells #[.bool false,.slice none 0 0,.slice none 0 0] 243)).alloc (.cells #[.int .i64 0] 22)).heap.size ((w.alloc (.cells #[.bool false,.slice none 0 0,.slice none 0 0] 243)).alloc (.cells #[.int .i64 0] 22)) w') :
  Calls Tryz.prog 217 #[.func (.func 218) #[] cap] w fun e w'=>∃va vc ma mc,e=.returned (.tuple #[.agg #[.bool d,.slice va zs.length vc,.slice ma made.length mc],.int .i64 0])∧IsAt w.heap.size w'.heap.size w' va zs∧IsAt w.heap.size w'.heap.size w' ma made∧Below w.heap.size w w':=by
 have hmf:∀(fn:Fn) (first cap:Array Value) (w:World),(Instr.makeFunc fn first cap).run Tryz.prog w=.ok (.func fn first cap) w:=fun _ _ _ _=>rfl
 have H:Hid (Calls Tryz.prog 218 cap ((w.alloc (.cells #[.bool false,.slice none 0 0,.slice none 0 0] 243)).alloc (.cells #[.int .i64 0] 22)) fun e w'=>∃va vc ma mc,e=.returned (.agg #[.bool d,.slice va zs.length vc,.slice ma made.length mc])∧IsAt ((w.alloc (.cells #[.bool false,.slice none 0 0,.slice none 0 0] 243)).alloc (.cells #[.int .i64 0] 22)).heap.size w'.heap.size w' va zs∧IsAt ((w.alloc (.cells #[.bool false,.slice none 0 0,.slice none 0 0] 243)).alloc (.cells #[.int .i64 0] 22)).heap.size w'.heap.size w' ma made∧Below ((w.alloc (.cells #[.bool false,.slice none 0 0,.slice none 0 0] 243)).alloc (.cells #[.int .i64 0] 22)).heap.size ((w.alloc (.cells #[.bool false,.slice none 0 0,.slice none 0 0] 243)).alloc (.cells #[.int .i64 0] 22)) w'):=h
 clear h
 go_enter_defers Tryz.func217,Tryz.ntmps217
 go_wp2_with fail
 refine H.out.mono ?_
 clear H
 rintro e w1 ⟨va,vc,ma,mc,rfl,hva,hma,hb⟩
 have e0:w1.cell? ⟨w.heap.size+1,0,none⟩=some (.int .i64 0):=(hb.cell (by simp)).trans (by simp)
 have ef:∀j,w1.frozen? ⟨w.heap.size+1,j,none⟩=false:=fun j=>(hb.frozen (p:=⟨w.heap.size+1,j,none⟩) (by simp)).trans (by simp)
 have c0:w1.cell? ⟨w.heap.size,0,none⟩=some (.bool false):=(hb.cell (by simp;omega)).trans ((World.cell?_alloc_lt _ _ _ (by simp)).trans (by simp))
 have c1:w1.cell? ⟨w.heap.size,1,none⟩=some (.slice none 0 0):=(hb.cell (by simp;omega)).trans ((World.cell?_alloc_lt _ _ _ (by simp)).trans (by simp))
 have c2:w1.cell? ⟨w.heap.size,2,none⟩=some (.slice none 0 0):=(hb.cell (by simp;omega)).trans ((World.cell?_alloc_lt _ _ _ (by simp)).trans (by simp))
 have cf:∀j,w1.frozen? ⟨w.heap.size,j,none⟩=false:=fun j=>(hb.frozen (p:=⟨w.heap.size,j,none⟩) (by simp;omega)).trans (((aA (Below.refl (w.alloc (.cells #[.bool false,.slice none 0 0,.slice none 0 0] 243)).heap.size (w.alloc (.cells #[.bool false,.slice none 0 0,.slice none 0 0] 243))) (.cells #[.int .i64 0] 22)).frozen (p:=⟨w.heap.size,j,none⟩) (by simp)).trans (by simp))
 have hva':IsAt (w.heap.size+2) w1.heap.size w1 va zs:=hva.widen (by simp) (Nat.le_refl _)
 have hma':IsAt (w.heap.size+2) w1.heap.size w1 ma made:=hma.widen (by simp) (Nat.le_refl _)
 have B1:Below w.heap.size w w1:=aC (aA (aA (Below.refl _ _) _) _) hb
 clear hb hva hma
 go_wp2
 refine leaves_cons (f:=257) (args:=#[.pointer (some ⟨w.heap.size+1,0,none⟩)]) (by simp) (by simp[go_sem]) ?_
 refine(yP ⟨w.heap.size+1,0,none⟩ _).mono ?_
 rintro e u' w'' ⟨rfl,rfl,rfl⟩
 simp[Leaves,settle,results,Tryz.results217,go_sem,e0,c0,c1,c2]
 refine⟨va,vc,ma,⟨⟨rfl,rfl⟩,rfl⟩,?_,?_,?_⟩
 ·have h1:=(((hva'.set ⟨w.heap.size,0,none⟩ (.bool d) (.inl (by simp))).set ⟨w.heap.size,1,none⟩ (.slice va zs.length vc) (.inl (by simp))).set ⟨w.heap.size,2,none⟩ (.slice ma made.length mc) (.inl (by simp))).set ⟨w.heap.size+1,0,none⟩ (.int .i64 0) (.inl (by simp))
  exact h1.widen (by omega) (Nat.le_refl _)
 ·have h1:=(((hma'.set ⟨w.heap.size,0,none⟩ (.bool d) (.inl (by simp))).set ⟨w.heap.size,1,none⟩ (.slice va zs.length vc) (.inl (by simp))).set ⟨w.heap.size,2,none⟩ (.slice ma made.length mc) (.inl (by simp))).set ⟨w.heap.size+1,0,none⟩ (.int .i64 0) (.inl (by simp))
  exact h1.widen (by omega) (Nat.le_refl _)
 ·exact aI (aI (aI (aI B1 (Nat.le_refl _) _) (Nat.le_refl _) _) (Nat.le_refl _) _) (by simp) _
theorem xW (cap:Array Value) (x:Int) (w:World)
  (h:Calls Tryz.prog 218 cap ((w.alloc (.cells #[.bool false,.slice none 0 0,.slice none 0 0] 243)).alloc (.cells #[.int .i64 0] 22)) fun e w'=>e=.panicked [{v:=.iface 22 (.int .i64 x),recovered:=false}]∧Below ((w.alloc (.cells #[.bool false,.slice none 0 0,.slice none 0 0] 243)).alloc (.cells #[.int .i64 0] 22)).heap.size ((w.alloc (.cells #[.bool false,.slice none 0 0,.slice none 0 0] 243)).alloc (.cells #[.int .i64 0] 22)) w') :
  Calls Tryz.prog 217 #[.func (.func 218) #[] cap] w fun e w'=>e=.returned (.tuple #[.agg #[.bool false,.slice none 0 0,.slice none 0 0],.int .i64 x])∧Below w.heap.size w w':=by
 have hmf:∀(fn:Fn) (first cap:Array Value) (w:World),(Instr.makeFunc fn first cap).run Tryz.prog w=.ok (.func fn first cap) w:=fun _ _ _ _=>rfl
 have H:Hid (Calls Tryz.prog 218 cap ((w.alloc (.cells #[.bool false,.slice none 0 0,.slice none 0 0] 243)).alloc (.cells #[.int .i64 0] 22)) fun e w'=>e=.panicked [{v:=.iface 22 (.int .i64 x),recovered:=false}]∧Below ((w.alloc (.cells #[.bool false,.slice none 0 0,.slice none 0 0] 243)).alloc (.cells #[.int .i64 0] 22)).heap.size ((w.alloc (.cells #[.bool false,.slice none 0 0,.slice none 0 0] 243)).alloc (.cells #[.int .i64 0] 22)) w'):=h
 clear h
 go_enter_defers Tryz.func217,Tryz.ntmps217
 go_wp2_with fail
 refine H.out.mono ?_
 clear H
 rintro e w1 ⟨rfl,hb⟩
 have e0:w1.cell? ⟨w.heap.size+1,0,none⟩=some (.int .i64 0):=(hb.cell (by simp)).trans (by simp)
 have ef:w1.frozen? ⟨w.heap.size+1,0,none⟩=false:=(hb.frozen (p:=⟨w.heap.size+1,0,none⟩) (by simp)).trans (by simp)
 have c0:w1.cell? ⟨w.heap.size,0,none⟩=some (.bool false):=(hb.cell (by simp;omega)).trans ((World.cell?_alloc_lt _ _ _ (by simp)).trans (by simp))
 have c1:w1.cell? ⟨w.heap.size,1,none⟩=some (.slice none 0 0):=(hb.cell (by simp;omega)).trans ((World.cell?_alloc_lt _ _ _ (by simp)).trans (by simp))
 have c2:w1.cell? ⟨w.heap.size,2,none⟩=some (.slice none 0 0):=(hb.cell (by simp;omega)).trans ((World.cell?_alloc_lt _ _ _ (by simp)).trans (by simp))
 have B1:Below w.heap.size w w1:=aC (aA (aA (Below.refl _ _) _) _) hb
 clear hb
 refine leaves_cons (f:=257) (args:=#[.pointer (some ⟨w.heap.size+1,0,none⟩)]) (by simp) (by simp[go_sem]) ?_
 refine(oE ⟨w.heap.size+1,0,none⟩ x 0 [] _ e0 ef).mono ?_
 rintro e u' w'' ⟨rfl,rfl,rfl⟩
 simp[Leaves,settle,results,Tryz.results217,go_sem,e0,c0,c1,c2]
 exact aI B1 (by simp) _
theorem run_by (d:Bool) (zs' made:List Int) (x:Int) (w:World)
  (h:Calls Tryz.prog 217 #[.func (.func 218) #[] #[.pointer (some ⟨w.heap.size,0,none⟩),.pointer (some ⟨w.heap.size+1,0,none⟩)]] (((w.alloc (.cells #[.slice ra rs.length rc,.slice ga gs.length gc,.slice sa ss.length sc] 95)).alloc (.cells #[.slice za zs.length zc] 41)).alloc (.cells #[.bool false,.slice none 0 0] 148)) fun e w'=>∃va vc ma mc,e=.returned (.tuple #[.agg #[.bool d,.slice va zs'.length vc,.slice ma made.length mc],.int .i64 x])∧IsAt (((w.alloc (.cells #[.slice ra rs.length rc,.slice ga gs.length gc,.slice sa ss.length sc] 95)).alloc (.cells #[.slice za zs.length zc] 41)).alloc (.cells #[.bool false,.slice none 0 0] 148)).heap.size w'.heap.size w' va zs'∧IsAt (((w.alloc (.cells #[.slice ra rs.length rc,.slice ga gs.length gc,.slice sa ss.length sc] 95)).alloc (.cells #[.slice za zs.length zc] 41)).alloc (.cells #[.bool false,.slice none 0 0] 148)).heap.size w'.heap.size w' ma made∧Below (((w.alloc (.cells #[.slice ra rs.length rc,.slice ga gs.length gc,.slice sa ss.length sc] 95)).alloc (.cells #[.slice za zs.length zc] 41)).alloc (.cells #[.bool false,.slice none 0 0] 148)).heap.size (((w.alloc (.cells #[.slice ra rs.length rc,.slice ga gs.length gc,.slice sa ss.length sc] 95)).alloc (.cells #[.slice za zs.length zc] 41)).alloc (.cells #[.bool false,.slice none 0 0] 148)) w') :
  Calls Tryz.prog 184 #[.agg #[.slice ra rs.length rc,.slice ga gs.length gc,.slice sa ss.length sc],.slice za zs.length zc] w fun e w'=>∃va vc ma mc,e=.returned (.tuple #[.agg #[.bool d,.slice va zs'.length vc],.slice ma made.length mc,.int .i64 x])∧IsAt w.heap.size w'.heap.size w' va zs'∧IsAt w.heap.size w'.heap.size w' ma made∧Below w.heap.size w w':=by
 have hmf:∀(fn:Fn) (first cap:Array Value) (w:World),(Instr.makeFunc fn first cap).run Tryz.prog w=.ok (.func fn first cap) w:=fun _ _ _ _=>rfl
 have H:Hid (Calls Tryz.prog 217 #[.func (.func 218) #[] #[.pointer (some ⟨w.heap.size,0,none⟩),.pointer (some ⟨w.heap.size+1,0,none⟩)]] (((w.alloc (.cells #[.slice ra rs.length rc,.slice ga gs.length gc,.slice sa ss.length sc] 95)).alloc (.cells #[.slice za zs.length zc] 41)).alloc (.cells #[.bool false,.slice none 0 0] 148)) fun e w'=>∃va vc ma mc,e=.returned (.tuple #[.agg #[.bool d,.slice va zs'.length vc,.slice ma made.length mc],.int .i64 x])∧IsAt (((w.alloc (.cells #[.slice ra rs.length rc,.slice ga gs.length gc,.slice sa ss.length sc] 95)).alloc (.cells #[.slice za zs.length zc] 41)).alloc (.cells #[.bool false,.slice none 0 0] 148)).heap.size w'.heap.size w' va zs'∧IsAt (((w.alloc (.cells #[.slice ra rs.length rc,.slice ga gs.length gc,.slice sa ss.length sc] 95)).alloc (.cells #[.slice za zs.length zc] 41)).alloc (.cells #[.bool false,.slice none 0 0] 148)).heap.size w'.heap.size w' ma made∧Below (((w.alloc (.cells #[.slice ra rs.length rc,.slice ga gs.length gc,.slice sa ss.length sc] 95)).alloc (.cells #[.slice za zs.length zc] 41)).alloc (.cells #[.bool false,.slice none 0 0] 148)).heap.size (((w.alloc (.cells #[.slice ra rs.length rc,.slice ga gs.length gc,.slice sa ss.length sc] 95)).alloc (.cells #[.slice za zs.length zc] 41)).alloc (.cells #[.bool false,.slice none 0 0] 148)) w'):=h
 clear h
 go_enter Tryz.func184,Tryz.ntmps184
 go_wp2_with fail
 refine H.out.mono ?_
 clear H
 rintro e w1 ⟨va,vc,ma,mc,rfl,hva,hma,hb⟩
 obtain⟨n0,n1,nf⟩:=new_two ((w.alloc (.cells #[.slice ra rs.length rc,.slice ga gs.length gc,.slice sa ss.length sc] 95)).alloc (.cells #[.slice za zs.length zc] 41)) (.bool false) (.slice none 0 0) 148 (w.heap.size+1+1) (by simp)
 have c0:w1.cell? ⟨w.heap.size+1+1,0,none⟩=some (.bool false):=(hb.cell (by simp)).trans n0
 have c1:w1.cell? ⟨w.heap.size+1+1,1,none⟩=some (.slice none 0 0):=(hb.cell (by simp)).trans n1
 have cf:∀j,w1.frozen? ⟨w.heap.size+1+1,j,none⟩=false:=fun j=>(hb.frozen (p:=⟨w.heap.size+1+1,j,none⟩) (by simp)).trans (nf j)
 clear n0 n1 nf
 have hq:=World.block_lt_of_cell? w1 _ c0
 have hva':IsAt (w.heap.size+3) w1.heap.size w1 va zs':=hva.widen (by simp) (Nat.le_refl _)
 have hma':IsAt (w.heap.size+3) w1.heap.size w1 ma made:=hma.widen (by simp) (Nat.le_refl _)
 have B1:Below w.heap.size w w1:=aC (aA (aA (aA (Below.refl _ _) _) _) _) hb
 have C0:=fun o=>aB (aA (Below.refl w1.heap.size w1) o) c0
 have C1:=fun o=>aB (aA (Below.refl w1.heap.size w1) o) c1
 have CF:∀o j,(w1.alloc o).frozen? ⟨w.heap.size+1+1,j,none⟩=false:=fun o j=>((aA (Below.refl w1.heap.size w1) o).frozen (p:=⟨w.heap.size+1+1,j,none⟩) hq).trans (cf j)
 have r0:(((w1.setCell ⟨w.heap.size+1+1,0,none⟩ (.bool d)).setCell ⟨w.heap.size+1+1,1,none⟩ (.slice va zs'.length vc)).alloc (.cells #[.bool d,.slice va zs'.length vc,.slice ma made.length mc] 243)).cell? ⟨w.heap.size+1+1,0,none⟩=some (.bool d):=by rw[World.cell?_alloc_lt _ _ _ (by simp;omega)];simp[go_sem,c0]
 have r1:(((w1.setCell ⟨w.heap.size+1+1,0,none⟩ (.bool d)).setCell ⟨w.heap.size+1+1,1,none⟩ (.slice va zs'.length vc)).alloc (.cells #[.bool d,.slice va zs'.length vc,.slice ma made.length mc] 243)).cell? ⟨w.heap.size+1+1,1,none⟩=some (.slice va zs'.length vc):=by rw[World.cell?_alloc_lt _ _ _ (by simp;omega)];simp[go_sem,c1]
 clear hb hva hma
 go_wp2
 go_region
 go_wp2
 refine bodyPost_ret (v:=.tuple #[.agg #[.bool d,.slice va zs'.length vc],.slice ma made.length mc,.int .i64 x]) (by simp[results,Tryz.results184,go_sem,r0,r1]) rfl ⟨va,vc,ma,mc,rfl,?_,?_,?_⟩
 ·have h1:=(hva'.set ⟨w.heap.size+1+1,0,none⟩ (.bool d) (.inl (by simp))).set ⟨w.heap.size+1+1,1,none⟩ (.slice va zs'.length vc) (.inl (by simp))
  exact(h1.below (aD (aA (Below.refl _ _) _))).widen (by omega) (by simp)
 ·have h1:=(hma'.set ⟨w.heap.size+1+1,0,none⟩ (.bool d) (.inl (by simp))).set ⟨w.heap.size+1+1,1,none⟩ (.slice va zs'.length vc) (.inl (by simp))
  exact(h1.below (aD (aA (Below.refl _ _) _))).widen (by omega) (by simp)
 ·exact aD (aA (aI (aI B1 (by simp;omega) _) (by simp;omega) _) _)
def tV (rs:List Int) (gs:List Gd) (ss:List St) (zs:List Int):Int:=aF [bA rs gs ss,dX rs zs]
def runD (rs:List Int) (gs:List Gd) (ss:List St) (zs:List Int):Bool:=if tV rs gs ss zs=0 then cW zs gs else false
def zU (rs:List Int) (gs:List Gd) (ss:List St) (zs:List Int):List Int:=if tV rs gs ss zs=0 then zs else []
def runM (rs:List Int) (gs:List Gd) (ss:List St) (zs:List Int):List Int:=if tV rs gs ss zs=0 then aZ zs gs ss else []
theorem runE_zero {rs:List Int} {gs:List Gd} {ss:List St} {zs:List Int} (h:tV rs gs ss zs=0):bA rs gs ss=0∧zs.length=rs.length:=by
 have h':=aR _ h
 have h0:bA rs gs ss=0:=by simpa using h' 0
 have h1:dX rs zs=0:=by simpa using h' 1
 refine⟨h0,?_⟩
 unfold dX at h1
 by_cases c:zs.length=rs.length
 ·exact c
 ·rw[if_neg c]at h1;omega
theorem dH {rs:List Int} {gs:List Gd} {ss:List St} (h:bA rs gs ss=0):bF rs.length gs.length ss.length=0∧dT rs ss=0∧aF (gs.map (cL rs.length))=0∧aF (ss.map (cU rs.length))=0:=by
 have h':=aR _ h
 exact⟨by simpa using h' 0,by simpa using h' 1,by simpa using h' 2,by simpa using h' 3⟩
theorem run_cells (w:World) (o o':Obj):(((((w.alloc (.cells #[.slice ra rs.length rc,.slice ga gs.length gc,.slice sa ss.length sc] 95)).alloc (.cells #[.slice za zs.length zc] 41)).alloc (.cells #[.bool false,.slice none 0 0] 148)).alloc o).alloc o').cell? ⟨w.heap.size,0,none⟩=some (.slice ra rs.length rc)∧(((((w.alloc (.cells #[.slice ra rs.length rc,.slice ga gs.length gc,.slice sa ss.length sc] 95)).alloc (.cells #[.slice za zs.length zc] 41)).alloc (.cells #[.bool false,.slice none 0 0] 148)).alloc o).alloc o').cell? ⟨w.heap.size,1,none⟩=some (.slice ga gs.length gc)∧(((((w.alloc (.cells #[.slice ra rs.length rc,.slice ga gs.length gc,.slice sa ss.length sc] 95)).alloc (.cells #[.slice za zs.length zc] 41)).alloc (.cells #[.bool false,.slice none 0 0] 148)).alloc o).alloc o').cell? ⟨w.heap.size,2,none⟩=some (.slice sa ss.length sc)∧(((((w.alloc (.cells #[.slice ra rs.length rc,.slice ga gs.length gc,.slice sa ss.length sc] 95)).alloc (.cells #[.slice za zs.length zc] 41)).alloc (.cells #[.bool false,.slice none 0 0] 148)).alloc o).alloc o').cell? ⟨w.heap.size+1,0,none⟩=some (.slice za zs.length zc):=by
 refine⟨?_,?_,?_,?_⟩
 ·rw[World.cell?_alloc_lt _ _ _ (by simp;omega),World.cell?_alloc_lt _ _ _ (by simp;omega),World.cell?_alloc_lt _ _ _ (by simp;omega),World.cell?_alloc_lt _ _ _ (by simp)];simp
 ·rw[World.cell?_alloc_lt _ _ _ (by simp;omega),World.cell?_alloc_lt _ _ _ (by simp;omega),World.cell?_alloc_lt _ _ _ (by simp;omega),World.cell?_alloc_lt _ _ _ (by simp)];simp
 ·rw[World.cell?_alloc_lt _ _ _ (by simp;omega),World.cell?_alloc_lt _ _ _ (by simp;omega),World.cell?_alloc_lt _ _ _ (by simp;omega),World.cell?_alloc_lt _ _ _ (by simp)];simp
 ·rw[World.cell?_alloc_lt _ _ _ (by simp),World.cell?_alloc_lt _ _ _ (by simp),World.cell?_alloc_lt _ _ _ (by simp)];simp
theorem mB (w:World) (ht:IsTx w ra ga sa rs gs ss) (hz:IsInts w za zs) (hn:za=none→zc=0) :
  Calls Tryz.prog 184 #[.agg #[.slice ra rs.length rc,.slice ga gs.length gc,.slice sa ss.length sc],.slice za zs.length zc] w fun e w'=>∃va vc ma mc,e=.returned (.tuple #[.agg #[.bool (runD rs gs ss zs),.slice va (zU rs gs ss zs).length vc],.slice ma (runM rs gs ss zs).length mc,.int .i64 (tV rs gs ss zs)])∧IsAt w.heap.size w'.heap.size w' va (zU rs gs ss zs)∧IsAt w.heap.size w'.heap.size w' ma (runM rs gs ss zs)∧Below w.heap.size w w':=by
 obtain⟨h0,h1,h2,h5⟩:=run_cells ra ga sa rc gc sc rs gs ss za zc zs w (.cells #[.bool false,.slice none 0 0,.slice none 0 0] 243) (.cells #[.int .i64 0] 22)
 have hg:Below w.heap.size w (((((w.alloc (.cells #[.slice ra rs.length rc,.slice ga gs.length gc,.slice sa ss.length sc] 95)).alloc (.cells #[.slice za zs.length zc] 41)).alloc (.cells #[.bool false,.slice none 0 0] 148)).alloc (.cells #[.bool false,.slice none 0 0,.slice none 0 0] 243)).alloc (.cells #[.int .i64 0] 22)):=aA (aA (aA (aA (aA (Below.refl _ _) _) _) _) _) _
 by_cases he:tV rs gs ss zs=0
 ·obtain⟨hc,hlen⟩:=runE_zero he
  obtain⟨hm,_,hgg,hss⟩:=dH hc
  obtain⟨h4,_,h3,_⟩:=bL _ _ _ hm
  have e1:runD rs gs ss zs=cW zs gs:=if_pos he
  have e2:zU rs gs ss zs=zs:=if_pos he
  have e3:runM rs gs ss zs=aZ zs gs ss:=if_pos he
  rw[e1,e2,e3,he]
  exact run_by ra ga sa rc gc sc rs gs ss za zc zs _ _ _ _ w (xV _ _ _ _ _ (run1_ok ra ga sa rc gc sc rs gs ss za zc zs _ _ _ h0 h1 h2 h5 (ht.below hg) (hz.below hg) hn he hgg hss h3 (by omega) hlen))
 ·have e1:runD rs gs ss zs=false:=if_neg he
  have e2:zU rs gs ss zs=[]:=if_neg he
  have e3:runM rs gs ss zs=[]:=if_neg he
  rw[e1,e2,e3]
  refine run_by ra ga sa rc gc sc rs gs ss za zc zs _ _ _ _ w ((xW _ _ _ (run1_pan ra ga sa rc gc sc rs gs ss za zc zs _ _ _ h0 h1 h2 h5 (ht.below hg) (hz.below hg) he)).mono ?_)
  exact fun _ _ ⟨x1,x2⟩=>⟨none,0,none,0,x1,fun i hi=>absurd hi (by simp),fun i hi=>absurd hi (by simp),x2⟩
end
end Go.Proofs.YtcgpkonfneofdaaGreatDoor
