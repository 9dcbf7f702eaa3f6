/- Conditions: those that each theorem states. -/
import Derived.Test.YtcgpkonfneofdaaGreatDoorSOwnC
set_option maxRecDepth 100000
set_option maxHeartbeats 8000000
namespace Go.Proofs.YtcgpkonfneofdaaGreatDoor
open Go.RowKit
section
theorem DoAt.reads {w0 w:World} {C h p:Nat} {la:Option Addr} {lc rc tc vc:Nat} {sa ra wa va:Option Addr} {sc:Nat} {l:List TxA} {sh:Nat} {S:SA} {g0 c1 c2 c3 hi gr gw gv:Nat} {Br Bw Bv:Nat→Nat} (D:DoAt w0 w C h p la lc rc tc vc sa ra wa va sc l sh S g0 c1 c2 c3 hi gr gw gv Br Bw Bv) {n:Nat} (hn:n<l.length):∃b off,la=some ⟨b,off,none⟩∧w.cell? ⟨b,off+n*3,none⟩=some (.slice (gX l n).ra (gX l n).rs.length (gX l n).rc)∧w.cell? ⟨b,off+n*3+1,none⟩=some (.slice (gX l n).ga (gX l n).gs.length (gX l n).gc)∧w.cell? ⟨b,off+n*3+2,none⟩=some (.slice (gX l n).sa (gX l n).ss.length (gX l n).sc)∧IsTx w (gX l n).ra (gX l n).ga (gX l n).sa (gX l n).rs (gX l n).gs (gX l n).ss:=by
 obtain⟨b,off,e,_,c0,c1,c2,hx⟩:=(D.tx.below D.bl) n hn
 exact⟨b,off,e,c0,c1,c2,hx.t⟩
theorem DoAt.good {w0 w:World} {C h p:Nat} {la:Option Addr} {lc rc tc vc:Nat} {sa ra wa va:Option Addr} {sc:Nat} {l:List TxA} {sh:Nat} {S:SA} {g0 c1 c2 c3 hi gr gw gv:Nat} {Br Bw Bv:Nat→Nat} (D:DoAt w0 w C h p la lc rc tc vc sa ra wa va sc l sh S g0 c1 c2 c3 hi gr gw gv Br Bw Bv) {n:Nat} (hn:n<l.length):Good (gX l n):=lL (fV D.ck n hn)
theorem DoAt.cs {w0 w:World} {C h p:Nat} {la:Option Addr} {lc rc tc vc:Nat} {sa ra wa va:Option Addr} {sc:Nat} {l:List TxA} {sh:Nat} {S:SA} {g0 c1 c2 c3 hi gr gw gv:Nat} {Br Bw Bv:Nat→Nat} (D:DoAt w0 w C h p la lc rc tc vc sa ra wa va sc l sh S g0 c1 c2 c3 hi gr gw gv Br Bw Bv):C≤w.heap.size:=by
 have e:=D.own.h1
 have e5:=D.own.h5
 have e2:=D.own.h2
 have e3:=D.own.h3
 have e4:=D.own.h4
 omega
variable {w0 w:World} {C h p:Nat} {la:Option Addr} {lc rc tc vc:Nat} {sa ra wa va:Option Addr} {sc:Nat} {l:List TxA} {sh:Nat} {S:SA} {g0 c1 c2 c3 hi gr gw gv:Nat} {Br Bw Bv:Nat→Nat}
theorem read_at (D:DoAt w0 w C h p la lc rc tc vc sa ra wa va sc l sh S g0 c1 c2 c3 hi gr gw gv Br Bw Bv) {n k:Nat} (hn:n<l.length) (hk:k<sh) :
  Calls Tryz.prog 197 #[.pointer (some ⟨h,0,none⟩),.int .i64 n,.int .i64 k] w fun e w'=>e=.returned (.tuple #[])∧DoAt w0 w' C h p la lc rc tc vc sa ra wa va sc l sh (gC sh l S n k) g0 c1 c2 c3 hi gr gw gv Br Bw Bv∧Below C w w':=by
 have h1:=D.own.h1
 have h2:=D.own.h2
 have h3:=D.own.h3
 have h4:=D.own.h4
 have h5:=D.own.h5
 have hl8:=D.l8
 have hs4:=D.s4
 have hs0:=D.s0
 have W1O:=D.own.setRd hn hk
 have W1B:Below C w (w.setCell ⟨Br n,k,none⟩ (.bool true)):=(Below.refl _ _).setCell (by obtain⟨b1,_⟩:=D.own.rd.b n hn hs0;show C≤Br n;omega) _
 have D1:Hid (DoAt w0 (w.setCell ⟨Br n,k,none⟩ (.bool true)) C h p la lc rc tc vc sa ra wa va sc l sh {S with rd:=fJ S.rd n k} g0 c1 c2 c3 hi gr gw gv Br Bw Bv):=D.to W1B W1O
 have B1:Hid (Below C w (w.setCell ⟨Br n,k,none⟩ (.bool true))):=W1B
 have HG:Hid (Good (gX l n)):=D.good hn
 obtain⟨era,_,_⟩:=D.own.rd.ad (by omega)
 obtain⟨a',c',r0,r1,_,_⟩:=D.own.rd.o n hn
 have r1:=r1 hs0
 subst r1
 have r2:=D.own.rd.c n k hn hk
 have r3:=D.own.rd.f n k hn hs0
 have x0:=D.h0
 have x2:=D.h2
 rw[era]at x2
 have HF:Hid (Form sh l S):=D.own.f
 clear W1B W1O D h1 h2 h3 h4 h5 era
 go_enter Tryz.func197,Tryz.ntmps197
 go_upto_region 1 with fail
 clear x0 x2 r0 r2 r3
 generalize (w.setCell ⟨Br n,k,none⟩ (.bool true))=W at *
 obtain⟨b,off,ela,q0,_,_,hx⟩:=D1.out.reads hn
 have x0:=D1.out.h0
 have x1:=D1.out.p1
 rw[ela]at x1
 have hl4:=hx.lr
 unfold maxLen at hl4
 clear hx
 have HVL:Hid ((S.vs.getD n []).length=(gX l n).rs.length):=HF.out.vn n hn
 have DS:Hid (DoAt w0 W C h p la lc rc tc vc sa ra wa va sc l sh {S with rd:=fJ S.rd n k,vs:=S.vs.set n (eR sh k S.st ((gX l n).rs.take 0) (S.vs.getD n []))} g0 c1 c2 c3 hi gr gw gv Br Bw Bv):=by
  have e:S.vs.set n (eR sh k S.st ((gX l n).rs.take 0) (S.vs.getD n []))=S.vs:=by
   show S.vs.set n (eR sh k S.st [] (S.vs.getD n []))=S.vs
   have:eR sh k S.st [] (S.vs.getD n [])=S.vs.getD n []:=by cases S.vs.getD n [] <;> rfl
   rw[this]
   have hnv:n<S.vs.length:=by rw[HF.out.vs];exact hn
   rw[List.getD_eq_getElem?_getD,List.getElem?_eq_getElem hnv]
   simp
  rw[e]
  exact D1.out
 have FIN:Hid ((gX l n).rs.take (gX l n).rs.length=(gX l n).rs):=List.take_length
 have HRL:Hid (∀i,i<(gX l n).rs.length→(gX l n).rs.getD i 0∈(gX l n).rs):=fun i hi=>by
  rw[List.getD_eq_getElem?_getD,List.getElem?_eq_getElem hi]
  exact List.getElem_mem hi
 obtain⟨xa,exa⟩:∃xa,(gX l n).ra=xa:=⟨_,rfl⟩
 rw[exa]at q0
 have EXA:Hid ((gX l n).ra=xa):=exa
 clear exa
 generalize hN:(gX l n).rs.length=N at *
 go_wp2
 go_loopw [6,7,30] (fun _ _ i wr=>∃j:Nat,j≤N∧i=.int .i64 j∧Hid (DoAt w0 wr C h p la lc rc tc vc sa ra wa va sc l sh {S with rd:=fJ S.rd n k,vs:=S.vs.set n (eR sh k S.st ((gX l n).rs.take j) (S.vs.getD n []))} g0 c1 c2 c3 hi gr gw gv Br Bw Bv)∧Hid (Below C w wr)) (fun _ _ i _=>N - (intOf i).toNat)
 case atStart=>exact⟨0,Nat.zero_le _,rfl,DS,B1⟩
 case round=>
  obtain⟨j,hj,rfl,hD,hB⟩:=hrel
  clear DS D1 B1 x0 x1 ela
  by_cases hlt:j<N
  ·have i1:(j:Int)<(N:Int):=by omega
   obtain⟨_,_,_,_,_,_,hx⟩:=hD.out.reads hn
   obtain⟨b',off',ea,_,k0⟩:=hx.r j (by omega)
   clear hx
   have ea:=EXA.out.symm.trans ea
   subst ea
   have HT:Hid ((gX l n).rs.getD j 0∈(gX l n).rs):=HRL.out j hlt
   obtain⟨hz,hz'⟩:=HG.out.r _ HT.out
   have HZ:Hid ((gX l n).rs.getD j 0=(gX l n).rs.getD j 0):=rfl
   generalize hz0:(gX l n).rs.getD j 0=z at hz hz' k0 HT
   obtain⟨c,rfl⟩:=Int.eq_ofNat_of_zero_le hz
   have hc8:c<8:=by omega
   have HC:Hid ((gX l n).rs.getD j 0=(c:Int)):=hz0
   have CL:Hid (Calls Tryz.prog 242 #[.pointer (some ⟨h,0,none⟩),.int .i64 c,.int .i64 k] wr fun e w'=>e=.returned (.bool (c%sh==k))∧Below wr.heap.size wr w'):=wZ wr h p sh hD.out.h0 hD.out.p0 hs0 hs4 hc8
   have hVL:Hid (∀V:List Int,V.length=N→∀a,a<l.length→((S.vs.set n V).getD a []).length=(gX l a).rs.length):=fun V hV a ha=>by
    rw[dP _ _ _ _ _ (by rw[HF.out.vs];exact hn)]
    by_cases e:n=a
    ·subst e;rw[if_pos rfl,hV,hN]
    ·rw[if_neg e];exact HF.out.vn a ha
   have hML:∀i,(eR sh k S.st ((gX l n).rs.take i) (S.vs.getD n [])).length=N:=fun i=>by rw[sK,HVL.out]
   have hVg:∀a m,a<l.length→m<(gX l a).rs.length→((S.vs.set n (eR sh k S.st ((gX l n).rs.take (j+1)) (S.vs.getD n []))).getD a []).getD m 0=if (c%sh==k)=true∧a=n∧m=j then S.st.getD c 0 else ((S.vs.set n (eR sh k S.st ((gX l n).rs.take j) (S.vs.getD n []))).getD a []).getD m 0:=fun a m ha hm=>by
    rw[dP _ _ _ _ _ (by rw[HF.out.vs];exact hn),dP _ _ _ _ _ (by rw[HF.out.vs];exact hn)]
    by_cases e:n=a
    ·subst e
     rw[if_pos rfl,if_pos rfl,sL _ _ _ _ _ _ _ (by rw[HVL.out,hN]) hm,sL _ _ _ _ _ _ _ (by rw[HVL.out,hN]) hm]
     by_cases em:m=j
     ·subst em
      simp only[HC.out,Int.toNat_natCast,Nat.lt_succ_self,true_and,Nat.lt_irrefl,false_and,if_false,and_true,beq_iff_eq]
      rfl
     ·have e1:(m<j+1)=(m<j):=by simp;omega
      simp only[e1,em,and_false,if_false]
    ·rw[if_neg e,if_neg e,if_neg (fun q=>e q.2.1.symm)]
   have HV:Hid (∀a m,a<l.length→m<(gX l a).rs.length→((S.vs.set n (eR sh k S.st ((gX l n).rs.take (j+1)) (S.vs.getD n []))).getD a []).getD m 0=if (c%sh==k)=true∧a=n∧m=j then S.st.getD c 0 else ((S.vs.set n (eR sh k S.st ((gX l n).rs.take j) (S.vs.getD n []))).getD a []).getD m 0):=hVg
   have HML:Hid (∀i,(eR sh k S.st ((gX l n).rs.take i) (S.vs.getD n [])).length=N):=hML
   have HSL:Hid (∀V:List Int,(S.vs.set n V).length=l.length):=fun V=>by rw[List.length_set];exact HF.out.vs
   clear hML hVg HZ hz0 HT HRL hz hz'
   go_wp2_with fail
   refine CL.out.mono ?_
   rintro e w1 ⟨rfl,hb1⟩
   have E1:Hid (DoAt w0 w1 C h p la lc rc tc vc sa ra wa va sc l sh {S with rd:=fJ S.rd n k,vs:=S.vs.set n (eR sh k S.st ((gX l n).rs.take j) (S.vs.getD n []))} g0 c1 c2 c3 hi gr gw gv Br Bw Bv):=hD.out.below hb1
   have F1:Hid (Below C w w1):=hB.out.trans (hb1.mono (by have:=hD.out.own.h1;have:=hD.out.own.h2;have:=hD.out.own.h3;have:=hD.out.own.h4;have:=hD.out.own.h5;omega))
   clear CL hb1 hD hB k0
   generalize hq:(c%sh==k)=q at *
   cases q
   ·have E2:Hid (DoAt w0 w1 C h p la lc rc tc vc sa ra wa va sc l sh {S with rd:=fJ S.rd n k,vs:=S.vs.set n (eR sh k S.st ((gX l n).rs.take (j+1)) (S.vs.getD n []))} g0 c1 c2 c3 hi gr gw gv Br Bw Bv):=E1.out.to (Below.refl _ _) (E1.out.own.asV (S.vs.set n (eR sh k S.st ((gX l n).rs.take (j+1)) (S.vs.getD n []))) (fun a m ha hm=>by rw[HV.out a m ha hm];simp) (HSL.out _) (hVL.out _ (HML.out _)))
    clear E1 HV HSL hVL HML
    go_wp2
    go_roundw
    case rel=>exact⟨j+1,by omega,by go_num,E2,F1⟩
    case measure=>simp[intOf];omega
   ·have E2:Hid (DoAt w0 (w1.setCell ⟨Bv n,j,none⟩ (.int .i64 (S.st.getD c 0))) C h p la lc rc tc vc sa ra wa va sc l sh {S with rd:=fJ S.rd n k,vs:=S.vs.set n (eR sh k S.st ((gX l n).rs.take (j+1)) (S.vs.getD n []))} g0 c1 c2 c3 hi gr gw gv Br Bw Bv∧Below C w (w1.setCell ⟨Bv n,j,none⟩ (.int .i64 (S.st.getD c 0)))):=by
     have o:=E1.out.own.setV hn (by rw[hN];exact hlt) (S.st.getD c 0) (S.vs.set n (eR sh k S.st ((gX l n).rs.take (j+1)) (S.vs.getD n []))) (fun a m ha hm=>by rw[HV.out a m ha hm];simp) (HSL.out _) (hVL.out _ (HML.out _))
     have g1:=E1.out.own.h1
     have g2:=E1.out.own.h2
     have g3:=E1.out.own.h3
     obtain⟨b1,_⟩:=E1.out.own.vs.b n hn (by rw[hN];omega)
     exact⟨E1.out.to ((Below.refl _ _).setCell (by show C≤Bv n;omega) _) o,F1.out.setCell (by show C≤Bv n;omega) _⟩
    have y0:=E1.out.h0
    have HU:Hid (S.st.getD c 0=S.st.getD c 0):=rfl
    have y1:=E1.out.h1
    have y4:=E1.out.h4
    obtain⟨e1,_,_,e4,e5⟩:=E1.out.own.st.e (by decide)
    have z0:w1.cell? ⟨g0,c,none⟩=some (.int .i64 (S.st.getD c 0)):=e4 c hc8
    obtain⟨f1,_,_⟩:=E1.out.own.vs.ad (by omega)
    obtain⟨a',c',v0,v1,_,_⟩:=E1.out.own.vs.o n hn
    have v1:=v1 (by rw[hN];omega)
    have v2:=E1.out.own.vs.c n j hn (by rw[hN];exact hlt)
    have v3:=E1.out.own.vs.f n j hn (by rw[hN];omega)
    rw[v1,hN]at v0
    rw[e1]at y1
    rw[f1]at y4
    clear E1 HV HSL hVL HML e4 e5 e1 f1 v1 HU
    generalize S.st.getD c 0=uu at *
    go_wp2_with fail
    go_region
    all_goals go_wp2
    all_goals (
     go_roundw
     case rel=>exact⟨j+1,by omega,by go_num,E2.out.1.below (aD (Below.refl _ _)),E2.out.2.trans ((aD (Below.refl _ _)).mono E2.out.1.cs)⟩
     case measure=>simp[intOf];omega)
  ·have hjN:j=N:=by omega
   subst hjN
   rw[FIN.out]at hD
   go_wp2
   go_end0
   exact⟨rfl,hD.out,hB.out⟩
end
section
variable {w0 w:World} {C h p:Nat} {la:Option Addr} {lc rc tc vc:Nat} {sa ra wa va:Option Addr} {sc:Nat} {l:List TxA} {sh:Nat} {S:SA} {g0 c1 c2 c3 hi gr gw gv:Nat} {Br Bw Bv:Nat→Nat}
theorem write_at (D:DoAt w0 w C h p la lc rc tc vc sa ra wa va sc l sh S g0 c1 c2 c3 hi gr gw gv Br Bw Bv) {n k:Nat} (hn:n<l.length) (hk:k<sh) :
  Calls Tryz.prog 198 #[.pointer (some ⟨h,0,none⟩),.int .i64 n,.int .i64 k] w fun e w'=>e=.returned (.tuple #[])∧DoAt w0 w' C h p la lc rc tc vc sa ra wa va sc l sh (dI sh l S n k) g0 c1 c2 c3 hi gr gw gv Br Bw Bv∧Below C w w':=by
 have h1:=D.own.h1
 have h2:=D.own.h2
 have h3:=D.own.h3
 have h4:=D.own.h4
 have h5:=D.own.h5
 have hl8:=D.l8
 have hs4:=D.s4
 have hs0:=D.s0
 have W1O:=D.own.setWr hn hk
 have W1B:Below C w (w.setCell ⟨Bw n,k,none⟩ (.bool true)):=(Below.refl _ _).setCell (by obtain⟨b1,_⟩:=D.own.wr.b n hn hs0;show C≤Bw n;omega) _
 have D1:Hid (DoAt w0 (w.setCell ⟨Bw n,k,none⟩ (.bool true)) C h p la lc rc tc vc sa ra wa va sc l sh {S with wr:=fJ S.wr n k} g0 c1 c2 c3 hi gr gw gv Br Bw Bv):=D.to W1B W1O
 have B1:Hid (Below C w (w.setCell ⟨Bw n,k,none⟩ (.bool true))):=W1B
 have HG:Hid (Good (gX l n)):=D.good hn
 have HE:bA (gX l n).rs (gX l n).gs (gX l n).ss=0:=fV D.ck n hn
 have HSX:Hid (dI sh l S n k = {S with wr:=fJ S.wr n k,st:=bZ sh k S.st (aH (gX l n).ss) (aZ (S.vs.getD n []) (gX l n).gs (gX l n).ss)}):=rfl
 obtain⟨ewa,_,_⟩:=D.own.wr.ad (by omega)
 obtain⟨a1,cc,r0,r1',_,_⟩:=D.own.wr.o n hn
 have r1:=r1' hs0
 subst r1
 have r2:=D.own.wr.c n k hn hk
 have r3:=D.own.wr.f n k hn hs0
 have x0:=D.h0
 have x2:=D.h3
 rw[ewa]at x2
 have HF:Hid (Form sh l S):=D.own.f
 have hZL:(S.vs.getD n []).length=(gX l n).rs.length:=HF.out.vn n hn
 have hRE:tV (gX l n).rs (gX l n).gs (gX l n).ss (S.vs.getD n [])=0:=by
  show aF _=_
  rw[aF,if_pos HE,aF]
  have:dX (gX l n).rs (S.vs.getD n [])=0:=if_pos hZL
  rw[this];rfl
 clear W1B W1O D h1 h2 h3 h4 h5 ewa
 generalize dI sh l S n k=S9 at *
 go_enter Tryz.func198,Tryz.ntmps198
 go_upto_region 1 with fail
 clear x0 x2 r0 r2 r3
 generalize (w.setCell ⟨Bw n,k,none⟩ (.bool true))=W at *
 obtain⟨b,off,ela,q0,q1,q2,hx⟩:=D1.out.reads hn
 have x0:=D1.out.h0
 have x1:=D1.out.p1
 have x4:=D1.out.h4
 rw[ela]at x1
 obtain⟨f1,_,_⟩:=D1.out.own.vs.ad (by omega)
 rw[f1]at x4
 obtain⟨a',c',v0,v1,v2,_⟩:=D1.out.own.vs.o n hn
 have v3:=D1.out.own.vs.c n
 have v0:W.cell? ⟨gv,n,none⟩=some (.slice a' (gX l n).rs.length c'):=v0
 rw[←hZL]at v0
 have HZ:IsInts W a' (S.vs.getD n []):=fun i hi=>by
  have hi':i<(gX l n).rs.length:=by rw[←hZL];exact hi
  exact⟨Bv n,0,v1 (by show 0<(gX l n).rs.length;omega),World.block_lt_of_cell? W ⟨Bv n,i,none⟩ (v3 i hn hi'),by rw[Nat.zero_add];exact v3 i hn hi'⟩
 have CR:Hid (∀w',Below W.heap.size W w'→Calls Tryz.prog 184 #[.agg #[.slice (gX l n).ra (gX l n).rs.length (gX l n).rc,.slice (gX l n).ga (gX l n).gs.length (gX l n).gc,.slice (gX l n).sa (gX l n).ss.length (gX l n).sc],.slice a' (S.vs.getD n []).length c'] w' (fun e w''=>∃va vc ma mc,e=.returned (.tuple #[.agg #[.bool (cW (S.vs.getD n []) (gX l n).gs),.slice va (S.vs.getD n []).length vc],.slice ma (aZ (S.vs.getD n []) (gX l n).gs (gX l n).ss).length mc,.int .i64 0])∧IsAt w'.heap.size w''.heap.size w'' va (S.vs.getD n [])∧IsAt w'.heap.size w''.heap.size w'' ma (aZ (S.vs.getD n []) (gX l n).gs (gX l n).ss)∧Below w'.heap.size w' w'')):=fun w' hb=>by
  have h:=mB (gX l n).ra (gX l n).ga (gX l n).sa (gX l n).rc (gX l n).gc (gX l n).sc (gX l n).rs (gX l n).gs (gX l n).ss a' c' (S.vs.getD n []) w' (hx.below hb) (HZ.below hb) v2
  have e1:runD (gX l n).rs (gX l n).gs (gX l n).ss (S.vs.getD n [])=cW (S.vs.getD n []) (gX l n).gs:=if_pos hRE
  have e2:zU (gX l n).rs (gX l n).gs (gX l n).ss (S.vs.getD n [])=S.vs.getD n []:=if_pos hRE
  have e3:runM (gX l n).rs (gX l n).gs (gX l n).ss (S.vs.getD n [])=aZ (S.vs.getD n []) (gX l n).gs (gX l n).ss:=if_pos hRE
  rw[e1,e2,e3,hRE]at h
  exact h
 have hML:(aZ (S.vs.getD n []) (gX l n).gs (gX l n).ss).length≤(gX l n).ss.length:=by unfold aZ;split <;> simp[fF]
 have hs3:(gX l n).ss.length≤3:=(bL _ _ _ (dH HE).1).2.2.1
 have HML:Hid ((aZ (S.vs.getD n []) (gX l n).gs (gX l n).ss).length≤(gX l n).ss.length):=hML
 clear hx v1 v2 v3 HZ hRE HE hZL f1 ela HF
 generalize hM:aZ (S.vs.getD n []) (gX l n).gs (gX l n).ss=M at *
 clear hM
 generalize hZ:S.vs.getD n []=Z at *
 clear hZ
 generalize cW Z (gX l n).gs=DD at *
 have HKS:Hid (∀w',Below W.heap.size W w'→w'.cell? ⟨h,0,none⟩=some (.pointer (some ⟨p,0,none⟩))∧w'.cell? ⟨h,4,none⟩=some (.slice (some ⟨gv,0,none⟩) l.length vc)∧w'.cell? ⟨p,1,none⟩=some (.slice (some ⟨b,off,none⟩) l.length lc)∧w'.cell? ⟨b,off+n*3,none⟩=some (.slice (gX l n).ra (gX l n).rs.length (gX l n).rc)∧w'.cell? ⟨b,off+n*3+1,none⟩=some (.slice (gX l n).ga (gX l n).gs.length (gX l n).gc)∧w'.cell? ⟨b,off+n*3+2,none⟩=some (.slice (gX l n).sa (gX l n).ss.length (gX l n).sc)∧w'.cell? ⟨gv,n,none⟩=some (.slice a' Z.length c')∧Hid (Below W.heap.size W w')):=fun w' hb=>⟨aB hb x0,aB hb x4,aB hb x1,aB hb q0,aB hb q1,aB hb q2,aB hb v0,hb⟩
 go_cut [7,8] (fun m e wx=>∃ma mc,m=.slice ma M.length mc∧e=.int .i64 0∧IsAt W.heap.size wx.heap.size wx ma M∧Below W.heap.size W wx)
 case first=>
  clear x0 x1 x4 q0 q1 q2 v0 HML hML hs3 HG HSX D1 B1
  go_region_held3 (fun w'=>w'.cell? ⟨h,0,none⟩=some (.pointer (some ⟨p,0,none⟩))∧w'.cell? ⟨h,4,none⟩=some (.slice (some ⟨gv,0,none⟩) l.length vc)∧w'.cell? ⟨p,1,none⟩=some (.slice (some ⟨b,off,none⟩) l.length lc)∧w'.cell? ⟨b,off+n*3,none⟩=some (.slice (gX l n).ra (gX l n).rs.length (gX l n).rc)∧w'.cell? ⟨b,off+n*3+1,none⟩=some (.slice (gX l n).ga (gX l n).gs.length (gX l n).gc)∧w'.cell? ⟨b,off+n*3+2,none⟩=some (.slice (gX l n).sa (gX l n).ss.length (gX l n).sc)∧w'.cell? ⟨gv,n,none⟩=some (.slice a' Z.length c')∧Hid (Below W.heap.size W w')) ((refine HKS.out _ ?_;go_split_ands;repeat (first | assumption | exact Below.refl _ _ | exact Hid.out (by assumption) | refine aD ?_ | refine aA ?_ _ | refine aI ?_ (by first | exact Nat.le_refl _ | omega | (simp;done) | (simp at *;omega)) _ | refine aC ?_ (by assumption))))
   (first
    | (go_at_call 184;refine(CR.out _ ?_).mono ?_;(go_split_ands;exact Hid.out (by assumption));rintro e wb ⟨va',vc',ma,mc,rfl,hva,hma,hbb⟩;have hwb:=wJ hbb;(first | (obtain⟨t0,t1,tf⟩:=oT (V:=W) hbb rfl) | skip)))
  all_goals (go_wp2_with fail;go_meet)
  all_goals (
   have e2:W.heap.size≤wb.heap.size:=by first | exact hwb | (have h:=hwb;simp at h;omega)
   go_split_ands
   first
    | exact⟨ma,mc,rfl,rfl,(hma.below (aA (Below.refl _ _) _)).widen (by first | exact Nat.le_refl _ | (simp;done)) (by simp),Hid.out (by assumption)⟩
    | exact⟨ma,mc,rfl,rfl,((hma.set ⟨_,0,none⟩ _ (.inl (by first | (simp;done) | omega))).set ⟨_,1,none⟩ _ (.inl (by first | (simp;done) | omega))).widen (by first | exact Nat.le_refl _ | (simp;done)) (by simp),Hid.out (by assumption)⟩)
 case rest=>
  obtain⟨ma,mc,rfl,rfl,hma,hbc⟩:=hcut
  go_wp2_with fail
  refine(aO [0] _ 1 _ (by simp) rfl (cD _ _ _ (by simp))).mono ?_
  rintro e W2 ⟨rfl,rfl⟩
  have U:Below wc.heap.size wc (wc.alloc (.cells #[.int .i64 0] 22)):=aA (Below.refl _ _) _
  have UV:Below W.heap.size W (wc.alloc (.cells #[.int .i64 0] 22)):=aC hbc U
  have hMA:Hid (IsAt W.heap.size wc.heap.size (wc.alloc (.cells #[.int .i64 0] 22)) ma M):=hma.below U
  have D2:Hid (DoAt w0 (wc.alloc (.cells #[.int .i64 0] 22)) C h p la lc rc tc vc sa ra wa va sc l sh {S with wr:=fJ S.wr n k,st:=bZ sh k S.st ((aH (gX l n).ss).take 0) (M.take 0)} g0 c1 c2 c3 hi gr gw gv Br Bw Bv):=D1.out.below UV
  have B2:Hid (Below C w (wc.alloc (.cells #[.int .i64 0] 22))):=B1.out.trans (UV.mono D1.out.cs)
  have gW:Hid (g0<W.heap.size):=((D1.out.own.st.e (by decide)).2.2.1)
  clear U UV hma hbc HKS CR x0 x1 x4 q0 q1 q2 v0 D1 B1
  generalize wc.heap.size=hiM at *
  generalize (wc.alloc (.cells #[.int .i64 0] 22))=W3 at *
  go_wp2
  go_loopw [9,10,11,50] (fun _ _ _ i wr=>∃j:Nat,j≤M.length∧i=.int .i64 j∧Hid (DoAt w0 wr C h p la lc rc tc vc sa ra wa va sc l sh {S with wr:=fJ S.wr n k,st:=bZ sh k S.st ((aH (gX l n).ss).take j) (M.take j)} g0 c1 c2 c3 hi gr gw gv Br Bw Bv)∧Hid (IsAt W.heap.size hiM wr ma M)∧Hid (Below C w wr)) (fun _ _ _ i _=>M.length - (intOf i).toNat)
  case atStart=>exact⟨0,Nat.zero_le _,rfl,D2,hMA,B2⟩
  case round=>
   obtain⟨j,hj,rfl,hD,hA,hB⟩:=hrel
   clear D2 hMA B2
   by_cases hlt:j<M.length
   ·have i1:(j:Int)<(M.length:Int):=by omega
    have hjs:j<(gX l n).ss.length:=by omega
    obtain⟨bt,ot,ela,_,_,t2,hx⟩:=hD.out.reads hn
    obtain⟨b',off',ea,_,k0,_⟩:=hx.s j hjs
    clear hx
    obtain⟨bm,om,em,_,_,m0⟩:=hA.out j hlt
    have hkl:j<(aH (gX l n).ss).length:=by rw[dO];exact hjs
    have k1:wr.cell? ⟨b',off'+j*6,none⟩=some (.int .i64 ((aH (gX l n).ss).getD j 0)):=by rw[aBd _ j hjs];exact k0
    have HT:(aH (gX l n).ss).getD j 0∈aH (gX l n).ss:=by
     rw[List.getD_eq_getElem?_getD,List.getElem?_eq_getElem hkl]
     exact List.getElem_mem hkl
    obtain⟨hz,hz'⟩:=HG.out.s _ HT
    have HP:Hid (bZ sh k S.st ((aH (gX l n).ss).take (j+1)) (M.take (j+1))=if ((aH (gX l n).ss).getD j 0).toNat%sh=k then (bZ sh k S.st ((aH (gX l n).ss).take j) (M.take j)).set ((aH (gX l n).ss).getD j 0).toNat (M.getD j 0) else bZ sh k S.st ((aH (gX l n).ss).take j) (M.take j)):=rZ sh k _ _ _ j hkl hlt
    clear k0 HT
    generalize (aH (gX l n).ss).getD j 0=z at *
    obtain⟨c,rfl⟩:=Int.eq_ofNat_of_zero_le hz
    have hc8:c<8:=by omega
    have CL:Hid (∀wx,DoAt w0 wx C h p la lc rc tc vc sa ra wa va sc l sh {S with wr:=fJ S.wr n k,st:=bZ sh k S.st ((aH (gX l n).ss).take j) (M.take j)} g0 c1 c2 c3 hi gr gw gv Br Bw Bv→Calls Tryz.prog 242 #[.pointer (some ⟨h,0,none⟩),.int .i64 c,.int .i64 k] wx fun e w'=>e=.returned (.bool (c%sh==k))∧Below wx.heap.size wx w'):=fun wx hd=>wZ wx h p sh hd.h0 hd.p0 hs0 hs4 hc8
    have y0:=hD.out.h0
    have y1:=hD.out.p1
    rw[ela]at y1
    rw[ea]at t2
    subst em
    clear ela ea hz hz'
    generalize M.getD j 0=uu at *
    go_wp2_with fail
    refine(CL.out wr hD.out).mono ?_
    rintro e w1 ⟨rfl,hb1⟩
    have E1:Hid (DoAt w0 w1 C h p la lc rc tc vc sa ra wa va sc l sh {S with wr:=fJ S.wr n k,st:=bZ sh k S.st ((aH (gX l n).ss).take j) (M.take j)} g0 c1 c2 c3 hi gr gw gv Br Bw Bv):=hD.out.below hb1
    have F1:Hid (Below C w w1):=hB.out.trans (hb1.mono hD.out.cs)
    have A1:Hid (IsAt W.heap.size hiM w1 (some ⟨bm,om,none⟩) M):=hA.out.below hb1
    clear CL hb1 hD hB hA k1 m0 t2 y0 y1
    generalize hq:(c%sh==k)=q at *
    cases q
    ·have E2:Hid (DoAt w0 w1 C h p la lc rc tc vc sa ra wa va sc l sh {S with wr:=fJ S.wr n k,st:=bZ sh k S.st ((aH (gX l n).ss).take (j+1)) (M.take (j+1))} g0 c1 c2 c3 hi gr gw gv Br Bw Bv):=by
      have e:=HP.out
      rw[if_neg (by simp at hq;simpa using hq)]at e
      rw[e];exact E1.out
     clear E1 HP
     go_wp2
     go_roundw
     case rel=>exact⟨j+1,by omega,by go_num,E2,A1,F1⟩
     case measure=>simp[intOf];omega
    ·have y0:=E1.out.h0
     have y1:=E1.out.h1
     obtain⟨e1,e2,_,e4,e5⟩:=E1.out.own.st.e (by decide)
     have z0:=e4 c hc8
     have z1:=e5 c
     rw[e1]at y1
     have E2:Hid (DoAt w0 (w1.setCell ⟨g0,c,none⟩ (.int .i64 uu)) C h p la lc rc tc vc sa ra wa va sc l sh {S with wr:=fJ S.wr n k,st:=bZ sh k S.st ((aH (gX l n).ss).take (j+1)) (M.take (j+1))} g0 c1 c2 c3 hi gr gw gv Br Bw Bv∧Below C w (w1.setCell ⟨g0,c,none⟩ (.int .i64 uu))∧IsAt W.heap.size hiM (w1.setCell ⟨g0,c,none⟩ (.int .i64 uu)) (some ⟨bm,om,none⟩) M):=by
      have e:=HP.out
      rw[if_pos (by simpa using hq)]at e
      rw[e]
      exact⟨E1.out.to ((Below.refl _ _).setCell (by show C≤g0;exact e2) _) (E1.out.own.setS hc8 uu),F1.out.setCell (by show C≤g0;exact e2) _,A1.out.set ⟨g0,c,none⟩ _ (.inl gW.out)⟩
     generalize Value.int .i64 ((bZ sh k S.st ((aH (gX l n).ss).take j) (M.take j)).getD c 0)=old at *
     clear E1 HP e4 e5 e1 A1 F1
     go_wp2
     go_roundw
     case rel=>exact⟨j+1,by omega,by go_num,E2.out.1,E2.out.2.2,E2.out.2.1⟩
     case measure=>simp[intOf];omega
   ·have hjN:j=M.length:=by omega
    subst hjN
    have FX:Hid (DoAt w0 wr C h p la lc rc tc vc sa ra wa va sc l sh S9 g0 c1 c2 c3 hi gr gw gv Br Bw Bv):=by
     rw[HSX.out]
     have h:=hD.out
     rw[List.take_length,uL sh k _ _ _ (by rw[dO];exact HML.out)]at h
     exact h
    clear hD hA
    go_wp2
    go_end0
    exact⟨rfl,FX.out,hB.out⟩
end
end Go.Proofs.YtcgpkonfneofdaaGreatDoor
