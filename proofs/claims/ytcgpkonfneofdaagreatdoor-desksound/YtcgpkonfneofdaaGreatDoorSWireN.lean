/- Conditions: those that each theorem states. -/
import Derived.Test.YtcgpkonfneofdaaGreatDoorSDkC
set_option maxRecDepth 100000
set_option maxHeartbeats 8000000
namespace Go.Proofs.YtcgpkonfneofdaaGreatDoor
open Go.RowKit
theorem aN {w w':World} {P b i:Nat} {v:Value} (hg:w.grownBy w' (some P)) (hne:b≠P) (hc:w.cell? ⟨b,i,none⟩=some v):w'.cell? ⟨b,i,none⟩=some v:=hg.cell hc (fun e=>hne (by injection e))
theorem bS {w w':World} {P b:Nat} (hg:w.grownBy w' (some P)) (hne:b≠P) (hb:b<w.heap.size) (hc:∀i,w.frozen? ⟨b,i,none⟩=false):∀i,w'.frozen? ⟨b,i,none⟩=false:=fun i=>(World.frozen?_of_block (a:=⟨b,i,none⟩) (hg.block b hb (fun e=>hne (by injection e)))).trans (hc i)
theorem gb_up {w w' w2:World} {P:Nat} {row:Option Nat} (h:w.grownBy w' (some P)) (h2:w'.grownBy w2 row) (hr:∀j,row=some j→w.heap.size≤j):w.grownBy w2 (some P):=
 ⟨h2.os.trans h.os,h2.tape.trans h.tape,h2.output.trans h.output,Nat.le_trans h.size h2.size,fun b hb hP=>(h2.block b (Nat.lt_of_lt_of_le hb h.size) (fun e=>by have:=hr b e.symm;omega)).trans (h.block b hb hP)⟩
theorem dJ {w w':World} {P R:Nat} (h:w.grownBy w' (some P)) (hR:w.heap.size≤R) (i:Nat) (v:Value):w.grownBy (w'.setCell ⟨R,i,none⟩ v) (some P):=
 gb_up h (row:=some R) ⟨rfl,rfl,rfl,by simp,fun b _ hb=>Below.heap_setCell _ _ _ _ (fun e=>hb (by rw[e]))⟩ (fun j e=>by injection e with e;omega)
theorem RdS.set {P R i:Nat} {w:World} {bs:List Int} {v:Value} (h:RdS P w bs) (hne:R≠P):RdS P (w.setCell ⟨R,i,none⟩ v) bs:=
 h.kept (row:=some R) ⟨rfl,rfl,rfl,by simp,fun b _ hb=>Below.heap_setCell _ _ _ _ (fun e=>hb (by rw[e]))⟩ (fun e=>hne (by injection e with e;exact e.symm))
theorem put2 {w:World} {R:Nat} {u0 u1:Value} (v0 v1:Value) (t0:w.cell? ⟨R,0,none⟩=some u0) (t1:w.cell? ⟨R,1,none⟩=some u1):((w.setCell ⟨R,0,none⟩ v0).setCell ⟨R,1,none⟩ v1).cell? ⟨R,0,none⟩=some v0∧((w.setCell ⟨R,0,none⟩ v0).setCell ⟨R,1,none⟩ v1).cell? ⟨R,1,none⟩=some v1:=
 ⟨(aE (by decide) (aK t0)),(aK (aE (by decide) t1))⟩
theorem put3 {w:World} {R:Nat} {u0 u1 u2:Value} (v0 v1 v2:Value) (t0:w.cell? ⟨R,0,none⟩=some u0) (t1:w.cell? ⟨R,1,none⟩=some u1) (t2:w.cell? ⟨R,2,none⟩=some u2):(((w.setCell ⟨R,0,none⟩ v0).setCell ⟨R,1,none⟩ v1).setCell ⟨R,2,none⟩ v2).cell? ⟨R,0,none⟩=some v0∧(((w.setCell ⟨R,0,none⟩ v0).setCell ⟨R,1,none⟩ v1).setCell ⟨R,2,none⟩ v2).cell? ⟨R,1,none⟩=some v1∧(((w.setCell ⟨R,0,none⟩ v0).setCell ⟨R,1,none⟩ v1).setCell ⟨R,2,none⟩ v2).cell? ⟨R,2,none⟩=some v2:=
 ⟨(aE (by decide) (aE (by decide) (aK t0))),(aE (by decide) (aK (aE (by decide) t1))),(aK (aE (by decide) (aE (by decide) t2)))⟩
theorem putG5 {w:World} {R:Nat} {u0 u1 u2 u3 u4:Value} (v0 v1 v2 v3 v4:Value) (t0:w.cell? ⟨R,0,none⟩=some u0) (t1:w.cell? ⟨R,1,none⟩=some u1) (t2:w.cell? ⟨R,2,none⟩=some u2) (t3:w.cell? ⟨R,3,none⟩=some u3) (t4:w.cell? ⟨R,4,none⟩=some u4):(((((w.setCell ⟨R,0,none⟩ v0).setCell ⟨R,1,none⟩ v1).setCell ⟨R,2,none⟩ v2).setCell ⟨R,3,none⟩ v3).setCell ⟨R,4,none⟩ v4).cell? ⟨R,0,none⟩=some v0∧(((((w.setCell ⟨R,0,none⟩ v0).setCell ⟨R,1,none⟩ v1).setCell ⟨R,2,none⟩ v2).setCell ⟨R,3,none⟩ v3).setCell ⟨R,4,none⟩ v4).cell? ⟨R,1,none⟩=some v1∧(((((w.setCell ⟨R,0,none⟩ v0).setCell ⟨R,1,none⟩ v1).setCell ⟨R,2,none⟩ v2).setCell ⟨R,3,none⟩ v3).setCell ⟨R,4,none⟩ v4).cell? ⟨R,2,none⟩=some v2∧(((((w.setCell ⟨R,0,none⟩ v0).setCell ⟨R,1,none⟩ v1).setCell ⟨R,2,none⟩ v2).setCell ⟨R,3,none⟩ v3).setCell ⟨R,4,none⟩ v4).cell? ⟨R,3,none⟩=some v3∧(((((w.setCell ⟨R,0,none⟩ v0).setCell ⟨R,1,none⟩ v1).setCell ⟨R,2,none⟩ v2).setCell ⟨R,3,none⟩ v3).setCell ⟨R,4,none⟩ v4).cell? ⟨R,4,none⟩=some v4:=
 ⟨(aE (by decide) (aE (by decide) (aE (by decide) (aE (by decide) (aK t0))))),(aE (by decide) (aE (by decide) (aE (by decide) (aK (aE (by decide) t1))))),(aE (by decide) (aE (by decide) (aK (aE (by decide) (aE (by decide) t2))))),(aE (by decide) (aK (aE (by decide) (aE (by decide) (aE (by decide) t3))))),(aK (aE (by decide) (aE (by decide) (aE (by decide) (aE (by decide) t4)))))⟩
theorem put6 {w:World} {R:Nat} {u0 u1 u2 u3 u4 u5:Value} (v0 v1 v2 v3 v4 v5:Value) (t0:w.cell? ⟨R,0,none⟩=some u0) (t1:w.cell? ⟨R,1,none⟩=some u1) (t2:w.cell? ⟨R,2,none⟩=some u2) (t3:w.cell? ⟨R,3,none⟩=some u3) (t4:w.cell? ⟨R,4,none⟩=some u4) (t5:w.cell? ⟨R,5,none⟩=some u5):((((((w.setCell ⟨R,0,none⟩ v0).setCell ⟨R,1,none⟩ v1).setCell ⟨R,2,none⟩ v2).setCell ⟨R,3,none⟩ v3).setCell ⟨R,4,none⟩ v4).setCell ⟨R,5,none⟩ v5).cell? ⟨R,0,none⟩=some v0∧((((((w.setCell ⟨R,0,none⟩ v0).setCell ⟨R,1,none⟩ v1).setCell ⟨R,2,none⟩ v2).setCell ⟨R,3,none⟩ v3).setCell ⟨R,4,none⟩ v4).setCell ⟨R,5,none⟩ v5).cell? ⟨R,1,none⟩=some v1∧((((((w.setCell ⟨R,0,none⟩ v0).setCell ⟨R,1,none⟩ v1).setCell ⟨R,2,none⟩ v2).setCell ⟨R,3,none⟩ v3).setCell ⟨R,4,none⟩ v4).setCell ⟨R,5,none⟩ v5).cell? ⟨R,2,none⟩=some v2∧((((((w.setCell ⟨R,0,none⟩ v0).setCell ⟨R,1,none⟩ v1).setCell ⟨R,2,none⟩ v2).setCell ⟨R,3,none⟩ v3).setCell ⟨R,4,none⟩ v4).setCell ⟨R,5,none⟩ v5).cell? ⟨R,3,none⟩=some v3∧((((((w.setCell ⟨R,0,none⟩ v0).setCell ⟨R,1,none⟩ v1).setCell ⟨R,2,none⟩ v2).setCell ⟨R,3,none⟩ v3).setCell ⟨R,4,none⟩ v4).setCell ⟨R,5,none⟩ v5).cell? ⟨R,4,none⟩=some v4∧((((((w.setCell ⟨R,0,none⟩ v0).setCell ⟨R,1,none⟩ v1).setCell ⟨R,2,none⟩ v2).setCell ⟨R,3,none⟩ v3).setCell ⟨R,4,none⟩ v4).setCell ⟨R,5,none⟩ v5).cell? ⟨R,5,none⟩=some v5:=
 ⟨(aE (by decide) (aE (by decide) (aE (by decide) (aE (by decide) (aE (by decide) (aK t0)))))),(aE (by decide) (aE (by decide) (aE (by decide) (aE (by decide) (aK (aE (by decide) t1)))))),(aE (by decide) (aE (by decide) (aE (by decide) (aK (aE (by decide) (aE (by decide) t2)))))),(aE (by decide) (aE (by decide) (aK (aE (by decide) (aE (by decide) (aE (by decide) t3)))))),(aE (by decide) (aK (aE (by decide) (aE (by decide) (aE (by decide) (aE (by decide) t4)))))),(aK (aE (by decide) (aE (by decide) (aE (by decide) (aE (by decide) (aE (by decide) t5))))))⟩
theorem uF (l:List Int) (b:Int):eV (l++[b])=eV l*256+b:=by simp[eV,List.foldl_append]
theorem pD:∀(n:Nat) (l:List Int),l.length=n→Byt l→0≤eV l∧eV l<256 ^ l.length
 | 0,l,h,_=>by rw[List.length_eq_zero_iff]at h;subst h;simp[eV]
 | n+1,l,h,hB=>by
  obtain⟨l',b,rfl⟩:∃l' b,l=l'++[b]:=by
   have hne:l≠[]:=by intro e;subst e;simp at h
   exact⟨l.dropLast,l.getLast hne,(List.dropLast_concat_getLast hne).symm⟩
  have hl:=pD n l' (by simpa using h) (fun x hx=>hB x (List.mem_append_left _ hx))
  have hb:=hB b (by simp)
  rw[uF,List.length_append,List.length_singleton,Int.pow_succ]
  omega
theorem wA (l:List Int) (h:Byt l):0≤eV l∧eV l<256 ^ l.length:=pD _ l rfl h
theorem valN_small {l:List Int} (h:Byt l) (hl:l.length≤7):0≤eV l∧eV l<72057594037927936:=by
 obtain⟨h1,h2⟩:=wA l h
 refine⟨h1,Int.lt_of_lt_of_le h2 ?_⟩
 have:(256:Int) ^ l.length≤256 ^ 7:=by
  match l.length,hl with
  | 0,_=>decide
  | 1,_=>decide
  | 2,_=>decide
  | 3,_=>decide
  | 4,_=>decide
  | 5,_=>decide
  | 6,_=>decide
  | 7,_=>decide
 simpa using this
theorem sgn_wrap {v:Int} (h0:0≤v) (h1:v<18446744073709551616):IntKind.i64.wrap v=sgn v:=by
 simp[IntKind.wrap,IntKind.bits,IntKind.signed]
 unfold sgn
 split <;> omega
theorem valN_eight {l:List Int} (h:Byt l) (hl:l.length=8):IntKind.i64.wrap (eV l)=sgn (eV l):=by
 obtain⟨h1,h2⟩:=wA l h
 rw[hl]at h2
 exact sgn_wrap h1 (by simpa using h2)
theorem take_snoc {bs r:List Int} {k:Nat} {b:Int} (h:bs.drop k=b::r):bs.take (k+1)=bs.take k++[b]∧bs.drop (k+1)=r∧k<bs.length:=by
 have hk:k<bs.length:=by
  rcases Nat.lt_or_ge k bs.length with h1 | h1
  ·exact h1
  ·rw[List.drop_of_length_le h1]at h;cases h
 rw[List.drop_eq_getElem_cons hk]at h
 injection h with h1 h2
 exact⟨by rw[List.take_succ_eq_append_getElem hk,h1],h2,hk⟩
theorem or_next {v b:Int} (h0:0≤v) (h1:v<72057594037927936) (hb:0≤b∧b<256):bits .or .u64 (IntKind.u64.wrap (v*256)) (IntKind.u64.wrap b)=v*256+b:=by
 have e1:IntKind.u64.wrap (v*256)=v*256:=by rw[IntKind.wrap_u64];omega
 have e2:IntKind.u64.wrap b=b:=by rw[IntKind.wrap_u64];omega
 rw[e1,e2,or_u64 (by omega) (by omega) (by omega) hb.1 hb.2]
theorem zW (P:Nat) (bs:List Int) (w:World) (h:RdS P w bs) :
  Calls Tryz.prog 173 #[.pointer (some ⟨P,0,none⟩)] w fun e w'=>RdR P w (rdV bs) (fun n v _=>v=.int .i64 n) e w':=by
 have HB:Hid (Byt bs):=h.byt
 have H0:Hid (RdS P w bs):=h
 clear h
 go_enter Tryz.func173,Tryz.ntmps173
 go_wp2
 go_loopw [3,4] (fun v i wr=>∃k:Nat,k≤8∧i=.int .i64 k∧v=.int .u64 (eV (bs.take k))∧Hid (k≤bs.length)∧Hid (RdS P wr (bs.drop k))∧Hid (w.grownBy wr (some P))) (fun _ i _=>8 - (intOf i).toNat)
 case atStart=>exact⟨0,by omega,rfl,rfl,Nat.zero_le _,by simpa using H0,World.grownBy.refl _ _⟩
 case round=>
  obtain⟨k,hk,rfl,rfl,hkl,hR,hG⟩:=hrel
  by_cases hlt:k<8
  ·obtain⟨V,hV⟩:∃V,V=eV (bs.take k):=⟨_,rfl⟩
   have hVs:0≤V∧V<72057594037927936:=by rw[hV];exact valN_small (fun x hx=>HB.out x (List.mem_of_mem_take hx)) (by rw[List.length_take];omega)
   rw[←hV]
   cases hd:bs.drop k with
   | nil=>
    have hR2:Hid (RdS P wr []):=by have:=hR.out;rw[hd]at this;exact this
    have hn:Hid (rdV bs=none):=by
     have hl8:bs.length<8:=by have:=congrArg List.length hd;simp only[List.length_drop,List.length_nil]at this;omega
     show rdV bs=none
     unfold rdV
     rw[if_pos hl8]
    clear hR hd hV
    go_wp2_with fail
    refine(sG P _ hR2.out).mono ?_
    rintro e w1 ⟨rfl,g1⟩
    unfold dY
    go_wp2
    refine⟨rfl,hG.out.trans g1,?_⟩
    rw[hn.out];rfl
   | cons b r=>
    obtain⟨e1,e2,hkb⟩:=take_snoc hd
    have hR2:Hid (RdS P wr (b::r)):=by have:=hR.out;rw[hd]at this;exact this
    have hb:=hR2.out.byt b (by simp)
    have HN:Hid (eV (bs.take (k+1))=V*256+b):=by show _=_;rw[e1,uF,hV]
    have HD:Hid (bs.drop (k+1)=r):=e2
    have HO:Hid (bits .or .u64 (IntKind.u64.wrap (V*256)) (IntKind.u64.wrap b)=V*256+b):=or_next hVs.1 hVs.2 hb
    have HO2:Hid (bits .or .u64 (V*256) b=V*256+b):=or_u64 (by omega) (by omega) (by omega) hb.1 hb.2
    clear hR hd hV e1 e2
    go_wp2_with fail
    refine(uN P b r _ hR2.out).mono ?_
    rintro e w1 ⟨rfl,h1,g1⟩
    have H1:Hid (RdS P w1 r):=h1
    have G1:Hid (w.grownBy w1 (some P)):=hG.out.trans g1
    clear h1 g1 hG hR2
    go_wp2
    go_roundw
    case rel=>exact⟨k+1,by omega,by go_num,by rw[HN.out];first | exact congrArg _ HO2.out | exact congrArg _ HO.out,hkb,by rw[HD.out];exact H1,G1⟩
    case measure=>simp[intOf];omega
  ·have hk8:k=8:=by omega
   subst hk8
   have h8:=hkl.out
   have HE:Hid (IntKind.i64.wrap (eV (bs.take 8))=sgn (eV (bs.take 8))):=valN_eight (fun x hx=>HB.out x (List.mem_of_mem_take hx)) (by rw[List.length_take];omega)
   have hn:Hid (rdV bs=some (sgn (eV (bs.take 8)),bs.drop 8)):=by
    show rdV bs=_
    unfold rdV
    rw[if_neg (by omega)]
   have he:=HE.out
   go_wp2
   go_ret
   refine⟨hG.out,?_⟩
   rw[hn.out]
   exact⟨_,rfl,rfl,hR.out⟩
theorem dF (P:Nat) (bs:List Int) (w:World) (h:RdS P w bs) :
  Calls Tryz.prog 69 #[.pointer (some ⟨P,0,none⟩)] w fun e w'=>RdR P w (fH bs) (fun n v _=>v=.int .i64 n) e w':=by
 cases bs with
 | nil=>exact(sG P w h).mono fun e w' ⟨h1,h2⟩=>⟨h2,h1⟩
 | cons b r=>exact(uN P b r w h).mono fun e w' ⟨h1,h2,h3⟩=>⟨h3,_,h1,rfl,h2⟩
theorem fR (P:Nat) (bs:List Int) (w:World) (h:RdS P w bs) :
  Calls Tryz.prog 143 #[.pointer (some ⟨P,0,none⟩)] w fun e w'=>RdR P w (oN bs) (fun o v _=>v=.agg #[.int .i64 o.1,.int .i64 o.2]) e w':=by
 have hP:=h.lt
 obtain⟨W,hWe⟩:∃W,W=w.alloc (.cells #[.int .i64 0,.int .i64 0] 97):=⟨_,rfl⟩
 have HWE:Hid (W=w.alloc (.cells #[.int .i64 0,.int .i64 0] 97)):=hWe
 have H0:Hid (RdS P W bs):=by subst hWe;exact h.alloc _
 have G0:Hid (w.grownBy W (some P)):=by subst hWe;exact World.grownBy_alloc _ _ _
 have S0:Hid (w.heap.size<W.heap.size):=by subst hWe;show _<_;simp
 have c0:W.cell? ⟨w.heap.size,0,none⟩=some (.int .i64 0):=by subst hWe;simp
 have c1:W.cell? ⟨w.heap.size,1,none⟩=some (.int .i64 0):=by subst hWe;simp
 have f0:∀i,W.frozen? ⟨w.heap.size,i,none⟩=false:=by subst hWe;intro i;simp
 have hR:w.heap.size≠P:=by omega
 clear h hWe
 go_enter Tryz.func143,Tryz.ntmps143
 go_upto_region 1 with fail
 rw[←HWE.out]
 go_wp2_with fail
 refine(dF P bs _ H0.out).mono ?_
 rintro e w1 ⟨g,hm⟩
 cases hc:fH bs with
 | none=>
  rw[hc]at hm
  have HG:Hid (oN bs=none):=by
   show oN bs=none
   simp[oN,hc]
  subst hm
  unfold dY
  go_wp2
  refine⟨rfl,G0.out.trans g,?_⟩
  rw[HG.out];rfl
 | some p=>
  obtain⟨kd,r1⟩:=p
  rw[hc]at hm
  obtain⟨v,rfl,rfl,h1⟩:=hm
  have HC1:Hid (fH bs=some (kd,r1)):=hc
  have H1:Hid (RdS P w1 r1):=h1
  have G1:Hid (w.grownBy w1 (some P)):=G0.out.trans g
  have c0:=aN g hR c0
  have c1:=aN g hR c1
  have f0:=bS g hR S0.out f0
  have S1:Hid (w.heap.size<w1.heap.size):=Nat.lt_of_lt_of_le S0.out g.size
  clear h1 g hc
  go_wp2_with fail
  refine(zW P r1 _ H1.out).mono ?_
  rintro e w2 ⟨g,hm⟩
  cases hc:rdV r1 with
  | none=>
   rw[hc]at hm
   have HG:Hid (oN bs=none):=by
    show oN bs=none
    simp[oN,HC1.out,hc]
   subst hm
   unfold dY
   go_wp2
   refine⟨rfl,G1.out.trans g,?_⟩
   rw[HG.out];rfl
  | some p=>
   obtain⟨n,r2⟩:=p
   rw[hc]at hm
   obtain⟨v,rfl,rfl,h1⟩:=hm
   have HC2:Hid (rdV r1=some (n,r2)):=hc
   have H2:Hid (RdS P w2 r2):=h1
   have G2:Hid (w.grownBy w2 (some P)):=G1.out.trans g
   have c0:=aN g hR c0
   have c1:=aN g hR c1
   have f0:=bS g hR S1.out f0
   have S2:Hid (w.heap.size<w2.heap.size):=Nat.lt_of_lt_of_le S1.out g.size
   clear h1 g hc
   have HG:Hid (oN bs=some ((kd,n),r2)):=by
    show oN bs=_
    simp[oN,HC1.out,HC2.out]
   obtain⟨y0,y1⟩:=put2 (.int .i64 kd) (.int .i64 n) c0 c1
   go_wp2_with fail
   refine bodyPost_ret (v:=.agg #[.int .i64 kd,.int .i64 n]) (by simp[results,Tryz.results143,go_sem,y0,y1]) rfl ⟨(dJ (dJ G2.out (Nat.le_refl _) 0 _) (Nat.le_refl _) 1 _),?_⟩
   rw[HG.out]
   exact⟨_,rfl,rfl,((H2.out.set hR).set hR)⟩
theorem aAd (P:Nat) (bs:List Int) (w:World) (h:RdS P w bs) :
  Calls Tryz.prog 110 #[.pointer (some ⟨P,0,none⟩)] w fun e w'=>RdR P w (kJ bs) (fun x v _=>v=.agg #[.int .i64 x.k,.int .i64 x.ak,.int .i64 x.an,.int .i64 x.bk,.int .i64 x.bn]) e w':=by
 have hP:=h.lt
 obtain⟨W,hWe⟩:∃W,W=w.alloc (.cells #[.int .i64 0,.int .i64 0,.int .i64 0,.int .i64 0,.int .i64 0] 99):=⟨_,rfl⟩
 have HWE:Hid (W=w.alloc (.cells #[.int .i64 0,.int .i64 0,.int .i64 0,.int .i64 0,.int .i64 0] 99)):=hWe
 have H0:Hid (RdS P W bs):=by subst hWe;exact h.alloc _
 have G0:Hid (w.grownBy W (some P)):=by subst hWe;exact World.grownBy_alloc _ _ _
 have S0:Hid (w.heap.size<W.heap.size):=by subst hWe;show _<_;simp
 have c0:W.cell? ⟨w.heap.size,0,none⟩=some (.int .i64 0):=by subst hWe;simp
 have c1:W.cell? ⟨w.heap.size,1,none⟩=some (.int .i64 0):=by subst hWe;simp
 have c2:W.cell? ⟨w.heap.size,2,none⟩=some (.int .i64 0):=by subst hWe;simp
 have c3:W.cell? ⟨w.heap.size,3,none⟩=some (.int .i64 0):=by subst hWe;simp
 have c4:W.cell? ⟨w.heap.size,4,none⟩=some (.int .i64 0):=by subst hWe;simp
 have f0:∀i,W.frozen? ⟨w.heap.size,i,none⟩=false:=by subst hWe;intro i;simp
 have hR:w.heap.size≠P:=by omega
 clear h hWe
 go_enter Tryz.func110,Tryz.ntmps110
 go_upto_region 1 with fail
 rw[←HWE.out]
 go_wp2_with fail
 refine(dF P bs _ H0.out).mono ?_
 rintro e w1 ⟨g,hm⟩
 cases hc:fH bs with
 | none=>
  rw[hc]at hm
  have HG:Hid (kJ bs=none):=by
   show kJ bs=none
   simp[kJ,hc]
  subst hm
  unfold dY
  go_wp2
  refine⟨rfl,G0.out.trans g,?_⟩
  rw[HG.out];rfl
 | some p=>
  obtain⟨kd,r1⟩:=p
  rw[hc]at hm
  obtain⟨v,rfl,rfl,h1⟩:=hm
  have HC1:Hid (fH bs=some (kd,r1)):=hc
  have H1:Hid (RdS P w1 r1):=h1
  have G1:Hid (w.grownBy w1 (some P)):=G0.out.trans g
  have c0:=aN g hR c0
  have c1:=aN g hR c1
  have c2:=aN g hR c2
  have c3:=aN g hR c3
  have c4:=aN g hR c4
  have f0:=bS g hR S0.out f0
  have S1:Hid (w.heap.size<w1.heap.size):=Nat.lt_of_lt_of_le S0.out g.size
  clear h1 g hc
  go_wp2_with fail
  refine(fR P r1 _ H1.out).mono ?_
  rintro e w2 ⟨g,hm⟩
  cases hc:oN r1 with
  | none=>
   rw[hc]at hm
   have HG:Hid (kJ bs=none):=by
    show kJ bs=none
    simp[kJ,HC1.out,hc]
   subst hm
   unfold dY
   go_wp2
   refine⟨rfl,G1.out.trans g,?_⟩
   rw[HG.out];rfl
  | some p=>
   obtain⟨⟨ak,an⟩,r2⟩:=p
   rw[hc]at hm
   obtain⟨v,rfl,rfl,h1⟩:=hm
   have HC2:Hid (oN r1=some ((ak,an),r2)):=hc
   have H2:Hid (RdS P w2 r2):=h1
   have G2:Hid (w.grownBy w2 (some P)):=G1.out.trans g
   have c0:=aN g hR c0
   have c1:=aN g hR c1
   have c2:=aN g hR c2
   have c3:=aN g hR c3
   have c4:=aN g hR c4
   have f0:=bS g hR S1.out f0
   have S2:Hid (w.heap.size<w2.heap.size):=Nat.lt_of_lt_of_le S1.out g.size
   clear h1 g hc
   go_wp2_with fail
   refine(fR P r2 _ H2.out).mono ?_
   rintro e w3 ⟨g,hm⟩
   cases hc:oN r2 with
   | none=>
    rw[hc]at hm
    have HG:Hid (kJ bs=none):=by
     show kJ bs=none
     simp[kJ,HC1.out,HC2.out,hc]
    subst hm
    unfold dY
    go_wp2
    refine⟨rfl,G2.out.trans g,?_⟩
    rw[HG.out];rfl
   | some p=>
    obtain⟨⟨bk,bn⟩,r3⟩:=p
    rw[hc]at hm
    obtain⟨v,rfl,rfl,h1⟩:=hm
    have HC3:Hid (oN r2=some ((bk,bn),r3)):=hc
    have H3:Hid (RdS P w3 r3):=h1
    have G3:Hid (w.grownBy w3 (some P)):=G2.out.trans g
    have c0:=aN g hR c0
    have c1:=aN g hR c1
    have c2:=aN g hR c2
    have c3:=aN g hR c3
    have c4:=aN g hR c4
    have f0:=bS g hR S2.out f0
    have S3:Hid (w.heap.size<w3.heap.size):=Nat.lt_of_lt_of_le S2.out g.size
    clear h1 g hc
    have HG:Hid (kJ bs=some ((⟨kd,ak,an,bk,bn⟩:Gd),r3)):=by
     show kJ bs=_
     simp[kJ,HC1.out,HC2.out,HC3.out]
    obtain⟨y0,y1,y2,y3,y4⟩:=putG5 (.int .i64 kd) (.int .i64 ak) (.int .i64 an) (.int .i64 bk) (.int .i64 bn) c0 c1 c2 c3 c4
    go_wp2_with fail
    refine bodyPost_ret (v:=.agg #[.int .i64 kd,.int .i64 ak,.int .i64 an,.int .i64 bk,.int .i64 bn]) (by simp[results,Tryz.results110,go_sem,y0,y1,y2,y3,y4]) rfl ⟨(dJ (dJ (dJ (dJ (dJ G3.out (Nat.le_refl _) 0 _) (Nat.le_refl _) 1 _) (Nat.le_refl _) 2 _) (Nat.le_refl _) 3 _) (Nat.le_refl _) 4 _),?_⟩
    rw[HG.out]
    exact⟨_,rfl,rfl,(((((H3.out.set hR).set hR).set hR).set hR).set hR)⟩
theorem rdSet_any (P:Nat) (bs:List Int) (w:World) (h:RdS P w bs) :
  Calls Tryz.prog 112 #[.pointer (some ⟨P,0,none⟩)] w fun e w'=>RdR P w (jF bs) (fun x v _=>v=.agg #[.int .i64 x.key,.int .i64 x.op,.int .i64 x.ak,.int .i64 x.an,.int .i64 x.bk,.int .i64 x.bn]) e w':=by
 have hP:=h.lt
 obtain⟨W,hWe⟩:∃W,W=w.alloc (.cells #[.int .i64 0,.int .i64 0,.int .i64 0,.int .i64 0,.int .i64 0,.int .i64 0] 102):=⟨_,rfl⟩
 have HWE:Hid (W=w.alloc (.cells #[.int .i64 0,.int .i64 0,.int .i64 0,.int .i64 0,.int .i64 0,.int .i64 0] 102)):=hWe
 have H0:Hid (RdS P W bs):=by subst hWe;exact h.alloc _
 have G0:Hid (w.grownBy W (some P)):=by subst hWe;exact World.grownBy_alloc _ _ _
 have S0:Hid (w.heap.size<W.heap.size):=by subst hWe;show _<_;simp
 have c0:W.cell? ⟨w.heap.size,0,none⟩=some (.int .i64 0):=by subst hWe;simp
 have c1:W.cell? ⟨w.heap.size,1,none⟩=some (.int .i64 0):=by subst hWe;simp
 have c2:W.cell? ⟨w.heap.size,2,none⟩=some (.int .i64 0):=by subst hWe;simp
 have c3:W.cell? ⟨w.heap.size,3,none⟩=some (.int .i64 0):=by subst hWe;simp
 have c4:W.cell? ⟨w.heap.size,4,none⟩=some (.int .i64 0):=by subst hWe;simp
 have c5:W.cell? ⟨w.heap.size,5,none⟩=some (.int .i64 0):=by subst hWe;simp
 have f0:∀i,W.frozen? ⟨w.heap.size,i,none⟩=false:=by subst hWe;intro i;simp
 have hR:w.heap.size≠P:=by omega
 clear h hWe
 go_enter Tryz.func112,Tryz.ntmps112
 go_upto_region 1 with fail
 rw[←HWE.out]
 go_wp2_with fail
 refine(dF P bs _ H0.out).mono ?_
 rintro e w1 ⟨g,hm⟩
 cases hc:fH bs with
 | none=>
  rw[hc]at hm
  have HG:Hid (jF bs=none):=by
   show jF bs=none
   simp[jF,hc]
  subst hm
  unfold dY
  go_wp2
  refine⟨rfl,G0.out.trans g,?_⟩
  rw[HG.out];rfl
 | some p=>
  obtain⟨kd,r1⟩:=p
  rw[hc]at hm
  obtain⟨v,rfl,rfl,h1⟩:=hm
  have HC1:Hid (fH bs=some (kd,r1)):=hc
  have H1:Hid (RdS P w1 r1):=h1
  have G1:Hid (w.grownBy w1 (some P)):=G0.out.trans g
  have c0:=aN g hR c0
  have c1:=aN g hR c1
  have c2:=aN g hR c2
  have c3:=aN g hR c3
  have c4:=aN g hR c4
  have c5:=aN g hR c5
  have f0:=bS g hR S0.out f0
  have S1:Hid (w.heap.size<w1.heap.size):=Nat.lt_of_lt_of_le S0.out g.size
  clear h1 g hc
  go_wp2_with fail
  refine(dF P r1 _ H1.out).mono ?_
  rintro e w2 ⟨g,hm⟩
  cases hc:fH r1 with
  | none=>
   rw[hc]at hm
   have HG:Hid (jF bs=none):=by
    show jF bs=none
    simp[jF,HC1.out,hc]
   subst hm
   unfold dY
   go_wp2
   refine⟨rfl,G1.out.trans g,?_⟩
   rw[HG.out];rfl
  | some p=>
   obtain⟨op,r2⟩:=p
   rw[hc]at hm
   obtain⟨v,rfl,rfl,h1⟩:=hm
   have HC2:Hid (fH r1=some (op,r2)):=hc
   have H2:Hid (RdS P w2 r2):=h1
   have G2:Hid (w.grownBy w2 (some P)):=G1.out.trans g
   have c0:=aN g hR c0
   have c1:=aN g hR c1
   have c2:=aN g hR c2
   have c3:=aN g hR c3
   have c4:=aN g hR c4
   have c5:=aN g hR c5
   have f0:=bS g hR S1.out f0
   have S2:Hid (w.heap.size<w2.heap.size):=Nat.lt_of_lt_of_le S1.out g.size
   clear h1 g hc
   go_wp2_with fail
   refine(fR P r2 _ H2.out).mono ?_
   rintro e w3 ⟨g,hm⟩
   cases hc:oN r2 with
   | none=>
    rw[hc]at hm
    have HG:Hid (jF bs=none):=by
     show jF bs=none
     simp[jF,HC1.out,HC2.out,hc]
    subst hm
    unfold dY
    go_wp2
    refine⟨rfl,G2.out.trans g,?_⟩
    rw[HG.out];rfl
   | some p=>
    obtain⟨⟨ak,an⟩,r3⟩:=p
    rw[hc]at hm
    obtain⟨v,rfl,rfl,h1⟩:=hm
    have HC3:Hid (oN r2=some ((ak,an),r3)):=hc
    have H3:Hid (RdS P w3 r3):=h1
    have G3:Hid (w.grownBy w3 (some P)):=G2.out.trans g
    have c0:=aN g hR c0
    have c1:=aN g hR c1
    have c2:=aN g hR c2
    have c3:=aN g hR c3
    have c4:=aN g hR c4
    have c5:=aN g hR c5
    have f0:=bS g hR S2.out f0
    have S3:Hid (w.heap.size<w3.heap.size):=Nat.lt_of_lt_of_le S2.out g.size
    clear h1 g hc
    go_wp2_with fail
    refine(fR P r3 _ H3.out).mono ?_
    rintro e w4 ⟨g,hm⟩
    cases hc:oN r3 with
    | none=>
     rw[hc]at hm
     have HG:Hid (jF bs=none):=by
      show jF bs=none
      simp[jF,HC1.out,HC2.out,HC3.out,hc]
     subst hm
     unfold dY
     go_wp2
     refine⟨rfl,G3.out.trans g,?_⟩
     rw[HG.out];rfl
    | some p=>
     obtain⟨⟨bk,bn⟩,r4⟩:=p
     rw[hc]at hm
     obtain⟨v,rfl,rfl,h1⟩:=hm
     have HC4:Hid (oN r3=some ((bk,bn),r4)):=hc
     have H4:Hid (RdS P w4 r4):=h1
     have G4:Hid (w.grownBy w4 (some P)):=G3.out.trans g
     have c0:=aN g hR c0
     have c1:=aN g hR c1
     have c2:=aN g hR c2
     have c3:=aN g hR c3
     have c4:=aN g hR c4
     have c5:=aN g hR c5
     have f0:=bS g hR S3.out f0
     have S4:Hid (w.heap.size<w4.heap.size):=Nat.lt_of_lt_of_le S3.out g.size
     clear h1 g hc
     have HG:Hid (jF bs=some ((⟨kd,op,ak,an,bk,bn⟩:St),r4)):=by
      show jF bs=_
      simp[jF,HC1.out,HC2.out,HC3.out,HC4.out]
     obtain⟨y0,y1,y2,y3,y4,y5⟩:=put6 (.int .i64 kd) (.int .i64 op) (.int .i64 ak) (.int .i64 an) (.int .i64 bk) (.int .i64 bn) c0 c1 c2 c3 c4 c5
     go_wp2_with fail
     refine bodyPost_ret (v:=.agg #[.int .i64 kd,.int .i64 op,.int .i64 ak,.int .i64 an,.int .i64 bk,.int .i64 bn]) (by simp[results,Tryz.results112,go_sem,y0,y1,y2,y3,y4,y5]) rfl ⟨(dJ (dJ (dJ (dJ (dJ (dJ G4.out (Nat.le_refl _) 0 _) (Nat.le_refl _) 1 _) (Nat.le_refl _) 2 _) (Nat.le_refl _) 3 _) (Nat.le_refl _) 4 _) (Nat.le_refl _) 5 _),?_⟩
     rw[HG.out]
     exact⟨_,rfl,rfl,((((((H4.out.set hR).set hR).set hR).set hR).set hR).set hR)⟩
end Go.Proofs.YtcgpkonfneofdaaGreatDoor
