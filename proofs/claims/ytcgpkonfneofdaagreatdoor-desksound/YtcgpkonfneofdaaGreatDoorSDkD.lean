/- Conditions: those that each theorem states. -/
import Derived.Test.YtcgpkonfneofdaaGreatDoorSDkC
set_option maxRecDepth 100000
set_option maxHeartbeats 8000000
namespace Go.Proofs.YtcgpkonfneofdaaGreatDoor
open Go.RowKit
structure NewRow (lo:Nat) (w:World) (a:Option Addr) (c g n:Nat) (G:Nat→Value):Prop where
 e:0<n→a=some ⟨g,0,none⟩∧lo≤g∧g<w.heap.size∧(∀k,k<n→w.cell? ⟨g,k,none⟩=some (G k))∧∀k,w.frozen? ⟨g,k,none⟩=false
 z:a=none→c=0
 lo:∀ad,a=some ad→lo≤ad.block
theorem NewRow.below {lo:Nat} {w w':World} {a:Option Addr} {c g n:Nat} {G:Nat→Value} (h:NewRow lo w a c g n G) (hb:Below w.heap.size w w'):NewRow lo w' a c g n G:=
 ⟨fun hn=>by
  obtain⟨h1,h2,h3,h4,h5⟩:=h.e hn
  exact⟨h1,h2,Nat.lt_of_lt_of_le h3 hb.size,fun k hk=>aB hb (h4 k hk),fun k=>(hb.frozen (p:=⟨g,k,none⟩) h3).trans (h5 k)⟩,h.z,h.lo⟩
theorem new_row {w:World} {C e:Nat} {v:Value} {n:Nat} {G:Nat→Value} (h:w.ownsRow C e 1 v n ((List.range n).map G)):∃a' c' g,v=.slice a' n c'∧NewRow C w a' c' g n G:=by
 rcases h.2 with ⟨rfl,h0⟩ | ⟨g,cap,cur,rfl,hb,hg,_⟩
 ·exact⟨none,0,0,by rw[h0],⟨(fun hn=>by omega),fun _=>rfl,(fun ad e=>by cases e)⟩⟩
 ·refine⟨some ⟨g,0,none⟩,cap,g,rfl,⟨fun hn=>⟨rfl,hb,(Array.getElem?_eq_some_iff.1 hg).1,fun k hk=>?_,fun k=>h.frozenAt k⟩,(fun e=>by cases e),(fun ad e=>by injection e with e;subst e;exact hb)⟩⟩
  have hc:=h.cells (g:=g) rfl k (G k) (by simp[hk])
  rw[bC,Nat.zero_add]at hc
  exact hc
theorem sJ (w:World) (v:Value) (ty s:Nat) (hs:s=w.heap.size):∀j u,[v][j]?=some u→(w.alloc (.cells #[v] ty)).cell? ((⟨s,0,none⟩:Addr).add j)=some u:=by
 subst hs
 intro j u hj
 match j,hj with
 | 0,hj=>simp at hj;subst hj;simp[Addr.add]
theorem one_sl (a:Option Addr) (n c:Nat):∀u∈[Value.slice a n c],u.oneCell'=true:=by
 intro u hu
 simp at hu
 subst hu;rfl
def IsGR (w:World) (a:Option Addr) (n:Nat) (len:Nat→Nat) (G:Nat→Nat→Value):Prop:=
 ∀i,i<n→∃b off a' c',a=some ⟨b,off,none⟩∧b<w.heap.size∧w.cell? ⟨b,off+i,none⟩=some (.slice a' (len i) c')∧∀k,k<len i→∃b' off',a'=some ⟨b',off',none⟩∧b'<w.heap.size∧w.cell? ⟨b',off'+k,none⟩=some (G i k)
structure OR (lo hi:Nat) (w:World) (a:Option Addr) (n:Nat) (len:Nat→Nat) (G:Nat→Nat→Value) (g:Nat) (B:Nat→Nat):Prop where
 ad:0<n→a=some ⟨g,0,none⟩∧lo≤g∧g<hi
 o:∀i,i<n→∃a' c,w.cell? ⟨g,i,none⟩=some (.slice a' (len i) c)∧(0<len i→a'=some ⟨B i,0,none⟩)∧(a'=none→c=0)∧∀ad,a'=some ad→lo≤ad.block
 b:∀i,i<n→0<len i→lo≤B i∧B i<hi∧B i≠g
 d:∀i j,i<n→j<n→i≠j→0<len i→0<len j→B i≠B j
 c:∀i k,i<n→k<len i→w.cell? ⟨B i,k,none⟩=some (G i k)
 f:∀i k,i<n→0<len i→w.frozen? ⟨B i,k,none⟩=false
structure CR (T C:Nat) (w:World) (v:Value) (k:Nat) (len:Nat→Nat) (G:Nat→Nat→Value) (L:List (Option Addr×Nat×Nat)) (B:Nat→Nat):Prop where
 n:L.length=k
 o:w.ownsRow C T 1 v L.length (L.map fun p=>Value.slice p.1 p.2.1 p.2.2)
 e:∀i,i<k→(L.getD i (none,0,0)).2.1=len i∧(0<len i→(L.getD i (none,0,0)).1=some ⟨B i,0,none⟩)∧((L.getD i (none,0,0)).1=none→(L.getD i (none,0,0)).2.2=0)∧∀ad,(L.getD i (none,0,0)).1=some ad→C≤ad.block
 b:∀i,i<k→0<len i→C≤B i∧B i<w.heap.size∧v.ownBlock≠some (B i)
 d:∀i j,i<k→j<k→i≠j→0<len i→0<len j→B i≠B j
 c:∀i m,i<k→m<len i→w.cell? ⟨B i,m,none⟩=some (G i m)
 f:∀i m,i<k→0<len i→w.frozen? ⟨B i,m,none⟩=false
theorem CR.nil (T C:Nat) (w:World) (len:Nat→Nat) (G:Nat→Nat→Value) (B:Nat→Nat):CR T C w (.slice none 0 0) 0 len G [] B:=
 ⟨rfl,World.ownsRow_nil _ _ _ _,fun _ hi=>absurd hi (Nat.not_lt_zero _),fun _ hi=>absurd hi (Nat.not_lt_zero _),fun _ _ hi=>absurd hi (Nat.not_lt_zero _),fun _ _ hi=>absurd hi (Nat.not_lt_zero _),fun _ _ hi=>absurd hi (Nat.not_lt_zero _)⟩
theorem CR.below {T C:Nat} {w w':World} {v:Value} {k:Nat} {len:Nat→Nat} {G:Nat→Nat→Value} {L:List (Option Addr×Nat×Nat)} {B:Nat→Nat} (h:CR T C w v k len G L B) (hb:Below w.heap.size w w'):CR T C w' v k len G L B:=
 ⟨h.n,dA h.o hb,h.e,fun i hi hl=>⟨(h.b i hi hl).1,Nat.lt_of_lt_of_le (h.b i hi hl).2.1 hb.size,(h.b i hi hl).2.2⟩,h.d,fun i m hi hm=>aB hb (h.c i m hi hm),fun i m hi hl=>(hb.frozen (p:=⟨B i,m,none⟩) (h.b i hi hl).2.1).trans (h.f i m hi hl)⟩
theorem CR.push {T C sz:Nat} {w w':World} {v v':Value} {k:Nat} {len:Nat→Nat} {G:Nat→Nat→Value} {L:List (Option Addr×Nat×Nat)} {B:Nat→Nat} {a:Option Addr} {c g:Nat} (h:CR T C w v k len G L B) (hk:L.length=k)
  (ho:w'.ownsRow C T 1 v' (L.length+1) ((L.map fun p=>Value.slice p.1 p.2.1 p.2.2)++[.slice a (len k) c])) (hg:w.grownBy w' v.ownBlock) (hv:v'.ownBlock=v.ownBlock∨v'.ownBlock=some w.heap.size)
  (hn:NewRow sz w a c g (len k) (G k)) (hC:C≤sz) (hvl:∀j,v.ownBlock=some j→j<sz) (hBl:∀i,i<k→0<len i→B i<sz) (B':Nat→Nat) (hB1:B' k=g) (hB2:∀i,i≠k→B' i=B i):CR T C w' v' (k+1) len G (L++[(a,len k,c)]) B':=by
 have far:∀b,v.ownBlock≠some b→b<w.heap.size→v'.ownBlock≠some b:=fun b h1 h2 e=>by
  rcases hv with x | x
  ·rw[x]at e;exact h1 e
  ·rw[x]at e;injection e with e;omega
 have gfar:0<len k→v.ownBlock≠some g:=fun hl e=>by have:=hvl g e;have:=(hn.e hl).2.1;omega
 refine⟨by rw[List.length_append,List.length_singleton,hk],by rw[List.length_append,List.map_append];exact ho,fun i hi=>?_,fun i hi hl=>?_,fun i j hi hj hne hli hlj=>?_,fun i m hi hm=>?_,fun i m hi hl=>?_⟩
 ·rcases qX L (a,len k,c) (none,0,0) i (by rw[List.length_append,List.length_singleton];omega) with ⟨q1,q2⟩ | ⟨q1,q2⟩
  ·rw[q2,hB2 i (by omega)];exact h.e i (by omega)
  ·rw[q2]
   have e:i=k:=by omega
   subst e
   rw[hB1]
   exact⟨rfl,fun hl=>(hn.e hl).1,hn.z,fun ad e=>Nat.le_trans hC (hn.lo ad e)⟩
 ·by_cases e:i=k
  ·subst e
   rw[hB1]
   obtain⟨_,n2,n3,_,_⟩:=hn.e hl
   exact⟨by omega,Nat.lt_of_lt_of_le n3 hg.size,far g (gfar hl) n3⟩
  ·rw[hB2 i e]
   obtain⟨b1,b2,b3⟩:=h.b i (by omega) hl
   exact⟨b1,Nat.lt_of_lt_of_le b2 hg.size,far _ b3 b2⟩
 ·by_cases e:i=k
  ·subst e
   have e2:¬j=i:=fun q=>hne q.symm
   rw[hB1,hB2 j e2]
   have:=hBl j (by omega) hlj
   have:=(hn.e hli).2.1
   omega
  ·by_cases e2:j=k
   ·subst e2
    rw[hB1,hB2 i e]
    have:=hBl i (by omega) hli
    have:=(hn.e hlj).2.1
    omega
   ·rw[hB2 i e,hB2 j e2]
    exact h.d i j (by omega) (by omega) hne hli hlj
 ·by_cases e:i=k
  ·subst e
   rw[hB1]
   obtain⟨_,n2,n3,n4,_⟩:=hn.e (by omega)
   exact hg.cell (n4 m hm) (fun q=>gfar (by omega) q.symm)
  ·rw[hB2 i e]
   exact hg.cell (h.c i m (by omega) hm) (fun q=>(h.b i (by omega) (by omega)).2.2 q.symm)
 ·by_cases e:i=k
  ·subst e
   rw[hB1]
   obtain⟨_,n2,n3,_,n5⟩:=hn.e hl
   exact(World.frozen?_of_block (a:=⟨g,m,none⟩) (hg.block g n3 (fun q=>gfar hl q.symm))).trans (n5 m)
  ·rw[hB2 i e]
   obtain⟨b1,b2,b3⟩:=h.b i (by omega) hl
   exact(World.frozen?_of_block (a:=⟨B i,m,none⟩) (hg.block (B i) b2 (fun q=>b3 q.symm))).trans (h.f i m (by omega) hl)
theorem CR.fin {T C:Nat} {w:World} {v:Value} {k:Nat} {len:Nat→Nat} {G:Nat→Nat→Value} {L:List (Option Addr×Nat×Nat)} {B:Nat→Nat} (h:CR T C w v k len G L B):∃a c g,v=.slice a k c∧OR C w.heap.size w a k len G g B:=by
 have hk:=h.n
 rcases h.o.2 with ⟨hv,h0⟩ | ⟨g,cap,cur,hv,hb,hg,_⟩
 ·have e:k=0:=by omega
  subst e
  exact⟨none,0,0,hv,⟨fun h=>absurd h (Nat.lt_irrefl _),fun _ hi=>absurd hi (Nat.not_lt_zero _),fun _ hi=>absurd hi (Nat.not_lt_zero _),fun _ _ hi=>absurd hi (Nat.not_lt_zero _),fun _ _ hi=>absurd hi (Nat.not_lt_zero _),fun _ _ hi=>absurd hi (Nat.not_lt_zero _)⟩⟩
 ·subst hv
  refine⟨some ⟨g,0,none⟩,cap,g,by rw[hk],⟨fun _=>⟨rfl,hb,(Array.getElem?_eq_some_iff.1 hg).1⟩,fun i hi=>?_,fun i hi hl=>?_,h.d,h.c,h.f⟩⟩
  ·obtain⟨e1,e2,e3,e4⟩:=h.e i hi
   have hc:=h.o.cells (g:=g) rfl i (.slice (L.getD i (none,0,0)).1 (L.getD i (none,0,0)).2.1 (L.getD i (none,0,0)).2.2) (by
     have:i<L.length:=by omega
     simp[List.getD,this])
   rw[bC,Nat.zero_add,e1]at hc
   exact⟨_,_,hc,e2,e3,e4⟩
  ·obtain⟨b1,b2,b3⟩:=h.b i hi hl
   exact⟨b1,b2,fun e=>b3 (by rw[e];rfl)⟩
theorem cloneB_new (n:Nat) (G:Nat→Value) (hG:∀k,k<n→∃u,G k=.bool u) (a:Option Addr) (zc:Nat) (w:World) (h8:n≤8) (hz:∀k,k<n→∃b off,a=some ⟨b,off,none⟩∧b<w.heap.size∧w.cell? ⟨b,off+k,none⟩=some (G k)) :
  Calls Tryz.prog 273 #[.slice a n zc] w fun e w'=>∃a' c' g,e=.returned (.slice a' n c')∧NewRow w.heap.size w' a' c' g n G∧Below w.heap.size w w':=by
 have q24:∀(w:World) (a:Option Addr) (n c n' c':Nat),(binOp .eql 104 (.slice a n c) (.slice none n' c')).run Tryz.prog w=.ok (.bool a.isNone) w:=fun w a n c n' c'=>Lib.run_eql_slice_nil w _ _ a n c n' c' Tryz.underlying104
 obtain⟨i0,hi,hz0,hz1,hz2⟩:=info_parts Tryz.info4
 cases a with
 | none=>
  have h0:n=0:=by
   by_cases c:n=0
   ·exact c
   ·obtain⟨_,_,h,_⟩:=hz 0 (by omega);cases h
  subst h0
  clear hz h8 hG
  go_enter Tryz.func273,Tryz.ntmps273
  go_wp2
  go_ret
  exact⟨none,0,0,rfl,⟨fun h=>absurd h (Nat.lt_irrefl _),fun _=>rfl,(fun ad e=>by cases e)⟩,Below.refl _ _⟩
 | some ad=>
  have hnews:∀(o:Obj) j u,((List.range n).map G)[j]?=some u→(w.alloc o).cell? (ad.add j)=some u:=by
   intro o j u hj
   have hlt:j<n:=by
    have:=(List.getElem?_eq_some_iff.1 hj).1
    simpa using this
   obtain⟨b,off,ha,hb,hc⟩:=hz j hlt
   injection ha with ha
   subst ha
   rw[bC,World.cell?_alloc_lt _ _ _ hb,hc]
   simp[hlt]at hj
   rw[hj]
  have hone:∀u∈(List.range n).map G,u.oneCell'=true:=by
   intro u hu
   obtain⟨k,hk,rfl⟩:=List.mem_map.1 hu
   obtain⟨x,e⟩:=hG k (List.mem_range.1 hk)
   rw[e];rfl
  clear hz
  go_enter Tryz.func273,Tryz.ntmps273
  go_wp2_with (first
   | (at_builtin;refine wpList_append_own _ rfl _ _ 104 rfl w.heap.size 4 i0 (.bool false) 1 1 Tryz.underlying104 hi hz0 hz1 hz2 rfl (by decide) _ 0 [] rfl (World.ownsRow_lit w #[] 0 (Nat.le_refl _) (by decide) rfl) ad n zc ((List.range n).map G) rfl (by simp) (hnews _) hone (by unfold maxLen;omega) (by omega) (by simp) ?_;intro v' w1 hown' hgrow _)
   | go_in)
  have RB:Below w.heap.size w w1:=(aA (Below.refl _ _) _).grown hgrow (by simp) (fun j hj=>by have hj':some w.heap.size=some j:=hj;injection hj' with hj';exact Nat.le_of_eq hj')
  simp only[Nat.zero_add,List.nil_append]at hown'
  clear hgrow hnews hone
  have HR:=new_row hown'
  obtain⟨a',c',g,rfl,hn⟩:=HR
  go_wp2
  go_ret
  exact⟨a',c',g,rfl,hn,RB⟩
theorem kE (n:Nat) (G:Nat→Value) (hG:∀k,k<n→∃u,G k=.int .i64 u) (a:Option Addr) (zc:Nat) (w:World) (h8:n≤8) (hz:∀k,k<n→∃b off,a=some ⟨b,off,none⟩∧b<w.heap.size∧w.cell? ⟨b,off+k,none⟩=some (G k)) :
  Calls Tryz.prog 79 #[.slice a n zc] w fun e w'=>∃a' c' g,e=.returned (.slice a' n c')∧NewRow w.heap.size w' a' c' g n G∧Below w.heap.size w w':=by
 have q24:∀(w:World) (a:Option Addr) (n c n' c':Nat),(binOp .eql 41 (.slice a n c) (.slice none n' c')).run Tryz.prog w=.ok (.bool a.isNone) w:=fun w a n c n' c'=>Lib.run_eql_slice_nil w _ _ a n c n' c' Tryz.underlying41
 obtain⟨i0,hi,hz0,hz1,hz2⟩:=info_parts Tryz.info3
 cases a with
 | none=>
  have h0:n=0:=by
   by_cases c:n=0
   ·exact c
   ·obtain⟨_,_,h,_⟩:=hz 0 (by omega);cases h
  subst h0
  clear hz h8 hG
  go_enter Tryz.func79,Tryz.ntmps79
  go_wp2
  go_ret
  exact⟨none,0,0,rfl,⟨fun h=>absurd h (Nat.lt_irrefl _),fun _=>rfl,(fun ad e=>by cases e)⟩,Below.refl _ _⟩
 | some ad=>
  have hnews:∀(o:Obj) j u,((List.range n).map G)[j]?=some u→(w.alloc o).cell? (ad.add j)=some u:=by
   intro o j u hj
   have hlt:j<n:=by
    have:=(List.getElem?_eq_some_iff.1 hj).1
    simpa using this
   obtain⟨b,off,ha,hb,hc⟩:=hz j hlt
   injection ha with ha
   subst ha
   rw[bC,World.cell?_alloc_lt _ _ _ hb,hc]
   simp[hlt]at hj
   rw[hj]
  have hone:∀u∈(List.range n).map G,u.oneCell'=true:=by
   intro u hu
   obtain⟨k,hk,rfl⟩:=List.mem_map.1 hu
   obtain⟨x,e⟩:=hG k (List.mem_range.1 hk)
   rw[e];rfl
  clear hz
  go_enter Tryz.func79,Tryz.ntmps79
  go_wp2_with (first
   | (at_builtin;refine wpList_append_own _ rfl _ _ 41 rfl w.heap.size 3 i0 (.int .i64 0) 1 8 Tryz.underlying41 hi hz0 hz1 hz2 rfl (by decide) _ 0 [] rfl (World.ownsRow_lit w #[] 0 (Nat.le_refl _) (by decide) rfl) ad n zc ((List.range n).map G) rfl (by simp) (hnews _) hone (by unfold maxLen;omega) (by omega) (by simp) ?_;intro v' w1 hown' hgrow _)
   | go_in)
  have RB:Below w.heap.size w w1:=(aA (Below.refl _ _) _).grown hgrow (by simp) (fun j hj=>by have hj':some w.heap.size=some j:=hj;injection hj' with hj';exact Nat.le_of_eq hj')
  simp only[Nat.zero_add,List.nil_append]at hown'
  clear hgrow hnews hone
  have HR:=new_row hown'
  obtain⟨a',c',g,rfl,hn⟩:=HR
  go_wp2
  go_ret
  exact⟨a',c',g,rfl,hn,RB⟩
theorem Tryz.info41:(Tryz.prog.info? 41).map (fun i=>(i.zero,i.size,i.bytes))=some (some (.slice none 0 0),1,24):=by kernel_rfl
theorem vL (n:Nat) (len:Nat→Nat) (G:Nat→Nat→Value) (hG:∀i k,i<n→k<len i→∃u,G i k=.bool u) (a:Option Addr) (zc:Nat) (w:World) (h8:n≤8) (hl:∀i,i<n→len i≤8) (hz:IsGR w a n len G) :
  Calls Tryz.prog 240 #[.slice a n zc] w fun e w'=>∃a' c' g B,e=.returned (.slice a' n c')∧OR w.heap.size w'.heap.size w' a' n len G g B∧Below w.heap.size w w':=by
 obtain⟨i0,hi,hz0,hz1,hz2⟩:=info_parts Tryz.info104
 have HZ:Hid (IsGR w a n len G):=hz
 have HL:Hid (∀i,i<n→len i≤8):=hl
 have HG:Hid (∀i k,i<n→k<len i→∃u,G i k=.bool u):=hG
 clear hz hl hG
 go_enter Tryz.func240,Tryz.ntmps240
 go_wp2
 go_loopw [3,8] (fun v i wr=>∃(k:Nat) (L:List (Option Addr×Nat×Nat)) (B:Nat→Nat),k≤n∧i=.int .i64 k∧Hid (CR 104 w.heap.size wr v k len G L B)∧Hid (Below w.heap.size w wr)) (fun _ i _=>n - (intOf i).toNat)
 case atStart=>exact⟨0,[],fun _=>0,Nat.zero_le _,rfl,CR.nil _ _ _ _ _ _,Below.refl _ _⟩
 case round=>
  obtain⟨k,L,B,hk,rfl,hrow,hB⟩:=hrel
  by_cases hlt:k<n
  ·obtain⟨b,off,a1,c1,ea,hb,t0,hrd⟩:=HZ.out k hlt
   subst ea
   have d0:=aB hB.out t0
   have i1:(k:Int)<(n:Int):=by omega
   have i0':(0:Int)≤(k:Int):=by omega
   have CC:Hid (Calls Tryz.prog 273 #[.slice a1 (len k) c1] wr fun e w'=>∃a' c' g,e=.returned (.slice a' (len k) c')∧NewRow wr.heap.size w' a' c' g (len k) (G k)∧Below wr.heap.size wr w'):=cloneB_new (len k) (G k) (HG.out k · hlt) a1 c1 wr (HL.out k hlt) (fun j hj=>by
    obtain⟨b',off',e,h1,h2⟩:=hrd j hj
    exact⟨b',off',e,Nat.lt_of_lt_of_le h1 hB.out.size,aB hB.out h2⟩)
   have hLk:=hrow.out.n
   generalize hln:len k=LK at *
   have HLN:Hid (len k=LK):=hln
   clear hln t0 hrd
   go_wp2_with fail
   refine CC.out.mono ?_
   rintro e w1 ⟨a',c',g,rfl,hnew,hb1⟩
   have HN1:Hid (NewRow wr.heap.size w1 a' c' g (len k) (G k)):=by show NewRow _ _ _ _ _ _ _;rw[HLN.out];exact hnew
   have hr1:Hid (CR 104 w.heap.size w1 u3 k len G L B):=hrow.out.below hb1
   have HB1:Hid (Below w.heap.size w w1):=aC hB.out hb1
   have hsz:w.heap.size≤w1.heap.size:=HB1.out.size
   have hwr:Hid (wr.heap.size≤w1.heap.size):=hb1.size
   have hvl:Hid (∀j,u3.ownBlock=some j→j<wr.heap.size):=fun j e=>(hrow.out.o.lt j e).2
   have hBl:Hid (∀i,i<k→0<len i→B i<wr.heap.size):=fun i hi h=>(hrow.out.b i hi h).2.1
   have hbw:Hid (w.heap.size≤wr.heap.size):=hB.out.size
   clear hnew hb1 hrow hB CC d0
   go_wp2_with (first | (at_builtin;(refine wpList_append_own_at _ rfl _ _ 42 rfl w.heap.size 104 i0 (.slice none 0 0) 1 24 Tryz.underlying42 hi hz0 hz1 hz2 rfl (by decide) _ _ _ rfl (hr1.out.o.alloc _) ⟨_,0,none⟩ 1 1 [.slice a' LK c'] rfl rfl (sJ w1 _ 104 _ (by simp)) (one_sl _ _ _) (by unfold maxLen;omega) (by omega) (by simp;omega) ?_);intro v' w3 hown' hgrow _ hv3) | go_in)
   have R:Hid (CR 104 w.heap.size w3 v' (k+1) len G (L++[(a',len k,c')]) (fun i=>if i=k then g else B i)):=CR.push (hr1.out.below (aA (Below.refl _ _) (.cells #[.slice a' LK c'] 104))) hLk (by rw[HLN.out];exact hown') hgrow hv3 (HN1.out.below (aA (Below.refl _ _) _)) hbw.out hvl.out hBl.out (fun i=>if i=k then g else B i) (if_pos rfl) (fun i h=>if_neg h)
   have RB:Hid (Below w.heap.size w w3):=(HB1.out.alloc hsz _).grown hgrow (by simp;omega) (fun j hj=>(hr1.out.o.lt j hj).1)
   clear hown' hgrow hv3 hr1 HB1 HN1 hwr hvl hBl hbw
   go_wp2
   go_roundw
   case rel=>exact⟨k+1,_,_,by omega,by go_num,R,RB⟩
   case measure=>simp[intOf];omega
  ·have hkk:k=n:=by omega
   subst hkk
   have i1:¬(k:Int)<(k:Int):=by omega
   obtain⟨a',c',g,hv,hor⟩:=hrow.out.fin
   have HO:Hid (OR w.heap.size wr.heap.size wr a' k len G g B):=hor
   subst hv
   clear hor hrow
   go_wp2
   go_ret
   exact⟨a',⟨c',rfl⟩,⟨g,B,HO.out⟩,hB.out⟩
theorem copyI_new (n:Nat) (len:Nat→Nat) (G:Nat→Nat→Value) (hG:∀i k,i<n→k<len i→∃u,G i k=.int .i64 u) (a:Option Addr) (zc:Nat) (w:World) (h8:n≤8) (hl:∀i,i<n→len i≤8) (hz:IsGR w a n len G) :
  Calls Tryz.prog 241 #[.slice a n zc] w fun e w'=>∃a' c' g B,e=.returned (.slice a' n c')∧OR w.heap.size w'.heap.size w' a' n len G g B∧Below w.heap.size w w':=by
 obtain⟨i0,hi,hz0,hz1,hz2⟩:=info_parts Tryz.info41
 have HZ:Hid (IsGR w a n len G):=hz
 have HL:Hid (∀i,i<n→len i≤8):=hl
 have HG:Hid (∀i k,i<n→k<len i→∃u,G i k=.int .i64 u):=hG
 clear hz hl hG
 go_enter Tryz.func241,Tryz.ntmps241
 go_wp2
 go_loopw [3,8] (fun v i wr=>∃(k:Nat) (L:List (Option Addr×Nat×Nat)) (B:Nat→Nat),k≤n∧i=.int .i64 k∧Hid (CR 41 w.heap.size wr v k len G L B)∧Hid (Below w.heap.size w wr)) (fun _ i _=>n - (intOf i).toNat)
 case atStart=>exact⟨0,[],fun _=>0,Nat.zero_le _,rfl,CR.nil _ _ _ _ _ _,Below.refl _ _⟩
 case round=>
  obtain⟨k,L,B,hk,rfl,hrow,hB⟩:=hrel
  by_cases hlt:k<n
  ·obtain⟨b,off,a1,c1,ea,hb,t0,hrd⟩:=HZ.out k hlt
   subst ea
   have d0:=aB hB.out t0
   have i1:(k:Int)<(n:Int):=by omega
   have i0':(0:Int)≤(k:Int):=by omega
   have CC:Hid (Calls Tryz.prog 79 #[.slice a1 (len k) c1] wr fun e w'=>∃a' c' g,e=.returned (.slice a' (len k) c')∧NewRow wr.heap.size w' a' c' g (len k) (G k)∧Below wr.heap.size wr w'):=kE (len k) (G k) (HG.out k · hlt) a1 c1 wr (HL.out k hlt) (fun j hj=>by
    obtain⟨b',off',e,h1,h2⟩:=hrd j hj
    exact⟨b',off',e,Nat.lt_of_lt_of_le h1 hB.out.size,aB hB.out h2⟩)
   have hLk:=hrow.out.n
   generalize hln:len k=LK at *
   have HLN:Hid (len k=LK):=hln
   clear hln t0 hrd
   go_wp2_with fail
   refine CC.out.mono ?_
   rintro e w1 ⟨a',c',g,rfl,hnew,hb1⟩
   have HN1:Hid (NewRow wr.heap.size w1 a' c' g (len k) (G k)):=by show NewRow _ _ _ _ _ _ _;rw[HLN.out];exact hnew
   have hr1:Hid (CR 41 w.heap.size w1 u3 k len G L B):=hrow.out.below hb1
   have HB1:Hid (Below w.heap.size w w1):=aC hB.out hb1
   have hsz:w.heap.size≤w1.heap.size:=HB1.out.size
   have hwr:Hid (wr.heap.size≤w1.heap.size):=hb1.size
   have hvl:Hid (∀j,u3.ownBlock=some j→j<wr.heap.size):=fun j e=>(hrow.out.o.lt j e).2
   have hBl:Hid (∀i,i<k→0<len i→B i<wr.heap.size):=fun i hi h=>(hrow.out.b i hi h).2.1
   have hbw:Hid (w.heap.size≤wr.heap.size):=hB.out.size
   clear hnew hb1 hrow hB CC d0
   go_wp2_with (first | (at_builtin;(refine wpList_append_own_at _ rfl _ _ 43 rfl w.heap.size 41 i0 (.slice none 0 0) 1 24 Tryz.underlying43 hi hz0 hz1 hz2 rfl (by decide) _ _ _ rfl (hr1.out.o.alloc _) ⟨_,0,none⟩ 1 1 [.slice a' LK c'] rfl rfl (sJ w1 _ 41 _ (by simp)) (one_sl _ _ _) (by unfold maxLen;omega) (by omega) (by simp;omega) ?_);intro v' w3 hown' hgrow _ hv3) | go_in)
   have R:Hid (CR 41 w.heap.size w3 v' (k+1) len G (L++[(a',len k,c')]) (fun i=>if i=k then g else B i)):=CR.push (hr1.out.below (aA (Below.refl _ _) (.cells #[.slice a' LK c'] 41))) hLk (by rw[HLN.out];exact hown') hgrow hv3 (HN1.out.below (aA (Below.refl _ _) _)) hbw.out hvl.out hBl.out (fun i=>if i=k then g else B i) (if_pos rfl) (fun i h=>if_neg h)
   have RB:Hid (Below w.heap.size w w3):=(HB1.out.alloc hsz _).grown hgrow (by simp;omega) (fun j hj=>(hr1.out.o.lt j hj).1)
   clear hown' hgrow hv3 hr1 HB1 HN1 hwr hvl hBl hbw
   go_wp2
   go_roundw
   case rel=>exact⟨k+1,_,_,by omega,by go_num,R,RB⟩
   case measure=>simp[intOf];omega
  ·have hkk:k=n:=by omega
   subst hkk
   have i1:¬(k:Int)<(k:Int):=by omega
   obtain⟨a',c',g,hv,hor⟩:=hrow.out.fin
   have HO:Hid (OR w.heap.size wr.heap.size wr a' k len G g B):=hor
   subst hv
   clear hor hrow
   go_wp2
   go_ret
   exact⟨a',⟨c',rfl⟩,⟨g,B,HO.out⟩,hB.out⟩
theorem Tryz.info9:(Tryz.prog.info? 9).map (fun i=>(i.zero,i.size,i.bytes))=some (some (.string ⟨#[]⟩),1,16):=by kernel_rfl
theorem one_str (x:List UInt8):∀u∈[aL x],u.oneCell'=true:=by
 intro u hu
 rw[List.mem_singleton]at hu
 subst hu;rfl
theorem join_len (sep:List UInt8) (B:Nat):∀(xs:List (List UInt8)),(∀x∈xs,x.length≤B)→(Lib.join xs sep).length≤xs.length*(B+sep.length):=by
 have ht:∀(xs:List (List UInt8)),(∀x∈xs,x.length≤B)→(Lib.joinTail sep xs).length≤xs.length*(B+sep.length):=by
  intro xs
  induction xs with
  | nil=>intro _;exact Nat.zero_le _
  | cons x t ih=>
   intro h
   have h1:=h x (by simp)
   have h2:=ih (fun y hy=>h y (by simp[hy]))
   have e:Lib.joinTail sep (x::t)=(sep++x)++Lib.joinTail sep t:=by simp[Lib.joinTail]
   rw[e,List.length_append,List.length_append,List.length_cons,Nat.succ_mul]
   omega
 intro xs h
 cases xs with
 | nil=>exact Nat.zero_le _
 | cons x t=>
  have h1:=h x (by simp)
  have h2:=ht t (fun y hy=>h y (by simp[hy]))
  rw[Lib.join_cons,List.length_append,List.length_cons,Nat.succ_mul]
  omega
theorem aAq (xs:List (List UInt8)):(xs.map fun x=>ByteArray.mk x.toArray).map (·.data.toList)=xs:=by
 rw[List.map_map]
 exact(List.map_congr_left (fun x _=>by simp)).trans (List.map_id _)
theorem join_own (xs:List (List UInt8)) (sep:List UInt8) (w:World) (base:Nat) (v:Value) (h:w.ownsRow base 9 1 v xs.length (xs.map aL)) (hn:xs.length≤140737488355328) (hl:(Lib.join xs sep).length≤140737488355328) :
  Calls Tryz.prog 152 #[v,aL sep] w fun e w'=>e=.returned (aL (Lib.join xs sep))∧Below w.heap.size w w':=by
 have h':=h
 rcases h.2 with ⟨rfl,h0⟩ | ⟨g,cap,cur,rfl,hb,hg,hnc,hcm,hcs,htake⟩
 ·have:xs=[]:=List.eq_nil_of_length_eq_zero (by omega)
  subst this
  exact(Tryz.strings_Join_none none 0 _ w).mono fun e w' ⟨he,hw⟩=>⟨he,by rw[hw];exact Below.refl _ _⟩
 ·have:=Tryz.strings_Join g 0 cap (xs.map fun x=>ByteArray.mk x.toArray) ⟨sep.toArray⟩ w (fun j x hj=>by
   have hjl:j<xs.length:=by
    have:=(List.getElem?_eq_some_iff.1 hj).1
    simpa using this
   rw[Nat.zero_add,h'.cellAt j (by omega)]
   simp only[List.getElem?_map,Option.map_eq_some_iff]at hj ⊢
   obtain⟨y,hy,rfl⟩:=hj
   exact⟨y,hy,rfl⟩) (Array.getElem?_eq_some_iff.1 hg).1 (by simpa using hn) (by rw[List.length_map];omega) (by rw[aAq];exact hl)
  rw[aAq]at this
  simpa using this
theorem uU {n:Int} (h0 : -9223372036854775808≤n) (h1:n≤9223372036854775807):(cY n).length≤20:=by
 unfold cY
 split
 ·have:=dK (n:=n.natAbs) (k:=19) (by decide) (by omega)
  rw[List.length_cons];omega
 ·have:=dK (n:=n.toNat) (k:=19) (by decide) (by omega)
  omega
def txt (zs:List Int):List UInt8:=Lib.join (zs.map cY) [32]
theorem wD (zs:List Int) (k:Nat) (h:k<zs.length):(zs.take (k+1)).map cY=(zs.take k).map cY++[cY (zs.getD k 0)]:=by
 rw[List.take_succ_eq_append_getElem h,List.map_append]
 simp[List.getD,h]
theorem rE (a:Option Addr) (c:Nat) (zs:List Int) (hz:∀z∈zs,-9223372036854775808≤z∧z≤9223372036854775807) (hn:zs.length≤100) (w:World) (hs:Std w) (h:IsInts w a zs) :
  Calls Tryz.prog 117 #[.slice a zs.length c] w fun e w'=>e=.returned (aL (txt zs))∧Below w.heap.size w w':=by
 obtain⟨i0,hi,hz0,hz1,hz2⟩:=info_parts Tryz.info9
 have S0:=aJ hs
 have HI:=aJ h
 have HZ:=aJ hz
 clear hs h hz
 go_enter Tryz.func117,Tryz.ntmps117
 go_wp2
 go_loopw [3,5,8] (fun v _ i wr=>∃k:Nat,k≤zs.length∧i=.int .i64 k∧Hid (wr.ownsRow w.heap.size 9 1 v k (((zs.take k).map cY).map aL))∧Hid (Below w.heap.size w wr)) (fun _ _ i _=>zs.length - (intOf i).toNat)
 case atStart=>exact⟨0,Nat.zero_le _,rfl,World.ownsRow_nil _ _ _ _,Below.refl _ _⟩
 case round=>
  obtain⟨k,hk,rfl,hown,hB⟩:=hrel
  by_cases hlt:k<zs.length
  ·obtain⟨b,off,rfl,hb,c0⟩:=HI.out k hlt
   have d0:=aB hB.out c0
   have hr:=HZ.out (zs.getD k 0) (by simp[List.getD,hlt])
   have HT:=aJ (wD zs k hlt)
   have i1:(k:Int)<(zs.length:Int):=by omega
   have C1:Hid (∀w:World,Std w→Calls Tryz.prog 45 #[.int .i64 (zs.getD k 0)] w fun e w'=>e=.returned (aL (cY (zs.getD k 0)))∧Below w.heap.size w w'):=fun w hs=>oQ _ hr.1 hr.2 w hs
   clear c0 hr
   generalize zs.getD k 0=z at *
   go_wp2_with fail
   refine(C1.out _ (S0.out.on hB.out)).mono ?_
   rintro e w1 ⟨rfl,hb1⟩
   have hown1:=aJ (dA hown.out hb1)
   have B1:Hid (Below w.heap.size w w1):=aC hB.out hb1
   have hsz:w.heap.size≤w1.heap.size:=B1.out.size
   clear hb1 hB hown C1 d0
   go_wp2_with (first
    | (at_builtin;refine wpList_append_own _ rfl _ _ 55 rfl w.heap.size 9 i0 (.string ⟨#[]⟩) 1 16 Tryz.underlying55 hi hz0 hz1 hz2 rfl (by decide) _ _ _ rfl (hown1.out.alloc _) ⟨w1.heap.size,0,none⟩ 1 1 [aL (cY z)] rfl rfl (sJ _ _ 9 _ rfl) (one_str _) (by unfold maxLen;omega) (by omega) (by simp;omega) ?_;intro v' w2 hown' hgrow _)
    | go_in)
   have R:Hid (w2.ownsRow w.heap.size 9 1 v' (k+1) (((zs.take (k+1)).map cY).map aL)):=by
    show World.ownsRow _ _ _ _ _ _ _
    rw[HT.out,List.map_append];exact hown'
   have RB:Hid (Below w.heap.size w w2):=(B1.out.alloc (by omega) _).grown hgrow (by simp;omega) (fun j hj=>(hown1.out.lt j hj).1)
   clear hown' hgrow hown1 B1
   go_wp2
   go_roundw
   case rel=>exact⟨k+1,by omega,by go_num,R,RB⟩
   case measure=>simp[intOf];omega
  ·have hkk:k=zs.length:=by omega
   have i1:¬(k:Int)<(zs.length:Int):=by omega
   have R:Hid (wr.ownsRow w.heap.size 9 1 u3 (zs.map cY).length ((zs.map cY).map aL)):=by
    show World.ownsRow _ _ _ _ _ _ _
    have:=hown.out
    rw[hkk,List.take_length]at this
    rw[List.length_map];exact this
   have CJ:=aJ (join_own (zs.map cY) [32] wr w.heap.size u3 R.out (by rw[List.length_map];omega) (by
    have:=join_len [32] 20 (zs.map cY) (fun x hx=>by
     obtain⟨z,hz,rfl⟩:=List.mem_map.1 hx
     exact uU (HZ.out z hz).1 (HZ.out z hz).2)
    rw[List.length_map,List.length_singleton]at this
    omega))
   clear hown R
   go_wp2_with fail
   refine CJ.out.mono ?_
   rintro e w1 ⟨rfl,hb1⟩
   have RB:Hid (Below w.heap.size w w1):=aC hB.out hb1
   clear hb1 CJ hB
   go_wp2
   go_ret
   exact⟨rfl,RB.out⟩
end Go.Proofs.YtcgpkonfneofdaaGreatDoor
