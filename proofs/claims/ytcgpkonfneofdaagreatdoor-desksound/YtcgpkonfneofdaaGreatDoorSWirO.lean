/- Conditions: those that each theorem states. -/
import Derived.Test.YtcgpkonfneofdaaGreatDoorSFromA
set_option maxRecDepth 100000
set_option maxHeartbeats 8000000
namespace Go.Proofs.YtcgpkonfneofdaaGreatDoor
open Go.RowKit
def lE {α:Type} (g:List Int→α×List Int) (G:α→Prop):Prop:=∀bs,Byt bs→G (g bs).1∧Byt (g bs).2
theorem iK:lE zN B1:=by
 intro bs h
 cases bs with
 | nil=>exact⟨⟨Int.le_refl _,by decide⟩,h⟩
 | cons b r=>exact⟨h b (by simp),h.tail⟩
theorem vT {α:Type} {g:List Int→α×List Int} {G:α→Prop} (hg:lE g G):∀n,lE (zK g n) (fun l=>l.length=n∧∀x∈l,G x)
 | 0,bs,h=>⟨⟨rfl,fun x hx=>by cases hx⟩,h⟩
 | n+1,bs,h=>by
  obtain⟨h1,h2⟩:=hg bs h
  obtain⟨⟨h3,h4⟩,h5⟩:=vT hg n (g bs).2 h2
  refine⟨⟨by simp[zK,h3],fun x hx=>?_⟩,h5⟩
  rcases List.mem_cons.1 hx with rfl | hx
  ·exact h1
  ·exact h4 x hx
theorem qR {α:Type} {g:List Int→α×List Int} {G:α→Prop} (hg:lE g G):lE (zL g) (fun l=>l.length<256∧∀x∈l,G x):=by
 intro bs h
 obtain⟨⟨b1,b2⟩,h2⟩:=iK bs h
 obtain⟨⟨h3,h4⟩,h5⟩:=vT hg (zN bs).1.toNat (zN bs).2 h2
 refine⟨⟨?_,h4⟩,h5⟩
 show (zK g (zN bs).1.toNat (zN bs).2).1.length<256
 rw[h3];omega
theorem zV_good:lE zV dV:=by
 intro bs h
 obtain⟨⟨h1,h2⟩,h3⟩:=vT iK 8 bs h
 refine⟨?_,h3⟩
 have hB:Byt (zK zN 8 bs).1:=fun x hx=>h2 x hx
 obtain⟨a,b⟩:=wA _ hB
 rw[h1]at b
 show dV (sgn (eV (zK zN 8 bs).1))
 have b':eV (zK zN 8 bs).1<18446744073709551616:=by simpa using b
 unfold sgn dV
 split <;> omega
theorem qP:lE zO OkO:=by
 intro bs h
 obtain⟨h1,h2⟩:=iK bs h
 obtain⟨h3,h4⟩:=zV_good (zN bs).2 h2
 exact⟨⟨h1,h3⟩,h4⟩
theorem zG_good:lE zG OkG:=by
 intro bs h
 obtain⟨h1,h2⟩:=iK bs h
 obtain⟨h3,h4⟩:=qP (zN bs).2 h2
 obtain⟨h5,h6⟩:=qP (zO (zN bs).2).2 h4
 exact⟨⟨h1,h3.1,h3.2,h5.1,h5.2⟩,h6⟩
theorem zS_good:lE zS OkS:=by
 intro bs h
 obtain⟨h1,h2⟩:=iK bs h
 obtain⟨h1',h2'⟩:=iK (zN bs).2 h2
 obtain⟨h3,h4⟩:=qP (zN (zN bs).2).2 h2'
 obtain⟨h5,h6⟩:=qP (zO (zN (zN bs).2).2).2 h4
 exact⟨⟨h1,h1',h3.1,h3.2,h5.1,h5.2⟩,h6⟩
theorem zT_good:lE zT OkC:=by
 intro bs h
 obtain⟨h1,h2⟩:=qR iK bs h
 obtain⟨h3,h4⟩:=qR zG_good (zL zN bs).2 h2
 obtain⟨h5,h6⟩:=qR zS_good (zL zG (zL zN bs).2).2 h4
 exact⟨⟨h1,h3,h5⟩,h6⟩
theorem zP_good:lE zP OkP:=by
 intro bs h
 obtain⟨h1,h2⟩:=iK bs h
 obtain⟨h3,h4⟩:=qR zT_good (zN bs).2 h2
 exact⟨⟨h1,h3.1,h3.2⟩,h4⟩
theorem doc_same {bs:List Int} (h:Byt bs):docOk bs=iA bs:=by
 cases hr:iA bs with
 | some p=>
  simp only[iA,Option.bind_eq_some_iff]at hr
  obtain⟨⟨q,r⟩,h1,h2⟩:=hr
  by_cases hc:r=[]∧aM q.1 (q.2.map cX)=0
  ·rw[if_pos hc]at h2
   injection h2 with h2
   subst h2
   obtain⟨rfl,h3⟩:=hc
   have hz:=zP_zero bs _ h1
   obtain⟨h4,_⟩:=rW bs q [] h h1
   unfold docOk
   rw[hz]
   rw[if_pos ⟨h3,by rw[h4];simp⟩]
  ·rw[if_neg hc]at h2;cases h2
 | none=>
  unfold docOk
  by_cases hc:aM (zP bs).1.1 ((zP bs).1.2.map cX)=0∧pB (zP bs).1=bs
  ·exfalso
   have hb:=zY (zP_good bs h).1 []
   rw[List.append_nil,hc.2]at hb
   simp[iA,hb,hc.1]at hr
  ·rw[if_neg hc]
theorem pL {p:Int×List fG} (hp:OkP p) (hE:aM p.1 (p.2.map cX)=0):iA (pB p)=some p:=by
 have hb:=zY hp []
 rw[List.append_nil]at hb
 simp[iA,hb,hE]
theorem bytes_of_rd {bs:List Int} {p:Int×List fG} (h:Byt bs) (hr:iA bs=some p):pB p=bs∧aM p.1 (p.2.map cX)=0:=by
 simp only[iA,Option.bind_eq_some_iff]at hr
 obtain⟨⟨q,r⟩,h1,h2⟩:=hr
 by_cases hc:r=[]∧aM q.1 (q.2.map cX)=0
 ·rw[if_pos hc]at h2
  injection h2 with h2
  subst h2
  obtain⟨rfl,h3⟩:=hc
  obtain⟨h4,_⟩:=rW bs q [] h h1
  exact⟨by rw[h4];simp,h3⟩
 ·rw[if_neg hc]at h2;cases h2
section
open Go.ChangeShapes Go.WideShapes Go.ChangeAt Go.RowKit Go.Deep
def V64 (x:TxA):Prop:=(∀z∈x.gs,dV z.an∧dV z.bn)∧(∀z∈x.ss,dV z.an∧dV z.bn)
section
variable {H:Type} {enc:TypeId×Value→H} {w:World} {base:Nat} {spare:Nat→Bool} {held:Bool}
theorem nL {n:Nat} {c:Value} {y:DataW H×List MemPlace} (h:DataW.trod enc Tryz.prog w base spare held n 3 [c]=some y):∃k,c=.int .i64 k∧dV k:=by
 obtain⟨k,hk,_,hw⟩:=DataW.trod_int Tryz.underlying3 h
 refine⟨k,by simpa using hk,?_⟩
 simp only[Lit.wf,Bool.and_eq_true,decide_eq_true_eq]at hw
 have h1:IntKind.i64.min = -9223372036854775808:=by decide
 have h2:IntKind.i64.max=9223372036854775807:=by decide
 rw[h1,h2]at hw
 exact⟨hw.1,by omega⟩
theorem gM {n:Nat} {c0 c1:Value} {y:DataW H×List MemPlace} (h:DataW.trod enc Tryz.prog w base spare held n 97 [c0,c1]=some y):∃k m,c0=.int .i64 k∧c1=.int .i64 m∧dV m:=by
 obtain⟨y0,y1,m,_,_,h0,h1⟩:=trod_struct2 Tryz.underlying97 h
 have k3:Tryz.prog.cellsOf 3=1:=by kernel_rfl
 simp only[k3]at h0 h1
 obtain⟨a,ha⟩:=sS (c:=c0) (by simpa using h0)
 obtain⟨b,hb,vb⟩:=nL (c:=c1) (by simpa using h1)
 exact⟨a,b,ha,hb,vb⟩
theorem guard64_of {n:Nat} {c0 c1 c2 c3 c4:Value} {y:DataW H×List MemPlace} (h:DataW.trod enc Tryz.prog w base spare held n 99 [c0,c1,c2,c3,c4]=some y):∃g:Gd,c0=.int .i64 g.k∧c1=.int .i64 g.ak∧c2=.int .i64 g.an∧c3=.int .i64 g.bk∧c4=.int .i64 g.bn∧dV g.an∧dV g.bn:=by
 obtain⟨y0,y1,y2,m,_,_,h0,h1,h2⟩:=trod_struct3 Tryz.underlying99 h
 have k3:Tryz.prog.cellsOf 3=1:=by kernel_rfl
 have k23:Tryz.prog.cellsOf 97=2:=by kernel_rfl
 simp only[k3,k23]at h0 h1 h2
 obtain⟨a,ha⟩:=sS (c:=c0) (by simpa using h0)
 obtain⟨b,b',hb,hb',vb⟩:=gM (c0:=c1) (c1:=c2) (by simpa using h1)
 obtain⟨d,d',hd,hd',vd⟩:=gM (c0:=c3) (c1:=c4) (by simpa using h2)
 exact⟨⟨a,b,b',d,d'⟩,ha,hb,hb',hd,hd',vb,vd⟩
theorem set64_of {n:Nat} {c0 c1 c2 c3 c4 c5:Value} {y:DataW H×List MemPlace} (h:DataW.trod enc Tryz.prog w base spare held n 102 [c0,c1,c2,c3,c4,c5]=some y):∃g:St,c0=.int .i64 g.key∧c1=.int .i64 g.op∧c2=.int .i64 g.ak∧c3=.int .i64 g.an∧c4=.int .i64 g.bk∧c5=.int .i64 g.bn∧dV g.an∧dV g.bn:=by
 obtain⟨xs,m,_,_,_,hlen,hf⟩:=DataW.trod_struct Tryz.underlying102 h
 have k3:Tryz.prog.cellsOf 3=1:=by kernel_rfl
 have k23:Tryz.prog.cellsOf 97=2:=by kernel_rfl
 match xs,hlen with
 | [y0,y1,y2,y3],_=>
  have h0:DataW.trod enc Tryz.prog w base spare held m 3 (([c0,c1,c2,c3,c4,c5].drop 0).take (Tryz.prog.cellsOf 3))=some y0:=hf 0 _ rfl
  have h1:DataW.trod enc Tryz.prog w base spare held m 3 (([c0,c1,c2,c3,c4,c5].drop 1).take (Tryz.prog.cellsOf 3))=some y1:=hf 1 _ rfl
  have h2:DataW.trod enc Tryz.prog w base spare held m 97 (([c0,c1,c2,c3,c4,c5].drop 2).take (Tryz.prog.cellsOf 97))=some y2:=hf 2 _ rfl
  have h3:DataW.trod enc Tryz.prog w base spare held m 97 (([c0,c1,c2,c3,c4,c5].drop 4).take (Tryz.prog.cellsOf 97))=some y3:=hf 3 _ rfl
  simp only[k3,k23]at h0 h1 h2 h3
  obtain⟨a,ha⟩:=sS (c:=c0) (by simpa using h0)
  obtain⟨a',ha'⟩:=sS (c:=c1) (by simpa using h1)
  obtain⟨b,b',hb,hb',vb⟩:=gM (c0:=c2) (c1:=c3) (by simpa using h2)
  obtain⟨d,d',hd,hd',vd⟩:=gM (c0:=c4) (c1:=c5) (by simpa using h3)
  exact⟨⟨a,a',b,b',d,d'⟩,ha,ha',hb,hb',hd,hd',vb,vd⟩
theorem open_gs64 {n:Nat} {v:Value} {y:DataW H×List MemPlace} (h:DataW.trod enc Tryz.prog w base spare held n 92 [v]=some y):∃(a:Option Addr) (gs:List Gd) (cap:Nat),v=.slice a gs.length cap∧gs.length≤maxLen∧IsGs w a gs∧(a=none→cap=0)∧(∀z∈gs,dV z.an∧dV z.bn):=by
 have k58:Tryz.prog.cellsOf 99=5:=by kernel_rfl
 rcases open_slice Tryz.underlying92 h with ⟨hcs,_⟩ | ⟨a,len,cap,m,n',D,Pl,hcs,_,hl,hm,hmm,_,hx⟩
 ·simp at hcs
  exact⟨none,[],0,by simpa using hcs,by simp,fun i hi=>absurd hi (by simp),fun _=>rfl,fun z hz=>by cases hz⟩
 ·simp at hcs
  have hlm:len≤m:=by rw[hmm];split <;> omega
  rw[k58]at hx
  have:Inhabited Gd:=⟨g0⟩
  obtain⟨f,hf⟩:=choose_lt (α:=Gd) (p:=fun i g=>w.cell? ((a.add (i*5)).add 0)=some (.int .i64 g.k)∧w.cell? ((a.add (i*5)).add 1)=some (.int .i64 g.ak)∧w.cell? ((a.add (i*5)).add 2)=some (.int .i64 g.an)∧w.cell? ((a.add (i*5)).add 3)=some (.int .i64 g.bk)∧w.cell? ((a.add (i*5)).add 4)=some (.int .i64 g.bn)∧dV g.an∧dV g.bn) (n:=m) (fun i hi=>by
   obtain⟨cs',h1,h2⟩:=hx i hi
   obtain⟨_,hlen,hc⟩:=World.cells?_some h1
   match cs',hlen with
   | [c0,c1,c2,c3,c4],_=>
    obtain⟨g,rfl,rfl,rfl,rfl,rfl,hv1,hv2⟩:=guard64_of h2
    exact⟨g,hc 0 (by omega),hc 1 (by omega),hc 2 (by omega),hc 3 (by omega),hc 4 (by omega),hv1,hv2⟩)
  obtain⟨b,off,spot⟩:=a
  refine⟨some ⟨b,off,spot⟩,(List.range len).map f,cap,by simpa using hcs,by simp;omega,fun i hi=>?_,fun h=>(by cases h),fun z hz=>?_⟩
  rotate_left
  ·obtain⟨i,hi,rfl⟩:=List.mem_map.1 hz
   have hi2:i<len:=by simpa using hi
   exact(hf i (by omega)).2.2.2.2.2
  have hi':i<len:=by simpa using hi
  have hsp:spot=none:=by
   have:=World.cell?_spot (hf 0 (by omega)).1
   simpa[Addr.add]using this
  subst hsp
  obtain⟨e0,e1,e2,e3,e4,_⟩:=hf i (by omega)
  rw[qZ]at e0 e1 e2 e3 e4
  have eg:((List.range len).map f).getD i g0=f i:=by simp[List.getD,hi']
  rw[eg]
  exact⟨b,off,rfl,World.block_lt_of_cell? w _ e0,e0,e1,e2,e3,e4⟩
theorem open_ss64 {n:Nat} {v:Value} {y:DataW H×List MemPlace} (h:DataW.trod enc Tryz.prog w base spare held n 93 [v]=some y):∃(a:Option Addr) (gs:List St) (cap:Nat),v=.slice a gs.length cap∧gs.length≤maxLen∧IsSs w a gs∧(a=none→cap=0)∧(∀z∈gs,dV z.an∧dV z.bn):=by
 have k76:Tryz.prog.cellsOf 102=6:=by kernel_rfl
 rcases open_slice Tryz.underlying93 h with ⟨hcs,_⟩ | ⟨a,len,cap,m,n',D,Pl,hcs,_,hl,hm,hmm,_,hx⟩
 ·simp at hcs
  exact⟨none,[],0,by simpa using hcs,by simp,fun i hi=>absurd hi (by simp),fun _=>rfl,fun z hz=>by cases hz⟩
 ·simp at hcs
  have hlm:len≤m:=by rw[hmm];split <;> omega
  rw[k76]at hx
  have:Inhabited St:=⟨s0⟩
  obtain⟨f,hf⟩:=choose_lt (α:=St) (p:=fun i g=>w.cell? ((a.add (i*6)).add 0)=some (.int .i64 g.key)∧w.cell? ((a.add (i*6)).add 1)=some (.int .i64 g.op)∧w.cell? ((a.add (i*6)).add 2)=some (.int .i64 g.ak)∧w.cell? ((a.add (i*6)).add 3)=some (.int .i64 g.an)∧w.cell? ((a.add (i*6)).add 4)=some (.int .i64 g.bk)∧w.cell? ((a.add (i*6)).add 5)=some (.int .i64 g.bn)∧dV g.an∧dV g.bn) (n:=m) (fun i hi=>by
   obtain⟨cs',h1,h2⟩:=hx i hi
   obtain⟨_,hlen,hc⟩:=World.cells?_some h1
   match cs',hlen with
   | [c0,c1,c2,c3,c4,c5],_=>
    obtain⟨g,rfl,rfl,rfl,rfl,rfl,rfl,hv1,hv2⟩:=set64_of h2
    exact⟨g,hc 0 (by omega),hc 1 (by omega),hc 2 (by omega),hc 3 (by omega),hc 4 (by omega),hc 5 (by omega),hv1,hv2⟩)
  obtain⟨b,off,spot⟩:=a
  refine⟨some ⟨b,off,spot⟩,(List.range len).map f,cap,by simpa using hcs,by simp;omega,fun i hi=>?_,fun h=>(by cases h),fun z hz=>?_⟩
  rotate_left
  ·obtain⟨i,hi,rfl⟩:=List.mem_map.1 hz
   have hi2:i<len:=by simpa using hi
   exact(hf i (by omega)).2.2.2.2.2.2
  have hi':i<len:=by simpa using hi
  have hsp:spot=none:=by
   have:=World.cell?_spot (hf 0 (by omega)).1
   simpa[Addr.add]using this
  subst hsp
  obtain⟨e0,e1,e2,e3,e4,e5,_⟩:=hf i (by omega)
  rw[qZ]at e0 e1 e2 e3 e4 e5
  have eg:((List.range len).map f).getD i s0=f i:=by simp[List.getD,hi']
  rw[eg]
  exact⟨b,off,rfl,World.block_lt_of_cell? w _ e0,e0,e1,e2,e3,e4,e5⟩
end
section
variable {H:Type} {enc:TypeId×Value→H} {w:World} {base:Nat} {held:Bool}
theorem tx64_of {n:Nat} {c0 c1 c2:Value} {y:DataW H×List MemPlace} (h:DataW.trod enc Tryz.prog w base (fun _=>true) held n 95 [c0,c1,c2]=some y) :
  ∃x:TxA,c0=.slice x.ra x.rs.length x.rc∧c1=.slice x.ga x.gs.length x.gc∧c2=.slice x.sa x.ss.length x.sc∧IsX w x∧V64 x:=by
 obtain⟨y0,y1,y2,m,_,_,h0,h1,h2⟩:=trod_struct3 Tryz.underlying95 h
 have k22:Tryz.prog.cellsOf 41=1:=by kernel_rfl
 have k23:Tryz.prog.cellsOf 92=1:=by kernel_rfl
 have k24:Tryz.prog.cellsOf 93=1:=by kernel_rfl
 simp only[k22,k23,k24]at h0 h1 h2
 obtain⟨ra,rs,rc,rfl,lr,ir,rn⟩:=open_rs (v:=c0) (by simpa using h0)
 obtain⟨ga,gs,gc,rfl,lg,ig,gn,vg⟩:=open_gs64 (v:=c1) (by simpa using h1)
 obtain⟨sa,ss,sc,rfl,ls,is,sn,vs⟩:=open_ss64 (v:=c2) (by simpa using h2)
 exact⟨⟨ra,ga,sa,rc,gc,sc,rs,gs,ss⟩,rfl,rfl,rfl,⟨⟨ir,ig,is,lr,lg,ls⟩,rn,gn,sn⟩,vg,vs⟩
theorem open_txs64 {n:Nat} {v:Value} {y:DataW H×List MemPlace} (h:DataW.trod enc Tryz.prog w base (fun _=>true) held n 27 [v]=some y):∃(a:Option Addr) (l:List TxA) (cap:Nat),v=.slice a l.length cap∧l.length≤maxLen∧l.length≤cap∧IsTxs w a l∧(a=none→cap=0)∧(∀x∈l,V64 x):=by
 have k26:Tryz.prog.cellsOf 95=3:=by kernel_rfl
 rcases open_slice Tryz.underlying27 h with ⟨hcs,_⟩ | ⟨a,len,cap,m,n',D,Pl,hcs,_,hl,hm,hmm,_,hx⟩
 ·simp at hcs
  exact⟨none,[],0,by simpa using hcs,by simp,by simp,fun i hi=>absurd hi (by simp),fun _=>rfl,fun z hz=>by cases hz⟩
 ·simp at hcs
  have hlm:len≤m:=by rw[hmm];split <;> omega
  rw[k26]at hx
  have:Inhabited TxA:=⟨x0⟩
  obtain⟨f,hf⟩:=choose_lt (α:=TxA) (p:=fun i x=>w.cell? ((a.add (i*3)).add 0)=some (.slice x.ra x.rs.length x.rc)∧w.cell? ((a.add (i*3)).add 1)=some (.slice x.ga x.gs.length x.gc)∧w.cell? ((a.add (i*3)).add 2)=some (.slice x.sa x.ss.length x.sc)∧IsX w x∧V64 x) (n:=m) (fun i hi=>by
   obtain⟨cs',h1,h2⟩:=hx i hi
   obtain⟨_,hlen,hc⟩:=World.cells?_some h1
   match cs',hlen with
   | [c0,c1,c2],_=>
    obtain⟨x,rfl,rfl,rfl,hX⟩:=tx64_of h2
    exact⟨x,hc 0 (by omega),hc 1 (by omega),hc 2 (by omega),hX⟩)
  obtain⟨b,off,spot⟩:=a
  refine⟨some ⟨b,off,spot⟩,(List.range len).map f,cap,by simpa using hcs,by simp;omega,by simp;omega,fun i hi=>?_,fun h=>(by cases h),fun z hz=>?_⟩
  rotate_left
  ·obtain⟨i,hi,rfl⟩:=List.mem_map.1 hz
   have hi2:i<len:=by simpa using hi
   exact(hf i (by omega)).2.2.2.2
  have hi':i<len:=by simpa using hi
  have hsp:spot=none:=by
   have:=World.cell?_spot (hf 0 (by omega)).1
   simpa[Addr.add]using this
  subst hsp
  obtain⟨e0,e1,e2,eX,_⟩:=hf i (by omega)
  rw[qZ]at e0 e1 e2
  have eg:((List.range len).map f).getD i x0=f i:=by simp[List.getD,hi']
  rw[eg]
  exact⟨b,off,rfl,World.block_lt_of_cell? w _ e0,e0,e1,e2,eX⟩
theorem open_p64 {b0:Nat} {v:Value} {d:DataW H} {p:List MemPlace} (hv:Value.okWide Tryz.prog w .any b0 29 v) (h:DataW.Trod enc Tryz.prog w base (fun _=>true) held 29 v d p) :
  ∃(m:Int) (la:Option Addr) (l:List TxA) (lc:Nat),v=.agg #[.int .i64 m,.slice la l.length lc]∧IsTxs w la l∧∀x∈l,V64 x:=by
 obtain⟨c0,c1,y0,y1,m,rfl,_,_,h0,h1⟩:=Joins.open_agg2 Tryz.underlying29 (by kernel_rfl) (by kernel_rfl) hv h
 obtain⟨k,rfl⟩:=sS h0
 obtain⟨la,l,lc,rfl,_,_,hl,_,hv⟩:=open_txs64 h1
 exact⟨k,la,l,lc,rfl,hl,hv⟩
end
theorem lM {k n:Int} {r:Nat} (h:bD k n r=0):B1 k:=by
 unfold bD at h
 by_cases c0:(r:Int)<0∨4<(r:Int)
 ·rw[if_pos c0]at h;omega
 ·rw[if_neg c0]at h
  by_cases c1:k=1
  ·exact⟨by omega,by omega⟩
  ·rw[if_neg c1]at h
   by_cases c2:k=2
   ·exact⟨by omega,by omega⟩
   ·rw[if_pos c2]at h;omega
theorem holdE_kind {k:Int} (h:iT k=0):B1 k:=by
 unfold iT at h
 by_cases c:1≤k∧k≤4
 ·exact⟨by omega,by omega⟩
 ·rw[if_neg c]at h;omega
theorem reckE_kind {k:Int} (h:iN k=0):B1 k:=by
 unfold iN at h
 by_cases c:1≤k∧k≤6
 ·exact⟨by omega,by omega⟩
 ·rw[if_neg c]at h;omega
theorem okP_of {m:Int} {l:List TxA} (hE:aM m l=0) (hv:∀x∈l,V64 x):OkP (m,l.map TxA.core):=by
 obtain⟨m1,m2,hC⟩:=aY hE
 refine⟨⟨by simp only;omega,by simp only;omega⟩,by simp only[List.length_map];have:=eD hC;omega,fun c hc=>?_⟩
 obtain⟨x,hx,rfl⟩:=List.mem_map.1 hc
 obtain⟨k,hk,rfl⟩:=List.getElem_of_mem hx
 have hX:eT l[k]=0:=by
  have:=nR hC k hk
  simpa[List.getD,hk]using this
 have hvx:=hv _ hx
 generalize l[k]=x at *
 obtain⟨ra,ga,sa,rc,gc,sc,rs,gs,ss⟩:=x
 have hT:bA rs gs ss=0:=hX
 obtain⟨p1,p2,p3,p4⟩:=dH hT
 obtain⟨s1,s2,s3,_⟩:=bL _ _ _ p1
 obtain⟨q1,q2⟩:=mO hT
 have hg:∀z∈gs,cL rs.length z=0:=fun z hz=>by
  obtain⟨i,hi,rfl⟩:=List.getElem_of_mem hz
  have:=aR _ p3 i
  simpa[List.getD,hi]using this
 have hs:∀z∈ss,cU rs.length z=0:=fun z hz=>by
  obtain⟨i,hi,rfl⟩:=List.getElem_of_mem hz
  have:=aR _ p4 i
  simpa[List.getD,hi]using this
 refine⟨⟨by simp only[TxA.core];omega,fun z hz=>?_⟩,⟨by simp only[TxA.core];omega,fun z hz=>?_⟩,by simp only[TxA.core];omega,fun z hz=>?_⟩
 ·have:=gY rs q1 z hz
  exact⟨by omega,by omega⟩
 ·have h:=aR _ (hg z hz)
  have h0:iT z.k=0:=by simpa using h 0
  have h1:bD z.ak z.an rs.length=0:=by simpa using h 1
  have h2:bD z.bk z.bn rs.length=0:=by simpa using h 2
  exact⟨holdE_kind h0,lM h1,(hvx.1 z hz).1,lM h2,(hvx.1 z hz).2⟩
 ·have h:=aR _ (hs z hz)
  have h0:iN z.op=0:=by simpa using h 0
  have h1:bD z.ak z.an rs.length=0:=by simpa using h 1
  have h2:bD z.bk z.bn rs.length=0:=by simpa using h 2
  have hk:0≤z.key∧z.key<8:=gY _ q2 _ (List.mem_map.2 ⟨z,hz,rfl⟩)
  exact⟨⟨by omega,by omega⟩,reckE_kind h0,lM h1,(hvx.2 z hz).1,lM h2,(hvx.2 z hz).2⟩
end
end Go.Proofs.YtcgpkonfneofdaaGreatDoor
