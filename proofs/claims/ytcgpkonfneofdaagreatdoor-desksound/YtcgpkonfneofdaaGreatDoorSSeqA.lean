/- Conditions: those that each theorem states. -/
import Derived.Test.YtcgpkonfneofdaaGreatDoorSStoreM
set_option maxRecDepth 100000
set_option maxHeartbeats 8000000
namespace Go.Proofs.YtcgpkonfneofdaaGreatDoor
open Go.RowKit
theorem pG:∀(l:List TxA) (s:List Int),(∀x∈l,x.rs.length≤4)→∀r∈aT s l,r.2.length≤4
 | [],s,_,r,hr=>by cases hr
 | x::t,s,h,r,hr=>by
  rcases List.mem_cons.1 hr with rfl | hr
  ·show (bY s x.rs).length≤4
   rw[rX]
   exact h x (List.mem_cons_self)
  ·exact pG t _ (fun y hy=>h y (List.mem_cons_of_mem _ hy)) r hr
theorem chkL_mem {l:List TxA} (h:dD l=0) (x:TxA) (hx:x∈l):eT x=0:=by
 obtain⟨k,hk,rfl⟩:=List.mem_iff_getElem.1 hx
 have:=nR h k hk
 simpa[List.getD,hk]using this
theorem chkL_reads {l:List TxA} (h:dD l=0):∀x∈l,x.rs.length≤4:=fun x hx=>by
 have h1:bA x.rs x.gs x.ss=0:=chkL_mem h x hx
 exact(bL _ _ _ (dH h1).1).1
theorem sRes_vals (s:List Int) (l:List TxA):∀r∈bO s l,r.2.length≤100:=fun r hr=>by
 unfold bO at hr
 split at hr
 ·rename_i h
  have:=pG l s (chkL_reads (jI h).2) r hr
  omega
 ·cases hr
theorem Tryz.info95:(Tryz.prog.info? 95).map (fun i=>(i.zero,i.size,i.bytes))=some (some (.agg #[.slice none 0 0,.slice none 0 0,.slice none 0 0]),3,72):=by kernel_rfl
def gZ (x:TxA):List Value:=[.slice x.ra x.rs.length x.rc,.slice x.ga x.gs.length x.gc,.slice x.sa x.ss.length x.sc]
def fC:List TxA→List Value
 | []=>[]
 | x::l=>gZ x++fC l
theorem uY:∀l:List TxA,(fC l).length=l.length*3
 | []=>rfl
 | x::l=>by simp[fC,gZ,uY l];omega
theorem uZ:∀(l m:List TxA),fC (l++m)=fC l++fC m
 | [],_=>rfl
 | x::l,m=>by simp[fC,uZ l m]
theorem uX:∀(l:List TxA),∀u∈fC l,u.oneCell'=true
 | [],u,h=>by cases h
 | x::l,u,h=>by
   simp only[fC,List.mem_append]at h
   rcases h with h | h
   ·simp only[gZ,List.mem_cons,List.not_mem_nil,or_false]at h
    rcases h with rfl | rfl | rfl <;> rfl
   ·exact uX l u h
theorem flatX_at:∀(l:List TxA) (i j:Nat),i<l.length→j<3→(fC l)[i*3+j]?=(gZ (l.getD i x0))[j]?
 | [],i,j,h,_=>absurd h (by simp)
 | x::l,0,j,_,hj=>by
   simp only[fC,Nat.zero_mul,Nat.zero_add]
   rw[List.getElem?_append_left (by simpa[gZ]using hj)]
   rfl
 | x::l,i+1,j,h,hj=>by
   simp only[fC]
   rw[List.getElem?_append_right (by simp[gZ];omega)]
   have e:(i+1)*3+j - (gZ x).length=i*3+j:=by simp[gZ];omega
   rw[e,flatX_at l i j (by simpa using h) hj]
   rfl
theorem zB {w:World} {base:Nat} {v:Value} {n:Nat} {l:List TxA} (h:w.ownsRow base 95 3 v n (fC l)) (hx:∀x∈l,IsX w x):∃a cap,v=.slice a l.length cap∧IsTxs w a l:=by
 have hn:l.length=n:=by have:=h.1;rw[uY]at this;omega
 rcases h.2 with ⟨rfl,h0⟩ | ⟨g,cap,cur,rfl,hb,hg,hnc,hcm,hcs,htake⟩
 ·refine⟨none,0,by rw[hn,h0],fun i hi=>?_⟩
  omega
 ·refine⟨some ⟨g,0,none⟩,cap,by rw[hn],fun i hi=>?_⟩
  have hc:=fun (j:Nat) (hj:j<3) (u:Value) (hu:(gZ (l.getD i x0))[j]?=some u)=>h.cells (g:=g) rfl (i*3+j) u ((flatX_at l i j hi hj).trans hu)
  simp only[bC,Nat.zero_add]at hc
  refine⟨g,0,rfl,(Array.getElem?_eq_some_iff.1 hg).1,?_,?_,?_,?_⟩
  ·simpa using hc 0 (by omega) _ rfl
  ·simpa using hc 1 (by omega) _ rfl
  ·simpa using hc 2 (by omega) _ rfl
  ·exact hx _ (by simp[List.getD,hi])
theorem vals_few {s:List Int} {l:List TxA} (hE:fZ s l=0):∀r∈aT s l,r.2.length≤100:=by
 have h:=sRes_vals s l
 have e:bO s l=aT s l:=if_pos hE
 rw[e]at h
 exact h
theorem Tryz.info99:(Tryz.prog.info? 99).map (fun i=>(i.zero,i.size,i.bytes))=some (some (.agg #[.int .i64 0,.int .i64 0,.int .i64 0,.int .i64 0,.int .i64 0]),5,40):=by kernel_rfl
def iE (g:Gd):List Value:=[.int .i64 g.k,.int .i64 g.ak,.int .i64 g.an,.int .i64 g.bk,.int .i64 g.bn]
def jO:List Gd→List Value
 | []=>[]
 | g::gs=>iE g++jO gs
theorem flat_len:∀gs:List Gd,(jO gs).length=gs.length*5
 | []=>rfl
 | g::gs=>by simp[jO,iE,flat_len gs];omega
theorem flat_app:∀(gs hs:List Gd),jO (gs++hs)=jO gs++jO hs
 | [],_=>rfl
 | g::gs,hs=>by simp[jO,flat_app gs hs]
theorem flat_one:∀(gs:List Gd),∀u∈jO gs,u.oneCell'=true
 | [],u,h=>by cases h
 | g::gs,u,h=>by
   simp only[jO,List.mem_append]at h
   rcases h with h | h
   ·simp only[iE,List.mem_cons,List.not_mem_nil,or_false]at h
    rcases h with rfl | rfl | rfl | rfl | rfl <;> rfl
   ·exact flat_one gs u h
theorem flat_at:∀(gs:List Gd) (i j:Nat),i<gs.length→j<5→(jO gs)[i*5+j]?=(iE (gs.getD i g0))[j]?
 | [],i,j,h,_=>absurd h (by simp)
 | g::gs,0,j,_,hj=>by
   simp only[jO,Nat.zero_mul,Nat.zero_add]
   rw[List.getElem?_append_left (by simpa[iE]using hj)]
   rfl
 | g::gs,i+1,j,h,hj=>by
   simp only[jO]
   rw[List.getElem?_append_right (by simp[iE];omega)]
   have e:(i+1)*5+j - (iE g).length=i*5+j:=by simp[iE];omega
   rw[e,flat_at gs i j (by simpa using h) hj]
   rfl
theorem gs_of_owns {w:World} {base:Nat} {v:Value} {n:Nat} {gs:List Gd} (h:w.ownsRow base 99 5 v n (jO gs)):∃a cap,v=.slice a gs.length cap∧IsGs w a gs:=by
 have hn:gs.length=n:=by have:=h.1;rw[flat_len]at this;omega
 rcases h.2 with ⟨rfl,h0⟩ | ⟨g,cap,cur,rfl,hb,hg,hnc,hcm,hcs,htake⟩
 ·refine⟨none,0,by rw[hn,h0],fun i hi=>?_⟩
  omega
 ·refine⟨some ⟨g,0,none⟩,cap,by rw[hn],fun i hi=>?_⟩
  have hc:=fun (j:Nat) (hj:j<5) (u:Value) (hu:(iE (gs.getD i g0))[j]?=some u)=>h.cells (g:=g) rfl (i*5+j) u ((flat_at gs i j hi hj).trans hu)
  simp only[bC,Nat.zero_add]at hc
  refine⟨g,0,rfl,(Array.getElem?_eq_some_iff.1 hg).1,?_,?_,?_,?_,?_⟩
  ·simpa using hc 0 (by omega) _ rfl
  ·simpa using hc 1 (by omega) _ rfl
  ·simpa using hc 2 (by omega) _ rfl
  ·simpa using hc 3 (by omega) _ rfl
  ·simpa using hc 4 (by omega) _ rfl
theorem Tryz.info102:(Tryz.prog.info? 102).map (fun i=>(i.zero,i.size,i.bytes))=some (some (.agg #[.int .i64 0,.int .i64 0,.int .i64 0,.int .i64 0,.int .i64 0,.int .i64 0]),6,48):=by kernel_rfl
def hJ (g:St):List Value:=[.int .i64 g.key,.int .i64 g.op,.int .i64 g.ak,.int .i64 g.an,.int .i64 g.bk,.int .i64 g.bn]
def eL:List St→List Value
 | []=>[]
 | g::gs=>hJ g++eL gs
theorem vB:∀gs:List St,(eL gs).length=gs.length*6
 | []=>rfl
 | g::gs=>by simp[eL,hJ,vB gs];omega
theorem vA:∀(gs:List St),∀u∈eL gs,u.oneCell'=true
 | [],u,h=>by cases h
 | g::gs,u,h=>by
   simp only[eL,List.mem_append]at h
   rcases h with h | h
   ·simp only[hJ,List.mem_cons,List.not_mem_nil,or_false]at h
    rcases h with rfl | rfl | rfl | rfl | rfl | rfl <;> rfl
   ·exact vA gs u h
theorem flatS_at:∀(gs:List St) (i j:Nat),i<gs.length→j<6→(eL gs)[i*6+j]?=(hJ (gs.getD i s0))[j]?
 | [],i,j,h,_=>absurd h (by simp)
 | g::gs,0,j,_,hj=>by
   simp only[eL,Nat.zero_mul,Nat.zero_add]
   rw[List.getElem?_append_left (by simpa[hJ]using hj)]
   rfl
 | g::gs,i+1,j,h,hj=>by
   simp only[eL]
   rw[List.getElem?_append_right (by simp[hJ];omega)]
   have e:(i+1)*6+j - (hJ g).length=i*6+j:=by simp[hJ];omega
   rw[e,flatS_at gs i j (by simpa using h) hj]
   rfl
theorem ss_of_owns {w:World} {base:Nat} {v:Value} {n:Nat} {gs:List St} (h:w.ownsRow base 102 6 v n (eL gs)):∃a cap,v=.slice a gs.length cap∧IsSs w a gs:=by
 have hn:gs.length=n:=by have:=h.1;rw[vB]at this;omega
 rcases h.2 with ⟨rfl,h0⟩ | ⟨g,cap,cur,rfl,hb,hg,hnc,hcm,hcs,htake⟩
 ·refine⟨none,0,by rw[hn,h0],fun i hi=>?_⟩
  omega
 ·refine⟨some ⟨g,0,none⟩,cap,by rw[hn],fun i hi=>?_⟩
  have hc:=fun (j:Nat) (hj:j<6) (u:Value) (hu:(hJ (gs.getD i s0))[j]?=some u)=>h.cells (g:=g) rfl (i*6+j) u ((flatS_at gs i j hi hj).trans hu)
  simp only[bC,Nat.zero_add]at hc
  refine⟨g,0,rfl,(Array.getElem?_eq_some_iff.1 hg).1,?_,?_,?_,?_,?_,?_⟩
  ·simpa using hc 0 (by omega) _ rfl
  ·simpa using hc 1 (by omega) _ rfl
  ·simpa using hc 2 (by omega) _ rfl
  ·simpa using hc 3 (by omega) _ rfl
  ·simpa using hc 4 (by omega) _ rfl
  ·simpa using hc 5 (by omega) _ rfl
def InBlocks (lo hi:Nat) (a:Option Addr):Prop:=∀ad,a=some ad→lo≤ad.block∧ad.block<hi
theorem InBlocks.widen {lo hi lo' hi':Nat} {a:Option Addr} (h:InBlocks lo hi a) (h1:lo'≤lo) (h2:hi≤hi'):InBlocks lo' hi' a:=fun ad e=>⟨Nat.le_trans h1 (h ad e).1,Nat.lt_of_lt_of_le (h ad e).2 h2⟩
theorem wT {w:World} {base:Nat} {e:TypeId} {size:Nat} {a:Option Addr} {k c n:Nat} {xs:List Value} (h:w.ownsRow base e size (.slice a k c) n xs):InBlocks base w.heap.size a∧(a=none→c=0):=by
 rcases h.2 with ⟨he,_⟩ | ⟨g,cap,cur,he,hb,hg,_⟩
 ·injection he with e1 e2 e3
  subst e1 e3
  exact⟨fun ad e=>(by cases e),fun _=>rfl⟩
 ·injection he with e1 e2 e3
  subst e1
  refine⟨fun ad e=>?_,fun e=>by cases e⟩
  injection e with e
  subst e
  exact⟨hb,(Array.getElem?_eq_some_iff.1 hg).1⟩
end Go.Proofs.YtcgpkonfneofdaaGreatDoor
