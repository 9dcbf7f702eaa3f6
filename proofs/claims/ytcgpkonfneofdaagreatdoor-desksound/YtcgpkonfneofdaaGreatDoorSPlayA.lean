/- Conditions: those that each theorem states. -/
import Derived.Test.YtcgpkonfneofdaaGreatDoorSEithA
set_option maxRecDepth 100000
set_option maxHeartbeats 8000000
namespace Go.Proofs.YtcgpkonfneofdaaGreatDoor
open Go.RowKit
section
def lQ (c:Int) (n:Nat):Nat:=if c<0 then ((-(c+1))%(n:Int)).toNat else (c%(n:Int)).toNat
theorem xR (c:Int) {n:Nat} (h:0<n):lQ c n<n:=by
 unfold lQ
 split
 ·have:=Int.emod_lt_of_pos (-(c+1)) (b:=(n:Int)) (by omega)
  have:=Int.emod_nonneg (-(c+1)) (b:=(n:Int)) (by omega)
  omega
 ·have:=Int.emod_lt_of_pos c (b:=(n:Int)) (by omega)
  have:=Int.emod_nonneg c (b:=(n:Int)) (by omega)
  omega
theorem vO (c:Int) (n:Nat) (w:World) (hc:(Lit.int .i64 c).wf=true) (hn:0<n) (hn':n≤100) :
  Calls Tryz.prog 10 #[.int .i64 c,.int .i64 n] w fun e w'=>e=.returned (.int .i64 (lQ c n:Nat))∧w'=w:=by
 obtain⟨c1,c2⟩:=wf_bounds hc
 clear hc
 by_cases h:c<0
 ·have h1:0≤(-(c+1))%(n:Int):=Int.emod_nonneg _ (by omega)
  have e0:lQ c n=((-(c+1))%(n:Int)).toNat:=if_pos h
  rw[e0]
  generalize hk:((-(c+1))%(n:Int)).toNat=K
  go_enter Tryz.func10,Tryz.ntmps10
  go_wp2
  go_ret
  refine⟨?_,rfl⟩
  show Ending.returned (Value.int .i64 (-(c+1).tmod ↑n))=_
  rw[←hk,Int.toNat_of_nonneg h1,←Int.neg_tmod,Int.tmod_eq_emod_of_nonneg (by omega)]
 ·have h1:0≤c%(n:Int):=Int.emod_nonneg _ (by omega)
  have e0:lQ c n=(c%(n:Int)).toNat:=if_neg h
  rw[e0]
  generalize hk:(c%(n:Int)).toNat=K
  go_enter Tryz.func10,Tryz.ntmps10
  go_wp2
  go_ret
  refine⟨?_,rfl⟩
  show Ending.returned (Value.int .i64 (c % ↑n))=_
  rw[←hk,Int.toNat_of_nonneg h1]
theorem put4 {w:World} {R:Nat} (q:Q4) {u0 u1 u2 u3:Value} (t0:w.cell? ⟨R,0,none⟩=some u0) (t1:w.cell? ⟨R,1,none⟩=some u1) (t2:w.cell? ⟨R,2,none⟩=some u2) (t3:w.cell? ⟨R,3,none⟩=some u3):((((w.setCell ⟨R,0,none⟩ (.slice q.sa q.sn q.sc)).setCell ⟨R,1,none⟩ (.slice q.ra q.rn q.rc)).setCell ⟨R,2,none⟩ (.slice q.wa q.wn q.tc)).setCell ⟨R,3,none⟩ (.slice q.va q.vn q.vc)).cell? ⟨R,0,none⟩=some (.slice q.sa q.sn q.sc)∧((((w.setCell ⟨R,0,none⟩ (.slice q.sa q.sn q.sc)).setCell ⟨R,1,none⟩ (.slice q.ra q.rn q.rc)).setCell ⟨R,2,none⟩ (.slice q.wa q.wn q.tc)).setCell ⟨R,3,none⟩ (.slice q.va q.vn q.vc)).cell? ⟨R,1,none⟩=some (.slice q.ra q.rn q.rc)∧((((w.setCell ⟨R,0,none⟩ (.slice q.sa q.sn q.sc)).setCell ⟨R,1,none⟩ (.slice q.ra q.rn q.rc)).setCell ⟨R,2,none⟩ (.slice q.wa q.wn q.tc)).setCell ⟨R,3,none⟩ (.slice q.va q.vn q.vc)).cell? ⟨R,2,none⟩=some (.slice q.wa q.wn q.tc)∧((((w.setCell ⟨R,0,none⟩ (.slice q.sa q.sn q.sc)).setCell ⟨R,1,none⟩ (.slice q.ra q.rn q.rc)).setCell ⟨R,2,none⟩ (.slice q.wa q.wn q.tc)).setCell ⟨R,3,none⟩ (.slice q.va q.vn q.vc)).cell? ⟨R,3,none⟩=some (.slice q.va q.vn q.vc):=⟨(aE (by decide) (aE (by decide) (aE (by decide) (aK t0)))),(aE (by decide) (aE (by decide) (aK (aE (by decide) t1)))),(aE (by decide) (aK (aE (by decide) (aE (by decide) t2)))),(aK (aE (by decide) (aE (by decide) (aE (by decide) t3))))⟩
variable (la:Option Addr) (lc:Nat) (l:List TxA) (sa:Option Addr) (sc:Nat) (s:List Int) (pa:Option Addr) (pc:Nat) (pk:List Int)
end
theorem gotSteps_ok (a:Option Addr) (k c:Nat) (w:World):Calls Tryz.prog 179 #[.slice a k c,.int .i64 0] w fun e' w'=>e'=.returned (.slice a k c)∧w'=w.alloc (.cells #[.int .i64 0] 22):=by
 go_enter Tryz.func179,Tryz.ntmps179
 go_wp2_with fail
 refine(aO [0] _ 1 _ (by simp) rfl (cD _ _ _ rfl)).mono ?_
 rintro e w' ⟨rfl,rfl⟩
 go_wp2
 go_ret
 exact⟨rfl,rfl⟩
theorem xH (b:Bool) (w:World):Calls Tryz.prog 177 #[.bool b,.int .i64 0] w fun e' w'=>e'=.returned (.bool b)∧w'=w.alloc (.cells #[.int .i64 0] 22):=by
 go_enter Tryz.func177,Tryz.ntmps177
 go_wp2_with fail
 refine(aO [0] _ 1 _ (by simp) rfl (cD _ _ _ rfl)).mono ?_
 rintro e w' ⟨rfl,rfl⟩
 go_wp2
 go_ret
 exact⟨rfl,rfl⟩
theorem pR (q:Q4) (w:World):Calls Tryz.prog 39 #[.agg #[.slice q.sa q.sn q.sc,.slice q.ra q.rn q.rc,.slice q.wa q.wn q.tc,.slice q.va q.vn q.vc],.int .i64 0] w fun e' w'=>e'=.returned (.agg #[.slice q.sa q.sn q.sc,.slice q.ra q.rn q.rc,.slice q.wa q.wn q.tc,.slice q.va q.vn q.vc])∧Below w.heap.size w w':=by
 obtain⟨W,hWe⟩:∃W:World,W=((w.alloc (.cells #[.slice q.sa q.sn q.sc,.slice q.ra q.rn q.rc,.slice q.wa q.wn q.tc,.slice q.va q.vn q.vc] 45)).alloc (.cells #[.slice none 0 0,.slice none 0 0,.slice none 0 0,.slice none 0 0] 45)):=⟨_,rfl⟩
 have hW:Hid (Below w.heap.size w W):=by subst hWe;exact aA (aA (Below.refl _ _) _) _
 have p0:W.cell? ⟨w.heap.size,0,none⟩=some (.slice q.sa q.sn q.sc):=by subst hWe;exact aB (aA (Below.refl _ _) _) (aG _ _ 45 _ 0 _ rfl rfl)
 have p1:W.cell? ⟨w.heap.size,1,none⟩=some (.slice q.ra q.rn q.rc):=by subst hWe;exact aB (aA (Below.refl _ _) _) (aG _ _ 45 _ 1 _ rfl rfl)
 have p2:W.cell? ⟨w.heap.size,2,none⟩=some (.slice q.wa q.wn q.tc):=by subst hWe;exact aB (aA (Below.refl _ _) _) (aG _ _ 45 _ 2 _ rfl rfl)
 have p3:W.cell? ⟨w.heap.size,3,none⟩=some (.slice q.va q.vn q.vc):=by subst hWe;exact aB (aA (Below.refl _ _) _) (aG _ _ 45 _ 3 _ rfl rfl)
 have r0:W.cell? ⟨w.heap.size+1,0,none⟩=some (.slice none 0 0):=by subst hWe;exact aG _ _ 45 _ 0 _ (by simp) rfl
 have r1:W.cell? ⟨w.heap.size+1,1,none⟩=some (.slice none 0 0):=by subst hWe;exact aG _ _ 45 _ 1 _ (by simp) rfl
 have r2:W.cell? ⟨w.heap.size+1,2,none⟩=some (.slice none 0 0):=by subst hWe;exact aG _ _ 45 _ 2 _ (by simp) rfl
 have r3:W.cell? ⟨w.heap.size+1,3,none⟩=some (.slice none 0 0):=by subst hWe;exact aG _ _ 45 _ 3 _ (by simp) rfl
 have rf:∀j,W.frozen? ⟨w.heap.size+1,j,none⟩=false:=by subst hWe;exact fun j=>cO _ _ 45 _ j (by simp)
 have sz:Hid (W.heap.size=w.heap.size+2):=by subst hWe;show _=_;simp
 have HWe:Hid (W=_):=hWe
 clear hWe
 go_enter Tryz.func39,Tryz.ntmps39
 go_upto_region 1 with fail
 rw[←HWe.out]
 clear HWe
 go_wp2_with fail
 refine(aO [0] _ 1 _ (by simp) rfl (cD _ _ _ rfl)).mono ?_
 rintro e w' ⟨rfl,rfl⟩
 have gA:Below W.heap.size W (W.alloc (.cells #[.int .i64 0] 22)):=aA (Below.refl _ _) _
 have p0:=aB gA p0
 have p1:=aB gA p1
 have p2:=aB gA p2
 have p3:=aB gA p3
 have r0:=aB gA r0
 have r1:=aB gA r1
 have r2:=aB gA r2
 have r3:=aB gA r3
 have rf:∀j,(W.alloc (.cells #[.int .i64 0] 22)).frozen? ⟨w.heap.size+1,j,none⟩=false:=fun j=>(gA.frozen (p:=⟨w.heap.size+1,j,none⟩) (by have:=sz.out;show w.heap.size+1<_;omega)).trans (rf j)
 have BF:Hid (Below w.heap.size w (W.alloc (.cells #[.int .i64 0] 22))):=aC hW.out gA
 clear gA
 generalize W.alloc (.cells #[.int .i64 0] 22)=V at *
 obtain⟨x0,x1,x2,x3⟩:=put4 q r0 r1 r2 r3
 have FB:Hid (Below w.heap.size w ((((V.setCell ⟨w.heap.size+1,0,none⟩ (.slice q.sa q.sn q.sc)).setCell ⟨w.heap.size+1,1,none⟩ (.slice q.ra q.rn q.rc)).setCell ⟨w.heap.size+1,2,none⟩ (.slice q.wa q.wn q.tc)).setCell ⟨w.heap.size+1,3,none⟩ (.slice q.va q.vn q.vc))):=aI (aI (aI (aI BF.out (by simp) _) (by simp) _) (by simp) _) (by simp) _
 go_wp2_with fail
 refine bodyPost_ret (v:=.agg #[.slice q.sa q.sn q.sc,.slice q.ra q.rn q.rc,.slice q.wa q.wn q.tc,.slice q.va q.vn q.vc]) (by simp[results,Tryz.results39,go_sem,x0,x1,x2,x3]) rfl ⟨rfl,FB.out⟩
end Go.Proofs.YtcgpkonfneofdaaGreatDoor
