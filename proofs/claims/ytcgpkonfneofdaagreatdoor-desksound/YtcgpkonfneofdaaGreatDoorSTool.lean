/- Conditions: those that each theorem states. -/
import Derived.Test.YtcgpkonfneofdaaGreatDoorSFrame
import Derived.Deep.RegionHeld
import Derived.Deep.RegionLaw
import Derived.Deep.DeepCutAuto
import Derived.Maps.AppendAt
import Derived.Lib.SliceRun
import Derived.Deep.AppendLies
set_option maxRecDepth 100000
set_option maxHeartbeats 8000000
namespace Go.Proofs.YtcgpkonfneofdaaGreatDoor
open Go.RowKit
theorem gG {α:Type} (l:List α) (k:Nat) (d:α) (h:k<l.length):l.drop k=l.getD k d::l.drop (k+1):=by
 rw[List.drop_eq_getElem_cons h]
 simp[List.getD,h]
def bI:List Int→Int
 | []=>0
 | z::t=>if z<0∨8≤z then 3 else bI t
def eY:List Int→Int
 | []=>0
 | [_]=>0
 | x::y::t=>if y≤x then 1 else eY (y::t)
def aF:List Int→Int
 | []=>0
 | e::l=>if e=0 then aF l else e
theorem aAg (l:List Int) (k:Nat) (h:k<l.length):bI (l.drop k)=if l.getD k 0<0∨8≤l.getD k 0 then 3 else bI (l.drop (k+1)):=by
 rw[gG l k 0 h];rfl
theorem riseE_step (l:List Int) (k:Nat) (h:k+1<l.length):eY (l.drop k)=if l.getD (k+1) 0≤l.getD k 0 then 1 else eY (l.drop (k+1)):=by
 rw[gG l k 0 (by omega),gG l (k+1) 0 h];rfl
theorem riseE_end (l:List Int) (k:Nat) (h:l.length≤k+1):eY (l.drop k)=0:=by
 have hl:(l.drop k).length≤1:=by rw[List.length_drop];omega
 match hd:l.drop k,hl with
 | [],_=>rfl
 | [_],_=>rfl
def kV (v:Int):List Int→Int→Int
 | [],_=>-1
 | z::t,i=>if v=z then i else kV v t (i+1)
theorem idxE_step (v:Int) (l:List Int) (k:Nat) (h:k<l.length):kV v (l.drop k) k=if v=l.getD k 0 then (k:Int) else kV v (l.drop (k+1)) (k+1:Nat):=by
 rw[gG l k 0 h];rfl
theorem idxE_mem (v:Int):∀(l:List Int) (i:Int),0≤i→decide (0≤kV v l i)=decide (v∈l)
 | [],i,_=>by simp[kV]
 | z::t,i,h=>by
  unfold kV
  by_cases hv:v=z
  ·rw[if_pos hv];simp[hv,h]
  ·rw[if_neg hv,idxE_mem v t (i+1) (by omega)];simp[hv]
theorem same_step (l m:List Int) (k:Nat) (h:k<l.length) (h':k<m.length):(l.drop k=m.drop k)↔(l.getD k 0=m.getD k 0∧l.drop (k+1)=m.drop (k+1)):=by
 rw[gG l k 0 h,gG m k 0 h',List.cons.injEq]
theorem eZ (zs:List Int) (a:Option Addr) (cap:Nat) (w:World) (hl:zs.length≤maxLen) (hz:IsInts w a zs) :
  Calls Tryz.prog 167 #[.slice a zs.length cap] w fun e w'=>e=.returned (.int .i64 (bI zs))∧w'=w:=by
 unfold maxLen at hl
 go_enter Tryz.func167,Tryz.ntmps167
 go_wp2
 go_loop [4,7] (fun _ i=>∃k:Nat,k≤zs.length∧i=.int .i64 k∧Hid (bI zs=bI (zs.drop k))) (fun _ i=>zs.length - (intOf i).toNat)
 case atStart=>exact⟨0,Nat.zero_le _,rfl,rfl⟩
 case round=>
  obtain⟨k,hk,rfl,hno⟩:=hrel
  by_cases hlt:k<zs.length
  ·obtain⟨b,off,rfl,hb,hc⟩:=hz k hlt
   have hs:Hid (bI zs=if zs.getD k 0<0∨8≤zs.getD k 0 then 3 else bI (zs.drop (k+1))):=hno.out.trans (aAg zs k hlt)
   generalize zs.getD k 0=z at *
   clear hno hz
   by_cases h1:z<0
   ·have H':Hid (bI zs=3):=hs.out.trans (if_pos (by omega))
    clear hs
    go_wp2
    go_ret
    exact⟨by rw[H'.out];rfl,rfl⟩
   ·by_cases h2:8≤z
    ·have H':Hid (bI zs=3):=hs.out.trans (if_pos (by omega))
     clear hs
     go_wp2
     go_ret
     exact⟨by rw[H'.out];rfl,rfl⟩
    ·have H':Hid (bI zs=bI (zs.drop (k+1))):=hs.out.trans (if_neg (by omega))
     clear hs
     go_wp2
     go_round
     case rel=>exact⟨k+1,by omega,by go_num,H'⟩
     case measure=>simp[intOf];omega
  ·have H':Hid (bI zs=0):=by
    have h0:=hno.out
    rw[List.drop_of_length_le (by omega)]at h0
    exact h0
   clear hno hz
   go_wp2
   go_ret
   exact⟨by rw[H'.out];rfl,rfl⟩
theorem fQ (zs:List Int) (a:Option Addr) (cap:Nat) (w:World) (hl:zs.length≤maxLen) (hz:IsInts w a zs) :
  Calls Tryz.prog 168 #[.slice a zs.length cap] w fun e w'=>e=.returned (.int .i64 (eY zs))∧Below w.heap.size w w':=by
 unfold maxLen at hl
 go_enter Tryz.func168,Tryz.ntmps168
 go_wp2
 go_loopw [3] (fun i wr=>∃k:Nat,k≤zs.length∧i=.int .i64 (k+1:Nat)∧Hid (eY zs=eY (zs.drop k))∧Below w.heap.size w wr) (fun i _=>zs.length+1 - (intOf i).toNat)
 case atStart=>exact⟨0,Nat.zero_le _,rfl,rfl,Below.refl _ _⟩
 case round=>
  obtain⟨k,hk,rfl,hno,hnx⟩:=hrel
  by_cases hlt:k+1<zs.length
  ·obtain⟨b,off,rfl,hb,hc⟩:=hz (k+1) hlt
   obtain⟨b',off',hbo,hb',hc'⟩:=hz k (by omega)
   simp only[Option.some.injEq,Addr.mk.injEq,and_true]at hbo
   obtain⟨rfl,rfl⟩:=hbo
   have hc:=(hnx.cell (p:=⟨b,off+(k+1),none⟩) hb).trans hc
   have hc':=(hnx.cell (p:=⟨b,off+k,none⟩) hb).trans hc'
   have HX:Hid (Below w.heap.size w wr):=hnx
   clear hnx
   have hs:Hid (eY zs=if zs.getD (k+1) 0≤zs.getD k 0 then 1 else eY (zs.drop (k+1))):=hno.out.trans (riseE_step zs k hlt)
   generalize zs.getD (k+1) 0=y at *
   generalize zs.getD k 0=x at *
   clear hno hz
   have i1:(0:Int)≤(k:Int)+1:=by omega
   have i2:((k:Int)+1)<(zs.length:Int):=by omega
   by_cases hyx:y≤x
   ·have H':Hid (eY zs=1):=hs.out.trans (if_pos hyx)
    clear hs
    go_wp2_with fail
    go_quiet (fail)
    go_wp2
    go_ret
    exact⟨by rw[H'.out];rfl,below_drewN HX.out _⟩
   ·have H':Hid (eY zs=eY (zs.drop (k+1))):=hs.out.trans (if_neg hyx)
    clear hs
    go_wp2_with fail
    go_quiet (fail)
    go_wp2
    go_roundw
    case rel=>exact⟨k+1,by omega,by go_num,H',below_drewN HX.out _⟩
    case measure=>simp[intOf];omega
  ·have H':Hid (eY zs=0):=hno.out.trans (riseE_end zs k (by omega))
   clear hno hz
   go_wp2
   go_ret
   exact⟨by rw[H'.out];rfl,hnx⟩
theorem index_any (v:Int) (zs:List Int) (a:Option Addr) (cap:Nat) (w:World) (hl:zs.length≤maxLen) (hz:IsInts w a zs) :
  Calls Tryz.prog 282 #[.slice a zs.length cap,.int .i64 v] w fun e w'=>e=.returned (.int .i64 (kV v zs 0))∧w'=w:=by
 unfold maxLen at hl
 go_enter Tryz.func282,Tryz.ntmps282
 go_wp2
 go_loop [5,8] (fun _ i=>∃k:Nat,k≤zs.length∧i=.int .i64 k∧Hid (kV v zs 0=kV v (zs.drop k) k)) (fun _ i=>zs.length - (intOf i).toNat)
 case atStart=>exact⟨0,Nat.zero_le _,rfl,rfl⟩
 case round=>
  obtain⟨k,hk,rfl,hno⟩:=hrel
  by_cases hlt:k<zs.length
  ·obtain⟨b,off,rfl,hb,hc⟩:=hz k hlt
   have hs:Hid (kV v zs 0=if v=zs.getD k 0 then (k:Int) else kV v (zs.drop (k+1)) (k+1:Nat)):=hno.out.trans (idxE_step v zs k hlt)
   generalize zs.getD k 0=z at *
   clear hno hz
   by_cases h1:v=z
   ·have H':Hid (kV v zs 0=(k:Int)):=hs.out.trans (if_pos h1)
    have h2:(v==z)=true:=by simpa using h1
    clear hs h1
    go_wp2
    go_ret
    exact⟨by rw[H'.out];rfl,rfl⟩
   ·have H':Hid (kV v zs 0=kV v (zs.drop (k+1)) (k+1:Nat)):=hs.out.trans (if_neg h1)
    have h2:(v==z)=false:=by simpa using h1
    clear hs h1
    go_wp2
    go_round
    case rel=>exact⟨k+1,by omega,by go_num,H'⟩
    case measure=>simp[intOf];omega
  ·have H':Hid (kV v zs 0 = -1):=by
    have h0:=hno.out
    rw[List.drop_of_length_le (by omega)]at h0
    exact h0
   clear hno hz
   go_wp2
   go_ret
   exact⟨by rw[H'.out];rfl,rfl⟩
theorem bP (v:Int) (zs:List Int) (a:Option Addr) (cap:Nat) (w:World) (hl:zs.length≤maxLen) (hz:IsInts w a zs) :
  Calls Tryz.prog 270 #[.slice a zs.length cap,.int .i64 v] w fun e w'=>e=.returned (.bool (decide (v∈zs)))∧w'=w:=by
 have H:Hid (decide (0≤kV v zs 0)=decide (v∈zs)):=idxE_mem v zs 0 (Int.le_refl _)
 go_enter Tryz.func270,Tryz.ntmps270
 go_wp2_with fail
 refine(index_any v zs a cap _ hl hz).mono ?_
 rintro e w' ⟨rfl,rfl⟩
 clear hz
 generalize kV v zs 0=r at *
 go_wp2
 go_ret
 exact⟨by rw[←H.out];rfl,rfl⟩
section
structure Gd where
 k:Int
 ak:Int
 an:Int
 bk:Int
 bn:Int
structure St where
 key:Int
 op:Int
 ak:Int
 an:Int
 bk:Int
 bn:Int
def g0:Gd:=⟨0,0,0,0,0⟩
def s0:St:=⟨0,0,0,0,0,0⟩
def aH (ss:List St):List Int:=ss.map St.key
def IsGs (w:World) (a:Option Addr) (gs:List Gd):Prop:=
 ∀i,i<gs.length→∃b off,a=some ⟨b,off,none⟩∧b<w.heap.size∧w.cell? ⟨b,off+i*5,none⟩=some (.int .i64 (gs.getD i g0).k)∧w.cell? ⟨b,off+i*5+1,none⟩=some (.int .i64 (gs.getD i g0).ak)∧
  w.cell? ⟨b,off+i*5+2,none⟩=some (.int .i64 (gs.getD i g0).an)∧w.cell? ⟨b,off+i*5+3,none⟩=some (.int .i64 (gs.getD i g0).bk)∧w.cell? ⟨b,off+i*5+4,none⟩=some (.int .i64 (gs.getD i g0).bn)
def IsSs (w:World) (a:Option Addr) (ss:List St):Prop:=
 ∀i,i<ss.length→∃b off,a=some ⟨b,off,none⟩∧b<w.heap.size∧w.cell? ⟨b,off+i*6,none⟩=some (.int .i64 (ss.getD i s0).key)∧w.cell? ⟨b,off+i*6+1,none⟩=some (.int .i64 (ss.getD i s0).op)∧
  w.cell? ⟨b,off+i*6+2,none⟩=some (.int .i64 (ss.getD i s0).ak)∧w.cell? ⟨b,off+i*6+3,none⟩=some (.int .i64 (ss.getD i s0).an)∧w.cell? ⟨b,off+i*6+4,none⟩=some (.int .i64 (ss.getD i s0).bk)∧w.cell? ⟨b,off+i*6+5,none⟩=some (.int .i64 (ss.getD i s0).bn)
theorem IsGs.below {w w':World} {a:Option Addr} {gs:List Gd} (h:IsGs w a gs) (hb:Below w.heap.size w w'):IsGs w' a gs:=by
 intro i hi
 obtain⟨b,off,ha,hlt,h0,h1,h2,h3,h4⟩:=h i hi
 refine⟨b,off,ha,Nat.lt_of_lt_of_le hlt hb.size,?_,?_,?_,?_,?_⟩ <;> (rw[hb.cell hlt];assumption)
theorem IsSs.below {w w':World} {a:Option Addr} {ss:List St} (h:IsSs w a ss) (hb:Below w.heap.size w w'):IsSs w' a ss:=by
 intro i hi
 obtain⟨b,off,ha,hlt,h0,h1,h2,h3,h4,h5⟩:=h i hi
 refine⟨b,off,ha,Nat.lt_of_lt_of_le hlt hb.size,?_,?_,?_,?_,?_,?_⟩ <;> (rw[hb.cell hlt];assumption)
structure IsTx (w:World) (ra ga sa:Option Addr) (rs:List Int) (gs:List Gd) (ss:List St):Prop where
 r:IsInts w ra rs
 g:IsGs w ga gs
 s:IsSs w sa ss
 lr:rs.length≤maxLen
 lg:gs.length≤maxLen
 ls:ss.length≤maxLen
theorem IsTx.below {w w':World} {ra ga sa:Option Addr} {rs:List Int} {gs:List Gd} {ss:List St} (h:IsTx w ra ga sa rs gs ss) (hb:Below w.heap.size w w'):IsTx w' ra ga sa rs gs ss:=
 ⟨h.r.below hb,h.g.below hb,h.s.below hb,h.lr,h.lg,h.ls⟩
theorem dO (ss:List St):(aH ss).length=ss.length:=by simp[aH]
theorem aBd (ss:List St) (k:Nat) (h:k<ss.length):(aH ss).getD k 0=(ss.getD k s0).key:=by
 simp[aH,List.getD,h]
def bF (r g s:Nat):Int:=if 4<r∨2<g∨3<s∨s=0 then 2 else 0
variable (ra ga sa:Option Addr) (rc gc sc:Nat) (rs:List Int) (gs:List Gd) (ss:List St)
theorem jB (w:World) (ht:IsTx w ra ga sa rs gs ss) :
  Calls Tryz.prog 165 #[.agg #[.slice ra rs.length rc,.slice ga gs.length gc,.slice sa ss.length sc]] w fun e w'=>e=.returned (.int .i64 (bF rs.length gs.length ss.length))∧w'=w.alloc (.cells #[.slice ra rs.length rc,.slice ga gs.length gc,.slice sa ss.length sc] 95):=by
 obtain⟨_,_,_,hlr,hlg,hls⟩:=ht
 unfold maxLen at hlr hlg hls
 generalize rs.length=r at *
 generalize gs.length=g at *
 generalize ss.length=s at *
 by_cases h1:4<r
 ·have H:Hid (bF r g s=2):=if_pos (by omega)
  have b1:(4:Int)<(r:Int):=by omega
  go_enter Tryz.func165,Tryz.ntmps165
  go_wp2
  go_ret
  exact⟨by rw[H.out];rfl,rfl⟩
 ·by_cases h2:2<g
  ·have H:Hid (bF r g s=2):=if_pos (by omega)
   have b1:¬(4:Int)<(r:Int):=by omega
   have b2:(2:Int)<(g:Int):=by omega
   go_enter Tryz.func165,Tryz.ntmps165
   go_wp2
   go_ret
   exact⟨by rw[H.out];rfl,rfl⟩
  ·by_cases h3:3<s
   ·have H:Hid (bF r g s=2):=if_pos (by omega)
    have b1:¬(4:Int)<(r:Int):=by omega
    have b2:¬(2:Int)<(g:Int):=by omega
    have b3:(3:Int)<(s:Int):=by omega
    go_enter Tryz.func165,Tryz.ntmps165
    go_wp2
    go_ret
    exact⟨by rw[H.out];rfl,rfl⟩
   ·by_cases h4:s=0
    ·have H:Hid (bF r g s=2):=if_pos (by omega)
     subst h4
     have b1:¬(4:Int)<(r:Int):=by omega
     have b2:¬(2:Int)<(g:Int):=by omega
     go_enter Tryz.func165,Tryz.ntmps165
     go_wp2
     go_ret
     exact⟨by rw[H.out];rfl,rfl⟩
    ·have H:Hid (bF r g s=0):=if_neg (by omega)
     have b1:¬(4:Int)<(r:Int):=by omega
     have b2:¬(2:Int)<(g:Int):=by omega
     have b3:¬(3:Int)<(s:Int):=by omega
     have b4:((s:Int)==0)=false:=by simp;omega
     go_enter Tryz.func165,Tryz.ntmps165
     go_wp2
     go_ret
     exact⟨by rw[H.out];rfl,rfl⟩
end
section
theorem Tryz.info3:(Tryz.prog.info? 3).map (fun i=>(i.zero,i.size,i.bytes))=some (some (.int .i64 0),1,8):=by kernel_rfl
theorem fB {w:World} {base:Nat} {v:Value} {n:Nat} {zs:List Int} (h:w.ownsRow base 3 1 v n (zs.map (Value.int .i64))):∃a cap,v=.slice a zs.length cap∧IsInts w a zs:=by
 have hn:zs.length=n:=by have:=h.1;simpa using this
 rcases h.2 with ⟨rfl,h0⟩ | ⟨g,cap,cur,rfl,hb,hg,hnc,hcm,hcs,htake⟩
 ·refine⟨none,0,by rw[hn,h0],fun i hi=>?_⟩
  omega
 ·refine⟨some ⟨g,0,none⟩,cap,by rw[hn],fun i hi=>⟨g,0,rfl,(Array.getElem?_eq_some_iff.1 hg).1,?_⟩⟩
  have hc:=h.cellAt i (by omega)
  rw[Nat.zero_add,hc]
  simp[List.getD,hi]
theorem nG (w:World) (x:Int) (s:Nat) (hs:s=w.heap.size):∀j u,[Value.int .i64 x][j]?=some u→(w.alloc (.cells #[.int .i64 x] 3)).cell? ((⟨s,0,none⟩:Addr).add j)=some u:=by
 subst hs
 intro j u hj
 match j,hj with
 | 0,hj=>simp at hj;subst hj;simp[Addr.add]
theorem take_keys (ss:List St) (k:Nat) (h:k<ss.length):(aH ss).take (k+1)=(aH ss).take k++[(ss.getD k s0).key]:=by
 rw[List.take_succ_eq_append_getElem (by rw[dO];exact h)]
 simp[aH,List.getD,h]
variable (ra ga sa:Option Addr) (rc gc sc:Nat) (rs:List Int) (gs:List Gd) (ss:List St)
theorem zJ (w:World) (ht:IsTx w ra ga sa rs gs ss) (h3:ss.length≤3) :
  Calls Tryz.prog 166 #[.agg #[.slice ra rs.length rc,.slice ga gs.length gc,.slice sa ss.length sc]] w fun e w'=>∃v,e=.returned v∧w'.ownsRow (w.heap.size+1) 3 1 v ss.length ((aH ss).map (Value.int .i64))∧Below w.heap.size w w':=by
 obtain⟨_,_,hz,_,_,_⟩:=ht
 obtain⟨i0,hi,hz0,hz1,hz2⟩:=info_parts Tryz.info3
 have hkl:Hid ((aH ss).length=ss.length):=dO ss
 go_enter Tryz.func166,Tryz.ntmps166
 go_wp2
 go_loopw [3,5,9] (fun v _ i wr=>∃k:Nat,k≤ss.length∧i=.int .i64 k∧wr.ownsRow (w.heap.size+1) 3 1 v k (((aH ss).take k).map (Value.int .i64))∧Below (w.heap.size+1) (w.alloc (.cells #[.slice ra rs.length rc,.slice ga gs.length gc,.slice sa ss.length sc] 95)) wr) (fun _ _ i _=>ss.length - (intOf i).toNat)
 case atStart=>exact⟨0,Nat.zero_le _,rfl,World.ownsRow_nil _ _ _ _,Below.refl _ _⟩
 case round=>
  obtain⟨k,hk,rfl,hown,hnx⟩:=hrel
  have hsz:w.heap.size+1≤wr.heap.size:=by have:=hnx.size;simpa using this
  by_cases hlt:k<ss.length
  ·obtain⟨b,off,rfl,hb,c0,c1,c2,c3,c4,c5⟩:=hz k hlt
   have up:∀j u,w.cell? ⟨b,j,none⟩=some u→wr.cell? ⟨b,j,none⟩=some u:=fun j u h=>
    (hnx.cell (p:=⟨b,j,none⟩) (Nat.lt_succ_of_lt hb)).trans ((World.cell?_alloc_lt _ _ ⟨b,j,none⟩ hb).trans h)
   have d0:=up _ _ c0
   have d1:=up _ _ c1
   have d2:=up _ _ c2
   have d3:=up _ _ c3
   have d4:=up _ _ c4
   have d5:=up _ _ c5
   have HT:Hid ((aH ss).take (k+1)=(aH ss).take k++[(ss.getD k s0).key]):=take_keys ss k hlt
   clear c0 c1 c2 c3 c4 c5 up hz
   generalize (ss.getD k s0)=s at *
   obtain⟨key,op,ak,an,bk,bn⟩:=s
   simp only at d0 d1 d2 d3 d4 d5
   go_wp2_with (first
    | (at_builtin;refine wpList_append_own _ rfl _ _ 41 rfl (w.heap.size+1) 3 i0 (.int .i64 0) 1 8 Tryz.underlying41 hi hz0 hz1 hz2 rfl (by decide) _ _ _ rfl ((hown.alloc _).alloc _) ⟨wr.heap.size+1,0,none⟩ 1 1 [.int .i64 key] rfl rfl (nG _ _ _ (by simp)) (ints_oneCell .i64 [key]) (by unfold maxLen;omega) (by omega) (by simp;omega) ?_;intro v' w1 hown' hgrow _)
    | go_in)
   have R:w1.ownsRow (w.heap.size+1) 3 1 v' (k+1) (((aH ss).take (k+1)).map (Value.int .i64)):=by rw[HT.out,List.map_append];exact hown'
   have RB:=(((hnx.alloc (by omega) _).alloc (by simp;omega) _).grown hgrow (by simp;omega) (fun j hj=>(hown.lt j hj).1))
   clear hown' hgrow hown hnx d0 d1 d2 d3 d4 d5
   go_wp2
   go_roundw
   case rel=>exact⟨k+1,by omega,by go_num,R,RB⟩
   case measure=>simp[intOf];omega
  ·have R:wr.ownsRow (w.heap.size+1) 3 1 u3 ss.length ((aH ss).map (Value.int .i64)):=by
    have hkk:k=ss.length:=by omega
    rw[hkk,List.take_of_length_le (by rw[hkl.out];exact Nat.le_refl _)]at hown
    exact hown
   have RB:Below w.heap.size w wr:=(aA (Below.refl _ _) _).trans (hnx.mono (by omega))
   clear hown hnx hz
   go_wp2
   go_ret
   exact⟨_,rfl,R,RB⟩
theorem iM (w:World) (ht:IsTx w ra ga sa rs gs ss) (h3:ss.length≤3) :
  Calls Tryz.prog 166 #[.agg #[.slice ra rs.length rc,.slice ga gs.length gc,.slice sa ss.length sc]] w fun e w'=>∃ka kc,e=.returned (.slice ka (aH ss).length kc)∧IsInts w' ka (aH ss)∧Below w.heap.size w w':=
 (zJ ra ga sa rc gc sc rs gs ss w ht h3).mono fun e w' ⟨v,he,ho,hb⟩=>by
  obtain⟨a,cap,rfl,hz⟩:=fB ho
  exact⟨a,cap,he,hz,hb⟩
theorem aR:∀(es:List Int),aF es=0→∀k,es.getD k 0=0
 | [],_,k=>by simp
 | e::l,h,k=>by
  unfold aF at h
  by_cases he:e=0
  ·rw[if_pos he]at h
   cases k with
   | zero=>simpa using he
   | succ k=>simpa using aR l h k
  ·rw[if_neg he]at h;exact absurd h he
theorem nO:∀(es:List Int),¬aF es=0→∃n,n<es.length∧(∀k,k<n→es.getD k 0=0)∧es.getD n 0=aF es
 | [],h=>absurd rfl h
 | e::l,h=>by
  unfold aF at h
  by_cases he:e=0
  ·rw[if_pos he]at h
   obtain⟨n,h1,h2,h3⟩:=nO l h
   refine⟨n+1,by simp;omega,fun k hk=>?_,?_⟩
   ·cases k with
    | zero=>simpa using he
    | succ k=>simpa using h2 k (by omega)
   ·rw[aF,if_pos he,←h3];simp
  ·exact⟨0,by simp,fun k hk=>absurd hk (by omega),by rw[aF,if_neg he];simp⟩
theorem aO (es:List Int) (b cap:Nat) (w:World) (hl:es.length≤8) (h:aF es=0) (hc:∀k,k<es.length→w.cell? ⟨b,k,none⟩=some (.int .i64 (es.getD k 0))) :
  Calls Tryz.prog 15 #[.slice (some ⟨b,0,none⟩) es.length cap] w fun e w'=>e=.returned (.tuple #[])∧w'=w:=leave_ok es b cap w hl (aR es h) hc
theorem cH (es:List Int) (b cap:Nat) (w:World) (hl:es.length≤8) (h:¬aF es=0) (hc:∀k,k<es.length→w.cell? ⟨b,k,none⟩=some (.int .i64 (es.getD k 0))) :
  Calls Tryz.prog 15 #[.slice (some ⟨b,0,none⟩) es.length cap] w fun e w'=>e=.panicked [{v:=.iface 22 (.int .i64 (aF es)),recovered:=false}]∧w'=w:=by
 obtain⟨n,h1,h2,h3⟩:=nO es h
 exact cF es n (aF es) b cap w hl h1 h2 h3 h hc
theorem cD (w:World) (s:Nat) (x:Int) (hs:s=w.heap.size):∀k,k < [x].length→(w.alloc (.cells #[.int .i64 x] 22)).cell? ⟨s,k,none⟩=some (.int .i64 ([x].getD k 0)):=by
 subst hs
 intro k hk
 match k,hk with
 | 0,_=>simp
theorem iU (w:World) (s:Nat) (x y:Int) (hs:s=w.heap.size):∀k,k < [x,y].length→(w.alloc (.cells #[.int .i64 x,.int .i64 y] 22)).cell? ⟨s,k,none⟩=some (.int .i64 ([x,y].getD k 0)):=by
 subst hs
 intro k hk
 match k,hk with
 | 0,_=>simp
 | 1,_=>simp
theorem vF (w:World) (s:Nat) (x y z:Int) (hs:s=w.heap.size):∀k,k < [x,y,z].length→(w.alloc (.cells #[.int .i64 x,.int .i64 y,.int .i64 z] 22)).cell? ⟨s,k,none⟩=some (.int .i64 ([x,y,z].getD k 0)):=by
 subst hs
 intro k hk
 match k,hk with
 | 0,_=>simp
 | 1,_=>simp
 | 2,_=>simp
theorem errs4 (w:World) (s:Nat) (x y z u:Int) (hs:s=w.heap.size):∀k,k < [x,y,z,u].length→(w.alloc (.cells #[.int .i64 x,.int .i64 y,.int .i64 z,.int .i64 u] 22)).cell? ⟨s,k,none⟩=some (.int .i64 ([x,y,z,u].getD k 0)):=by
 subst hs
 intro k hk
 match k,hk with
 | 0,_=>simp
 | 1,_=>simp
 | 2,_=>simp
 | 3,_=>simp
theorem aB {W w':World} {p:Addr} {v:Value} (hb:Below W.heap.size W w') (q:W.cell? p=some v):w'.cell? p=some v:=(hb.cell (World.block_lt_of_cell? W p q)).trans q
theorem ext1 {W w':World} {p:Addr} {v:Value} (hb:Below W.heap.size W w') (q:W.cell? p=some v):Below W.heap.size W w'∧w'.cell? p=some v:=⟨hb,aB hb q⟩
def dT (rs:List Int) (ss:List St):Int:=aF [bI rs,bI (aH ss),eY rs,eY (aH ss)]
theorem bL (r g s:Nat) (h:bF r g s=0):r≤4∧g≤2∧s≤3∧0<s:=by
 unfold bF at h
 by_cases c:4<r∨2<g∨3<s∨s=0
 ·rw[if_pos c]at h;omega
 ·omega
theorem aAr (r g s:Nat) (h:¬bF r g s=0):bF r g s=2:=by
 unfold bF at *
 by_cases c:4<r∨2<g∨3<s∨s=0
 ·rw[if_pos c]
 ·rw[if_neg c]at h;exact absurd rfl h
theorem tI (w:World) (ht:IsTx w ra ga sa rs gs ss) (hm:¬bF rs.length gs.length ss.length=0) :
  Calls Tryz.prog 139 #[.agg #[.slice ra rs.length rc,.slice ga gs.length gc,.slice sa ss.length sc]] w fun e w'=>e=.panicked [{v:=.iface 22 (.int .i64 2),recovered:=false}]∧Below w.heap.size w w':=by
 have H2:Hid (bF rs.length gs.length ss.length=2):=aAr _ _ _ hm
 have ht1:=fun o=>ht.below (aA (Below.refl w.heap.size w) o)
 clear hm
 go_enter Tryz.func139,Tryz.ntmps139
 go_wp2_with fail
 refine(jB ra ga sa rc gc sc rs gs ss _ (ht1 _)).mono ?_
 rintro e w' ⟨rfl,rfl⟩
 rw[H2.out]
 clear H2 ht ht1
 go_wp2_with fail
 refine(cF [2] 0 2 _ 1 _ (by simp) (by simp) (by simp) rfl (by decide) (cD _ _ _ (by simp))).mono ?_
 rintro e w' ⟨rfl,rfl⟩
 go_wp2
 refine⟨rfl,rfl,?_⟩
 repeat (first | exact Below.refl _ _ | refine aA ?_ _)
theorem kF (w:World) (ht:IsTx w ra ga sa rs gs ss) (hm:bF rs.length gs.length ss.length=0) (hk:dT rs ss=0) :
  Calls Tryz.prog 139 #[.agg #[.slice ra rs.length rc,.slice ga gs.length gc,.slice sa ss.length sc]] w fun e w'=>e=.returned (.tuple #[])∧Below w.heap.size w w':=by
 obtain⟨hr4,_,hs3,_⟩:=bL _ _ _ hm
 have H0:Hid (bF rs.length gs.length ss.length=0):=hm
 have HK:Hid (dT rs ss=0):=hk
 have hkl:Hid ((aH ss).length≤maxLen):=by rw[dO];exact ht.ls
 have HT:Hid (IsTx w ra ga sa rs gs ss):=ht
 clear hm hk ht
 go_enter Tryz.func139,Tryz.ntmps139
 go_wp2_with fail
 refine(jB ra ga sa rc gc sc rs gs ss _ (HT.out.below (aA (Below.refl _ _) _))).mono ?_
 rintro e w' ⟨rfl,rfl⟩
 rw[H0.out]
 clear H0
 go_wp2_with fail
 refine(aO [0] _ 1 _ (by simp) rfl (cD _ _ _ (by simp))).mono ?_
 rintro e w' ⟨rfl,rfl⟩
 go_wp2_with fail
 refine(iM ra ga sa rc gc sc rs gs ss _ (HT.out.below (by repeat (first | assumption | exact Below.refl _ _ | refine aD ?_ | refine aA ?_ _ | refine aC ?_ (by assumption)))) hs3).mono ?_
 rintro e W ⟨ka,kc,rfl,hka,hbW⟩
 have hW:Below w.heap.size w W:=by repeat (first | assumption | exact Below.refl _ _ | refine aD ?_ | refine aA ?_ _ | refine aC ?_ (by assumption))
 have q0:W.cell? ⟨w.heap.size,0,none⟩=some (.slice ra rs.length rc):=by
  refine(hbW.cell (by simp;omega)).trans ?_
  rw[World.cell?_alloc_lt _ _ _ (by simp;omega),World.cell?_alloc_lt _ _ _ (by simp)];simp
 have hra:Hid (IsInts W ra rs):=HT.out.r.below hW
 have hlr:Hid (rs.length≤maxLen):=HT.out.lr
 have hks:Hid (IsInts W ka (aH ss)):=hka
 clear HT hka hbW
 go_wp2_with fail
 go_region_held3 (fun w'=>Below W.heap.size W w'∧w'.cell? ⟨w.heap.size,0,none⟩=some (.slice ra rs.length rc)) ((go_split_ands;refine ext1 ?_ q0;repeat (first | assumption | exact Below.refl _ _ | refine aD ?_ | refine aA ?_ _ | refine aC ?_ (by assumption))))
  (first
   | (go_at_call_of 167 (Value.slice ra rs.length rc);refine(eZ rs ra rc _ hlr.out ?_).mono ?_;(refine hra.out.below ?_;go_split_ands;repeat (first | assumption | exact Below.refl _ _ | refine aD ?_ | refine aA ?_ _ | refine aC ?_ (by assumption)));rintro e w' ⟨rfl,rfl⟩)
   | (go_at_call_of 167 (Value.slice ka (aH ss).length kc);refine(eZ (aH ss) ka kc _ hkl.out ?_).mono ?_;(refine hks.out.below ?_;go_split_ands;repeat (first | assumption | exact Below.refl _ _ | refine aD ?_ | refine aA ?_ _ | refine aC ?_ (by assumption)));rintro e w' ⟨rfl,rfl⟩)
   | (go_at_call_of 168 (Value.slice ra rs.length rc);refine(fQ rs ra rc _ hlr.out ?_).mono ?_;(refine hra.out.below ?_;go_split_ands;repeat (first | assumption | exact Below.refl _ _ | refine aD ?_ | refine aA ?_ _ | refine aC ?_ (by assumption)));rintro e w' ⟨rfl,hbx⟩)
   | (go_at_call_of 168 (Value.slice ka (aH ss).length kc);refine(fQ (aH ss) ka kc _ hkl.out ?_).mono ?_;(refine hks.out.below ?_;go_split_ands;repeat (first | assumption | exact Below.refl _ _ | refine aD ?_ | refine aA ?_ _ | refine aC ?_ (by assumption)));rintro e w' ⟨rfl,hbx⟩)
   | (go_at_call 15;refine(aO [bI rs,bI (aH ss),eY rs,eY (aH ss)] _ 4 _ (by simp) HK.out ?_).mono ?_;(exact errs4 _ _ _ _ _ _ (by simp));rintro e w' ⟨rfl,rfl⟩))
 go_end0
 refine⟨rfl,aC hW ?_⟩
 go_split_ands
 repeat (first | assumption | exact Below.refl _ _ | refine aD ?_ | refine aA ?_ _ | refine aC ?_ (by assumption))
theorem uB (w:World) (ht:IsTx w ra ga sa rs gs ss) (hm:bF rs.length gs.length ss.length=0) (hk:¬dT rs ss=0) :
  Calls Tryz.prog 139 #[.agg #[.slice ra rs.length rc,.slice ga gs.length gc,.slice sa ss.length sc]] w fun e w'=>e=.panicked [{v:=.iface 22 (.int .i64 (dT rs ss)),recovered:=false}]∧Below w.heap.size w w':=by
 obtain⟨hr4,_,hs3,_⟩:=bL _ _ _ hm
 have H0:Hid (bF rs.length gs.length ss.length=0):=hm
 have HK:Hid (¬dT rs ss=0):=hk
 have hkl:Hid ((aH ss).length≤maxLen):=by rw[dO];exact ht.ls
 have HT:Hid (IsTx w ra ga sa rs gs ss):=ht
 clear hm hk ht
 go_enter Tryz.func139,Tryz.ntmps139
 go_wp2_with fail
 refine(jB ra ga sa rc gc sc rs gs ss _ (HT.out.below (aA (Below.refl _ _) _))).mono ?_
 rintro e w' ⟨rfl,rfl⟩
 rw[H0.out]
 clear H0
 go_wp2_with fail
 refine(aO [0] _ 1 _ (by simp) rfl (cD _ _ _ (by simp))).mono ?_
 rintro e w' ⟨rfl,rfl⟩
 go_wp2_with fail
 refine(iM ra ga sa rc gc sc rs gs ss _ (HT.out.below (by repeat (first | assumption | exact Below.refl _ _ | refine aD ?_ | refine aA ?_ _ | refine aC ?_ (by assumption)))) hs3).mono ?_
 rintro e W ⟨ka,kc,rfl,hka,hbW⟩
 have hW:Below w.heap.size w W:=by repeat (first | assumption | exact Below.refl _ _ | refine aD ?_ | refine aA ?_ _ | refine aC ?_ (by assumption))
 have q0:W.cell? ⟨w.heap.size,0,none⟩=some (.slice ra rs.length rc):=by
  refine(hbW.cell (by simp;omega)).trans ?_
  rw[World.cell?_alloc_lt _ _ _ (by simp;omega),World.cell?_alloc_lt _ _ _ (by simp)];simp
 have hra:Hid (IsInts W ra rs):=HT.out.r.below hW
 have hlr:Hid (rs.length≤maxLen):=HT.out.lr
 have hks:Hid (IsInts W ka (aH ss)):=hka
 clear HT hka hbW
 go_wp2_with fail
 go_region_held (fun w'=>Below W.heap.size W w'∧w'.cell? ⟨w.heap.size,0,none⟩=some (.slice ra rs.length rc)) ((go_split_ands;refine ext1 ?_ q0;repeat (first | assumption | exact Below.refl _ _ | refine aD ?_ | refine aA ?_ _ | refine aC ?_ (by assumption))))
  (first
   | (go_at_call_of 167 (Value.slice ra rs.length rc);refine(eZ rs ra rc _ hlr.out ?_).mono ?_;(refine hra.out.below ?_;go_split_ands;repeat (first | assumption | exact Below.refl _ _ | refine aD ?_ | refine aA ?_ _ | refine aC ?_ (by assumption)));rintro e w' ⟨rfl,rfl⟩)
   | (go_at_call_of 167 (Value.slice ka (aH ss).length kc);refine(eZ (aH ss) ka kc _ hkl.out ?_).mono ?_;(refine hks.out.below ?_;go_split_ands;repeat (first | assumption | exact Below.refl _ _ | refine aD ?_ | refine aA ?_ _ | refine aC ?_ (by assumption)));rintro e w' ⟨rfl,rfl⟩)
   | (go_at_call_of 168 (Value.slice ra rs.length rc);refine(fQ rs ra rc _ hlr.out ?_).mono ?_;(refine hra.out.below ?_;go_split_ands;repeat (first | assumption | exact Below.refl _ _ | refine aD ?_ | refine aA ?_ _ | refine aC ?_ (by assumption)));rintro e w' ⟨rfl,hbx⟩)
   | (go_at_call_of 168 (Value.slice ka (aH ss).length kc);refine(fQ (aH ss) ka kc _ hkl.out ?_).mono ?_;(refine hks.out.below ?_;go_split_ands;repeat (first | assumption | exact Below.refl _ _ | refine aD ?_ | refine aA ?_ _ | refine aC ?_ (by assumption)));rintro e w' ⟨rfl,hbx⟩)
   | (go_at_call 15;refine(dM (cH [bI rs,bI (aH ss),eY rs,eY (aH ss)] _ 4 _ (by simp) HK.out ?_) (.tuple #[])).mono ?_;(exact errs4 _ _ _ _ _ _ (by simp));rintro e w' (⟨rfl,rfl⟩ | ⟨hF,rfl,rfl⟩);(refine⟨rfl,rfl,aC hW ?_⟩;go_split_ands;repeat (first | assumption | exact Below.refl _ _ | refine aD ?_ | refine aA ?_ _ | refine aC ?_ (by assumption)))))
 exact(‹Hid False› : Hid False).out.elim
end
theorem aG (W:World) (cs:Array Value) (ty:TypeId) (b j:Nat) (v:Value) (hb:b=W.heap.size) (hj:cs[j]?=some v):(W.alloc (.cells cs ty)).cell? ⟨b,j,none⟩=some v:=by
 subst hb
 simp[hj]
theorem aE {w:World} {b i j:Nat} {u v:Value} (hne:i≠j) (hc:w.cell? ⟨b,i,none⟩=some u):(w.setCell ⟨b,j,none⟩ v).cell? ⟨b,i,none⟩=some u:=by
 simp[go_sem,hc]
 try omega
theorem aK {w:World} {b i:Nat} {u v:Value} (hc:w.cell? ⟨b,i,none⟩=some u):(w.setCell ⟨b,i,none⟩ v).cell? ⟨b,i,none⟩=some v:=by
 simp[go_sem,hc]
theorem cO (w:World) (cs:Array Value) (t:TypeId) (b j:Nat) (e:b=w.heap.size):(w.alloc (.cells cs t)).frozen? ⟨b,j,none⟩=false:=by subst e;simp
end Go.Proofs.YtcgpkonfneofdaaGreatDoor
