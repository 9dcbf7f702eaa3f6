/- Conditions: those that each theorem states. -/
import Derived.Test.YtcgpkonfneofdaaGreatDoorSWireB
set_option maxRecDepth 100000
set_option maxHeartbeats 8000000
namespace Go.Proofs.YtcgpkonfneofdaaGreatDoor
open Go.RowKit
def oO (n:Int) (j:Nat):Int:=((n%18446744073709551616) / 2 ^ (8*j))%256
def iY (n:Int):List Int:=[oO n 7,oO n 6,oO n 5,oO n 4,oO n 3,oO n 2,oO n 1,oO n 0]
theorem valL_take (n:Int) (k:Nat) (hk:k<8):(iY n).take (k+1)=(iY n).take k++[oO n (7 - k)]:=by
 match k,hk with
 | 0,_=>rfl
 | 1,_=>rfl
 | 2,_=>rfl
 | 3,_=>rfl
 | 4,_=>rfl
 | 5,_=>rfl
 | 6,_=>rfl
 | 7,_=>rfl
theorem news_u8 (w:World) (x:Int):∀j u,[Value.int .u8 x][j]?=some u→(w.alloc (.cells #[.int .u8 x] 5)).drew.cell? ((⟨w.heap.size,0,none⟩:Addr).add j)=some u:=by
 intro j u hj
 match j,hj with
 | 0,hj=>simp at hj;subst hj;simp[Addr.add]
theorem byte_at (n:Int) (k:Nat) (hk:k<8):IntKind.u8.wrap (IntKind.u64.wrap n / 2 ^ (8*(7 - (k:Int))).toNat)=oO n (7 - k):=by
 have e:(8*(7 - (k:Int))).toNat=8*(7 - k):=by omega
 rw[e]
 simp[IntKind.wrap,IntKind.bits,IntKind.signed,oO]
theorem kP {x:Int} (h : -9223372036854775808≤x) (h':x<9223372036854775808):IntKind.i64.wrap x=x:=by simp[IntKind.wrap,IntKind.bits,IntKind.signed];omega
theorem yX (P:Nat) (n:Int) (bs:List Int) (w:World) (h:WrS P w bs) (hl:bs.length≤90000) :
  Calls Tryz.prog 172 #[.pointer (some ⟨P,0,none⟩),.int .i64 n] w fun e w'=>e=.returned (.tuple #[])∧WrS P w' (bs++iY n)∧WK P w w':=by
 obtain⟨i0,hi,hz0,hz1,hz2⟩:=info_parts Tryz.info5
 have H0:Hid (WrS P w bs):=h
 clear h
 go_enter Tryz.func172,Tryz.ntmps172
 go_wp2
 go_loopw [4] (fun i wr=>∃k:Nat,k≤8∧i=.int .i64 (7 - (k:Int))∧Hid (WrS P wr (bs++(iY n).take k))∧Hid (WK P w wr)) (fun i _=>(intOf i+1).toNat)
 case atStart=>exact⟨0,by omega,rfl,by simpa using H0,WK.refl _ _⟩
 case round=>
  obtain⟨k,hk,rfl,hW,hK⟩:=hrel
  by_cases hlt:k<8
  ·have hge:(7:Int) - (k:Int) ≥ 0:=by omega
   obtain⟨bt,hbt⟩:∃x,x=bs++(iY n).take k:=⟨_,rfl⟩
   have hbl:bt.length≤90008:=by rw[hbt,List.length_append,List.length_take];omega
   rw[←hbt]at hW
   obtain⟨v,hc,hf,hown⟩:=hW.out
   have hP:P<wr.heap.size:=World.block_lt_of_cell? wr ⟨P,0,none⟩ hc
   have HRB:Hid (∀g,v.ownBlock=some g→P+1≤g∧g<wr.heap.size):=fun g hg=>hown.lt g hg
   have HRK:Hid (∀g,v.ownBlock=some g→∃c fz,wr.heap[g]?=some (.cells c 5 fz)):=Lib.ownsRow_kind hown
   have HO:Hid (wr.ownsRow (P+1) 5 1 v bt.length (bt.map (Value.int .u8))):=hown
   have HOd:Hid (∀o,(wr.alloc o).drew.ownsRow (P+1) 5 1 v bt.length (bt.map (Value.int .u8))):=fun o=>hown.alloc o
   have HX:Hid (∀(o:Obj) (w5:World),(wr.alloc o).drew.grownBy w5 v.ownBlock→w5.cell? ⟨P,0,none⟩=some v∧w5.frozen? ⟨P,0,none⟩=false∧WK P wr w5):=fun o w5 hg=>yW hc hf (o:=o) ⟨hg.os,hg.tape,hg.output,hg.size,hg.block⟩ HRB.out HRK.out
   have HBT:Hid (bt=bs++(iY n).take k):=hbt
   clear hown hW hbt
   have hca:∀o,(wr.alloc o).cell? ⟨P,0,none⟩=some v:=fun o=>by rw[World.cell?_alloc_lt _ _ _ (by simpa using hP)];exact hc
   have hsh:0≤(8:Int)*(7 - (k:Int)):=by omega
   have hsh2:(8:Int)*(7 - (k:Int))<64:=by omega
   have hwr:IntKind.i64.wrap (8*(7 - (k:Int)))=8*(7 - (k:Int)):=kP (by omega) (by omega)
   go_wp2_with fail
   go_region_law (first
    | (refine jH (by rfl) _ _ _ (by rfl) (P+1) 5 i0 (.int .u8 0) 1 Tryz.underlying52 hi hz0 hz1 hz2 rfl v bt.length (bt.map (Value.int .u8)) (by rfl) (HOd.out _) _ 1 1 [.int .u8 (IntKind.u8.wrap (IntKind.u64.wrap n / 2 ^ (8*(7 - (k:Int))).toNat))] (by rfl) (by rfl) (news_u8 _ _) (ints_oneCell .u8 [_]) (by unfold maxLen;omega) (by omega) (by simp;omega) ?_;intro v' w5 ho3 hg3 hkeep;obtain⟨g,cap,hv,hg1,hg2⟩:=ho3.form (Nat.succ_pos _);subst hv;obtain⟨hc5,hf5,hk5⟩:=HX.out _ w5 hg3;have HO5:Hid _:=ho3;have HK5:Hid (WK P wr w5):=hk5;clear ho3 hg3 hk5 hkeep hc hf))
   all_goals (
    have hne:P≠g:=by omega
    have h5:=HO5.out
    rw[byte_at n k hlt]at h5
    go_wp2_with fail
    go_roundw
    case rel=>
     refine⟨k+1,by omega,by go_num,⟨_,aK hc5,by simpa using hf5,?_⟩,hK.out.trans (HK5.out.trans ⟨rfl,rfl,rfl,by simp,fun b hb hbP _=>Below.heap_setCell _ _ _ _ hbP⟩)⟩
     rw[valL_take n k hlt,←List.append_assoc,←HBT.out,List.length_append,List.map_append]
     exact World.ownsRow.kept h5 (aP w5 P 0 _) (Or.inr (fun e=>by simp[Value.ownBlock]at e;omega))
    case measure=>simp[intOf];omega)
  ·have hk8:k=8:=by omega
   subst hk8
   go_wp2
   go_end0
   exact⟨rfl,by simpa[iY]using hW.out,hK.out⟩
theorem WrS.alloc {P:Nat} {w:World} {bs:List Int} (h:WrS P w bs) (o:Obj):WrS P (w.alloc o) bs:=by
 obtain⟨v,hc,hf,ho⟩:=h
 have hP:P<w.heap.size:=World.block_lt_of_cell? w ⟨P,0,none⟩ hc
 have e:(w.alloc o).heap[P]?=w.heap[P]?:=Below.heap_alloc _ _ _ hP
 exact⟨v,(World.cell?_of_block (a:=⟨P,0,none⟩) e).trans hc,(World.frozen?_of_block (a:=⟨P,0,none⟩) e).trans hf,ho.alloc o⟩
theorem WrS.lt {P:Nat} {w:World} {bs:List Int} (h:WrS P w bs):P<w.heap.size:=by
 obtain⟨v,hc,_,_⟩:=h
 exact World.block_lt_of_cell? w ⟨P,0,none⟩ hc
theorem jJ (w:World) (c:Array Value) (t:TypeId) (ht:t≠5):cP (w.alloc (.cells c t)) w.heap.size:=by
 intro c' fz e
 have e':(w.alloc (.cells c t)).heap[w.heap.size]?=some (.cells c t):=by unfold World.alloc;simp
 rw[e']at e
 simp at e
 exact ht e.2.1
def opB (kd n:Int):List Int:=(kd%256)::iY n
theorem gN (kd n:Int):(opB kd n).length=9:=rfl
theorem iR (P:Nat) (kd n:Int) (bs:List Int) (w:World) (h:WrS P w bs) (hl:bs.length≤80000) :
  Calls Tryz.prog 142 #[.pointer (some ⟨P,0,none⟩),.agg #[.int .i64 kd,.int .i64 n]] w fun e w'=>e=.returned (.tuple #[])∧WrS P w' (bs++opB kd n)∧WK P w w':=by
 have hP:=h.lt
 have H:Hid (WrS P w bs):=h
 clear h
 go_enter Tryz.func142,Tryz.ntmps142
 go_wp2_with fail
 refine(cN P kd bs _ (H.out.alloc _) (by omega)).mono ?_
 rintro e w1 ⟨rfl,h1,k1⟩
 have c1:w1.cell? ⟨w.heap.size,1,none⟩=some (.int .i64 n):=k1.cell (by simp) (by omega) (Or.inr (jJ _ _ _ (by decide)))
 have H1:Hid (WrS P w1 (bs++[kd%256])):=h1
 have K1:Hid (WK P w w1):=((WK.refl P w).alloc _).trans k1
 clear h1 k1
 go_wp2_with fail
 refine(yX P n _ _ H1.out (by simp;omega)).mono ?_
 rintro e w2 ⟨rfl,h2,k2⟩
 have H2:Hid (WrS P w2 (bs++[kd%256]++iY n)):=h2
 have K2:Hid (WK P w w2):=K1.out.trans k2
 clear h2 k2
 go_wp2_with fail
 go_end0
 exact⟨rfl,by simpa[opB]using H2.out,K2.out⟩
theorem gD {P b:Nat} {w w':World} (h:cP w b) (k:WK P w w') (hb:b<w.heap.size) (hP:b≠P):cP w' b:=fun c fz e=>h c fz ((k.keep b hb hP (Or.inr h)) ▸ e)
def gdB (kd ak an bk bn:Int):List Int:=(kd%256)::(opB ak an++opB bk bn)
theorem yY (P:Nat) (kd ak an bk bn:Int) (bs:List Int) (w:World) (h:WrS P w bs) (hl:bs.length≤70000) :
  Calls Tryz.prog 105 #[.pointer (some ⟨P,0,none⟩),.agg #[.int .i64 kd,.int .i64 ak,.int .i64 an,.int .i64 bk,.int .i64 bn]] w fun e w'=>e=.returned (.tuple #[])∧WrS P w' (bs++gdB kd ak an bk bn)∧WK P w w':=by
 have hP:=h.lt
 have H0:Hid (WrS P (w.alloc (.cells #[.int .i64 kd,.int .i64 ak,.int .i64 an,.int .i64 bk,.int .i64 bn] 99)) bs):=h.alloc _
 have K0:Hid (WK P w (w.alloc (.cells #[.int .i64 kd,.int .i64 ak,.int .i64 an,.int .i64 bk,.int .i64 bn] 99))):=(WK.refl P w).alloc _
 have N0:Hid (cP (w.alloc (.cells #[.int .i64 kd,.int .i64 ak,.int .i64 an,.int .i64 bk,.int .i64 bn] 99)) w.heap.size):=jJ _ _ _ (by decide)
 have c0:(w.alloc (.cells #[.int .i64 kd,.int .i64 ak,.int .i64 an,.int .i64 bk,.int .i64 bn] 99)).cell? ⟨w.heap.size,0,none⟩=some (.int .i64 kd):=by simp
 have c1:(w.alloc (.cells #[.int .i64 kd,.int .i64 ak,.int .i64 an,.int .i64 bk,.int .i64 bn] 99)).cell? ⟨w.heap.size,1,none⟩=some (.int .i64 ak):=by simp
 have c2:(w.alloc (.cells #[.int .i64 kd,.int .i64 ak,.int .i64 an,.int .i64 bk,.int .i64 bn] 99)).cell? ⟨w.heap.size,2,none⟩=some (.int .i64 an):=by simp
 have c3:(w.alloc (.cells #[.int .i64 kd,.int .i64 ak,.int .i64 an,.int .i64 bk,.int .i64 bn] 99)).cell? ⟨w.heap.size,3,none⟩=some (.int .i64 bk):=by simp
 have c4:(w.alloc (.cells #[.int .i64 kd,.int .i64 ak,.int .i64 an,.int .i64 bk,.int .i64 bn] 99)).cell? ⟨w.heap.size,4,none⟩=some (.int .i64 bn):=by simp
 have S0:Hid (w.heap.size<(w.alloc (.cells #[.int .i64 kd,.int .i64 ak,.int .i64 an,.int .i64 bk,.int .i64 bn] 99)).heap.size):=by show _<_;simp
 clear h
 go_enter Tryz.func105,Tryz.ntmps105
 go_wp2_with fail
 refine(cN P kd _ _ H0.out (by first | omega | (simp;omega) | (simp[gN];omega))).mono ?_
 rintro e w1 ⟨rfl,h,k⟩
 have H1:Hid (WrS P w1 (bs++[kd%256])):=h
 have K1:Hid (WK P w w1):=K0.out.trans k
 have N1:Hid (cP w1 w.heap.size):=gD N0.out k S0.out (by omega)
 have S1:Hid (w.heap.size<w1.heap.size):=Nat.lt_of_lt_of_le S0.out k.size
 have c1:=k.cell c1 (by omega) (Or.inr N0.out)
 have c2:=k.cell c2 (by omega) (Or.inr N0.out)
 have c3:=k.cell c3 (by omega) (Or.inr N0.out)
 have c4:=k.cell c4 (by omega) (Or.inr N0.out)
 clear h k
 go_wp2_with fail
 refine(iR P ak an _ _ H1.out (by first | omega | (simp;omega) | (simp[gN];omega))).mono ?_
 rintro e w2 ⟨rfl,h,k⟩
 have H2:Hid (WrS P w2 (bs++[kd%256]++opB ak an)):=h
 have K2:Hid (WK P w w2):=K1.out.trans k
 have N2:Hid (cP w2 w.heap.size):=gD N1.out k S1.out (by omega)
 have S2:Hid (w.heap.size<w2.heap.size):=Nat.lt_of_lt_of_le S1.out k.size
 have c3:=k.cell c3 (by omega) (Or.inr N1.out)
 have c4:=k.cell c4 (by omega) (Or.inr N1.out)
 clear h k
 go_wp2_with fail
 refine(iR P bk bn _ _ H2.out (by first | omega | (simp;omega) | (simp[gN];omega))).mono ?_
 rintro e w3 ⟨rfl,h,k⟩
 have H3:Hid (WrS P w3 (bs++[kd%256]++opB ak an++opB bk bn)):=h
 have K3:Hid (WK P w w3):=K2.out.trans k
 have N3:Hid (cP w3 w.heap.size):=gD N2.out k S2.out (by omega)
 have S3:Hid (w.heap.size<w3.heap.size):=Nat.lt_of_lt_of_le S2.out k.size
 clear h k
 go_wp2_with fail
 go_end0
 exact⟨rfl,by simpa[gdB]using H3.out,K3.out⟩
def stB (key op ak an bk bn:Int):List Int:=(key%256)::(op%256)::(opB ak an++opB bk bn)
theorem wrSet_any (P:Nat) (key op ak an bk bn:Int) (bs:List Int) (w:World) (h:WrS P w bs) (hl:bs.length≤70000) :
  Calls Tryz.prog 107 #[.pointer (some ⟨P,0,none⟩),.agg #[.int .i64 key,.int .i64 op,.int .i64 ak,.int .i64 an,.int .i64 bk,.int .i64 bn]] w fun e w'=>e=.returned (.tuple #[])∧WrS P w' (bs++stB key op ak an bk bn)∧WK P w w':=by
 have hP:=h.lt
 have H0:Hid (WrS P (w.alloc (.cells #[.int .i64 key,.int .i64 op,.int .i64 ak,.int .i64 an,.int .i64 bk,.int .i64 bn] 102)) bs):=h.alloc _
 have K0:Hid (WK P w (w.alloc (.cells #[.int .i64 key,.int .i64 op,.int .i64 ak,.int .i64 an,.int .i64 bk,.int .i64 bn] 102))):=(WK.refl P w).alloc _
 have N0:Hid (cP (w.alloc (.cells #[.int .i64 key,.int .i64 op,.int .i64 ak,.int .i64 an,.int .i64 bk,.int .i64 bn] 102)) w.heap.size):=jJ _ _ _ (by decide)
 have c0:(w.alloc (.cells #[.int .i64 key,.int .i64 op,.int .i64 ak,.int .i64 an,.int .i64 bk,.int .i64 bn] 102)).cell? ⟨w.heap.size,0,none⟩=some (.int .i64 key):=by simp
 have c1:(w.alloc (.cells #[.int .i64 key,.int .i64 op,.int .i64 ak,.int .i64 an,.int .i64 bk,.int .i64 bn] 102)).cell? ⟨w.heap.size,1,none⟩=some (.int .i64 op):=by simp
 have c2:(w.alloc (.cells #[.int .i64 key,.int .i64 op,.int .i64 ak,.int .i64 an,.int .i64 bk,.int .i64 bn] 102)).cell? ⟨w.heap.size,2,none⟩=some (.int .i64 ak):=by simp
 have c3:(w.alloc (.cells #[.int .i64 key,.int .i64 op,.int .i64 ak,.int .i64 an,.int .i64 bk,.int .i64 bn] 102)).cell? ⟨w.heap.size,3,none⟩=some (.int .i64 an):=by simp
 have c4:(w.alloc (.cells #[.int .i64 key,.int .i64 op,.int .i64 ak,.int .i64 an,.int .i64 bk,.int .i64 bn] 102)).cell? ⟨w.heap.size,4,none⟩=some (.int .i64 bk):=by simp
 have c5:(w.alloc (.cells #[.int .i64 key,.int .i64 op,.int .i64 ak,.int .i64 an,.int .i64 bk,.int .i64 bn] 102)).cell? ⟨w.heap.size,5,none⟩=some (.int .i64 bn):=by simp
 have S0:Hid (w.heap.size<(w.alloc (.cells #[.int .i64 key,.int .i64 op,.int .i64 ak,.int .i64 an,.int .i64 bk,.int .i64 bn] 102)).heap.size):=by show _<_;simp
 clear h
 go_enter Tryz.func107,Tryz.ntmps107
 go_wp2_with fail
 refine(cN P key _ _ H0.out (by first | omega | (simp;omega) | (simp[gN];omega))).mono ?_
 rintro e w1 ⟨rfl,h,k⟩
 have H1:Hid (WrS P w1 (bs++[key%256])):=h
 have K1:Hid (WK P w w1):=K0.out.trans k
 have N1:Hid (cP w1 w.heap.size):=gD N0.out k S0.out (by omega)
 have S1:Hid (w.heap.size<w1.heap.size):=Nat.lt_of_lt_of_le S0.out k.size
 have c1:=k.cell c1 (by omega) (Or.inr N0.out)
 have c2:=k.cell c2 (by omega) (Or.inr N0.out)
 have c3:=k.cell c3 (by omega) (Or.inr N0.out)
 have c4:=k.cell c4 (by omega) (Or.inr N0.out)
 have c5:=k.cell c5 (by omega) (Or.inr N0.out)
 clear h k
 go_wp2_with fail
 refine(cN P op _ _ H1.out (by first | omega | (simp;omega) | (simp[gN];omega))).mono ?_
 rintro e w2 ⟨rfl,h,k⟩
 have H2:Hid (WrS P w2 (bs++[key%256]++[op%256])):=h
 have K2:Hid (WK P w w2):=K1.out.trans k
 have N2:Hid (cP w2 w.heap.size):=gD N1.out k S1.out (by omega)
 have S2:Hid (w.heap.size<w2.heap.size):=Nat.lt_of_lt_of_le S1.out k.size
 have c2:=k.cell c2 (by omega) (Or.inr N1.out)
 have c3:=k.cell c3 (by omega) (Or.inr N1.out)
 have c4:=k.cell c4 (by omega) (Or.inr N1.out)
 have c5:=k.cell c5 (by omega) (Or.inr N1.out)
 clear h k
 go_wp2_with fail
 refine(iR P ak an _ _ H2.out (by first | omega | (simp;omega) | (simp[gN];omega))).mono ?_
 rintro e w3 ⟨rfl,h,k⟩
 have H3:Hid (WrS P w3 (bs++[key%256]++[op%256]++opB ak an)):=h
 have K3:Hid (WK P w w3):=K2.out.trans k
 have N3:Hid (cP w3 w.heap.size):=gD N2.out k S2.out (by omega)
 have S3:Hid (w.heap.size<w3.heap.size):=Nat.lt_of_lt_of_le S2.out k.size
 have c4:=k.cell c4 (by omega) (Or.inr N2.out)
 have c5:=k.cell c5 (by omega) (Or.inr N2.out)
 clear h k
 go_wp2_with fail
 refine(iR P bk bn _ _ H3.out (by first | omega | (simp;omega) | (simp[gN];omega))).mono ?_
 rintro e w4 ⟨rfl,h,k⟩
 have H4:Hid (WrS P w4 (bs++[key%256]++[op%256]++opB ak an++opB bk bn)):=h
 have K4:Hid (WK P w w4):=K3.out.trans k
 have N4:Hid (cP w4 w.heap.size):=gD N3.out k S3.out (by omega)
 have S4:Hid (w.heap.size<w4.heap.size):=Nat.lt_of_lt_of_le S3.out k.size
 clear h k
 go_wp2_with fail
 go_end0
 exact⟨rfl,by simpa[stB]using H4.out,K4.out⟩
theorem tP {α β:Type} (f:α→β) (l:List α) (d:α) (k:Nat) (h:k<l.length):(l.take (k+1)).map f=(l.take k).map f++[f (l.getD k d)]:=by
 rw[List.take_add_one,List.map_append]
 simp[List.getD,h]
def zsB (zs:List Int):List Int:=((zs.length:Int)%256)::zs.map (· % 256)
theorem wrInts_any (P:Nat) (zs:List Int) (za:Option Addr) (zc:Nat) (bs:List Int) (w:World) (h:WrS P w bs) (hl:bs.length≤60000) (h8:zs.length≤100) (hz:∀w',Below P w w'→IsInts w' za zs) :
  Calls Tryz.prog 103 #[.pointer (some ⟨P,0,none⟩),.slice za zs.length zc,.func (.func 65) #[.pointer (some ⟨P,0,none⟩)] #[]] w fun e w'=>e=.returned (.tuple #[])∧WrS P w' (bs++zsB zs)∧WK P w w':=by
 have hP:=h.lt
 have H0:Hid (WrS P w bs):=h
 have HZ:Hid (∀w',Below P w w'→IsInts w' za zs):=hz
 clear h hz
 go_enter Tryz.func103,Tryz.ntmps103
 go_wp2_with fail
 refine(cN P zs.length bs _ H0.out (by omega)).mono ?_
 rintro e w1 ⟨rfl,h1,k1⟩
 have H1:Hid (WrS P w1 (bs++[(zs.length:Int)%256])):=h1
 have K1:Hid (WK P w w1):=k1
 clear h1 k1
 go_wp2
 go_loopw [14] (fun i wr=>∃k:Nat,k≤zs.length∧i=.int .i64 k∧Hid (WrS P wr (bs++[(zs.length:Int)%256]++(zs.take k).map (· % 256)))∧Hid (WK P w wr)) (fun i _=>zs.length - (intOf i).toNat)
 case atStart=>exact⟨0,Nat.zero_le _,rfl,by simpa using H1,K1⟩
 case round=>
  obtain⟨k,hk,rfl,hW,hK⟩:=hrel
  by_cases hlt:k<zs.length
  ·obtain⟨b,off,hza,hb,hc⟩:=HZ.out wr (hK.out.below hP) k hlt
   subst hza
   obtain⟨x,hx⟩:∃x,zs.getD k 0=x:=⟨_,rfl⟩
   rw[hx]at hc
   have HXK:Hid (zs.getD k 0=x):=hx
   clear hx
   go_wp2_with fail
   refine(cN P _ _ _ hW.out (by simp;omega)).mono ?_
   rintro e w3 ⟨rfl,h3,k3⟩
   have H3:Hid (WrS P w3 (bs++[(zs.length:Int)%256]++(zs.take (k+1)).map (· % 256))):=by
    rw[tP _ zs 0 k hlt,HXK.out,←List.append_assoc];exact h3
   have K3:Hid (WK P w w3):=hK.out.trans k3
   clear h3 k3 hW hK
   go_wp2
   go_roundw
   case rel=>exact⟨k+1,by omega,by go_num,H3,K3⟩
   case measure=>simp[intOf];omega
  ·have hk8:k=zs.length:=by omega
   subst hk8
   have H4:Hid (WrS P wr (bs++zsB zs)):=by
    have:=hW.out
    rw[List.take_length]at this
    show WrS P wr _
    simpa[zsB]using this
   clear hW
   go_wp2
   go_end0
   exact⟨rfl,H4.out,hK.out⟩
end Go.Proofs.YtcgpkonfneofdaaGreatDoor
