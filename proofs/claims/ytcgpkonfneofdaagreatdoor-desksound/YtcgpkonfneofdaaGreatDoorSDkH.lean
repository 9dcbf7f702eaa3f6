/- Conditions: those that each theorem states. -/
import Derived.Test.YtcgpkonfneofdaaGreatDoorSDkD
import Derived.Test.YtcgpkonfneofdaaGreatDoorSHallG
set_option maxRecDepth 100000
set_option maxHeartbeats 8000000
namespace Go.Proofs.YtcgpkonfneofdaaGreatDoor
open Go.RowKit
theorem vK (c:UInt8):∀(k:Nat) (l:List UInt8),l.length≤k→Lib.count l [c]=l.count c
 | k,l,hk=>by
  rcases kK l c with ⟨h1,h2⟩ | ⟨a,r,h1,h2,h3⟩
  ·rw[Lib.count_miss (by rw[Lib.index_one];exact h2),List.count_eq_zero.2 h1]
  ·have hl:l.length=a.length+1+r.length:=by rw[h1];simp;omega
   match k,hk with
   | 0,hk=>exact absurd hk (by omega)
   | k+1,hk=>
    rw[Lib.count_hit (i:=a.length) (by simp) (by rw[Lib.index_one];exact h3)]
    have e2:l.drop (a.length+1)=r:=by rw[h1];simp
    rw[List.length_singleton,e2,vK c k r (by omega),h1,List.count_append,List.count_cons_self,List.count_eq_zero.2 h2]
    omega
def IsStrs (w:World) (a:Option Addr) (xs:List (List UInt8)):Prop:=
 ∀i,i<xs.length→∃b off,a=some ⟨b,off,none⟩∧b<w.heap.size∧w.cell? ⟨b,off+i,none⟩=some (aL (xs.getD i []))
theorem IsStrs.below {w w':World} {a:Option Addr} {xs:List (List UInt8)} (h:IsStrs w a xs) (hb:Below w.heap.size w w'):IsStrs w' a xs:=by
 intro i hi
 obtain⟨b,off,ha,hlt,hc⟩:=h i hi
 exact⟨b,off,ha,Nat.lt_of_lt_of_le hlt hb.size,aB hb hc⟩
theorem split_q (x:List UInt8) (hx:x.length≤4096) (c:UInt8) (w:World) (hs:Std w) :
  Calls Tryz.prog 41 #[aL x,aL [c]] w fun e w'=>e=.returned (.slice (some ⟨w.heap.size,0,none⟩) (x.count c+1) (x.count c+1))∧w'=w.alloc (.cells ((gI c x).map aL).toArray 9):=by
 obtain⟨m,hm⟩:=hs.mx
 have hcnt:Lib.countB ⟨x.toArray⟩ ⟨[c].toArray⟩=x.count c:=by
  show Lib.count _ _=_
  simpa using vK c x.length x (Nat.le_refl _)
 have:=Tryz.strings_Split ⟨x.toArray⟩ ⟨[c].toArray⟩ m w (by show x.toArray.size<_;simp;omega) hm (by show 1≤[c].toArray.size;simp)
 rw[hcnt]at this
 have e:(Lib.splitB ⟨[c].toArray⟩ 0 (x.count c) ⟨x.toArray⟩).map Value.string=(gI c x).map aL:=by
  have h1:(Lib.splitB ⟨[c].toArray⟩ 0 (x.count c) ⟨x.toArray⟩).map (·.data.toList)=Lib.splitK [c] 0 (x.count c) x:=Lib.splitB_data ⟨[c].toArray⟩ 0 (x.count c) ⟨x.toArray⟩
  have h2:Lib.splitK [c] 0 (x.count c) x=gI c x:=rL c _ x (Nat.le_refl _)
  rw[h2]at h1
  rw[←h1,List.map_map]
  refine List.map_congr_left fun y _=>?_
  show Value.string y=Value.string ⟨y.data.toList.toArray⟩
  cases y;simp
 rw[e]at this
 exact this
theorem pE (w:World) (xs:List (List UInt8)):IsStrs (w.alloc (.cells (xs.map aL).toArray 9)) (some ⟨w.heap.size,0,none⟩) xs:=fun i hi=>⟨_,0,rfl,by simp,by
 rw[Nat.zero_add]
 simp[List.getD,hi]⟩
theorem IsStrs.init {w:World} {a:Option Addr} {xs:List (List UInt8)} (h:IsStrs w a xs):IsStrs w a xs.dropLast:=fun i hi=>by
 rw[List.length_dropLast]at hi
 obtain⟨b,off,ha,hlt,hc⟩:=h i (by omega)
 refine⟨b,off,ha,hlt,?_⟩
 rw[hc]
 have:xs.dropLast.getD i []=xs.getD i []:=by
  rw[List.getD_eq_getElem?_getD,List.getD_eq_getElem?_getD,List.getElem?_dropLast,if_pos (by omega)]
 rw[this]
def gE (x:List UInt8):Int:=if 4096<x.length∨40<x.count 10 then 2 else 0
def lO (x:List UInt8):Int:=if x≠[]∧x.getLast?≠some 10 then 1 else 0
theorem many_q (x:List UInt8) (hx:x.length≤9223372036854775807) (w:World):Calls Tryz.prog 16 #[aL x] w fun e w'=>e=.returned (.int .i64 (gE x))∧w'=w:=by
 have hsz:(ByteArray.mk x.toArray).size=x.length:=by show x.toArray.size=_;simp
 have C1:Hid (Calls Tryz.prog 37 #[aL x,.string ⟨#[10]⟩] w fun e w'=>e=.returned (.int .i64 (x.count 10:Nat))∧w'=w):=by
  have:=Tryz.strings_Count_one ⟨x.toArray⟩ 10 w
  exact this
 have hcl:x.count 10≤x.length:=List.count_le_length
 unfold gE
 generalize x.count 10=n at *
 generalize x.length=m at *
 unfold aL at C1 ⊢
 generalize ByteArray.mk x.toArray=X at *
 by_cases h1:4096<m
 ·have i1:(4096:Int)<(m:Int):=by omega
  rw[if_pos (.inl h1)]
  go_enter Tryz.func16,Tryz.ntmps16
  go_wp2
  go_ret
  exact⟨rfl,rfl⟩
 ·have i1:¬(4096:Int)<(m:Int):=by omega
  by_cases h2:40<n
  ·have i2:(40:Int)<(n:Int):=by omega
   rw[if_pos (.inr h2)]
   go_enter Tryz.func16,Tryz.ntmps16
   go_wp2_with fail
   refine C1.out.mono ?_
   rintro e w1 ⟨rfl,rfl⟩
   go_wp2
   go_ret
   exact⟨rfl,rfl⟩
  ·have i2:¬(40:Int)<(n:Int):=by omega
   rw[if_neg (by omega)]
   go_enter Tryz.func16,Tryz.ntmps16
   go_wp2_with fail
   refine C1.out.mono ?_
   rintro e w1 ⟨rfl,rfl⟩
   go_wp2
   go_ret
   exact⟨rfl,rfl⟩
theorem suff_last (x:List UInt8) (c:UInt8) (hne:x≠[]):Lib.hasSuffix x [c]=decide (x.getLast?=some c):=by
 obtain⟨a,b,rfl⟩:∃a b,x=a++[b]:=⟨x.dropLast,x.getLast hne,(List.dropLast_concat_getLast hne).symm⟩
 rw[List.getLast?_append]
 simp only[Lib.hasSuffix,List.getLast?_singleton,Option.some_or,Option.some.injEq]
 rw[Bool.eq_iff_iff,List.isSuffixOf_iff_suffix,decide_eq_true_iff]
 constructor
 ·rintro ⟨t,ht⟩
  have:=List.append_inj' ht rfl
  simpa using this.2.symm
 ·rintro rfl
  exact⟨a,rfl⟩
theorem end_q (x:List UInt8) (hx:x.length≤9223372036854775807) (w:World):Calls Tryz.prog 17 #[aL x] w fun e w'=>e=.returned (.int .i64 (lO x))∧w'=w:=by
 unfold lO
 by_cases h0:x=[]
 ·subst h0
  rw[if_neg (by simp)]
  go_enter Tryz.func17,Tryz.ntmps17
  go_wp2
  go_ret
  exact⟨rfl,rfl⟩
 ·have C1:Hid (Calls Tryz.prog 38 #[aL x,.string ⟨#[10]⟩] w fun e w'=>e=.returned (.bool (decide (x.getLast?=some 10)))∧w'=w):=by
   have:=Tryz.strings_HasSuffix ⟨x.toArray⟩ ⟨#[10]⟩ w (by show x.toArray.size≤_;simpa using hx)
   rw[←suff_last x 10 h0]
   exact this
  have hne:¬(ByteArray.mk x.toArray).toList=(ByteArray.mk #[]).toList:=by
   rw[ByteArray.toList_eq,ByteArray.toList_eq];simpa using h0
  have hne2:¬(ByteArray.mk x.toArray)=ByteArray.mk #[]:=fun hh=>hne (by rw[hh])
  have hne3:¬(ByteArray.mk x.toArray).toList=[]:=by
   rw[ByteArray.toList_eq];simpa using h0
  have hne4:(ByteArray.mk x.toArray).toList.isEmpty=false:=by simpa using hne3
  unfold aL at C1 ⊢
  by_cases h1:x.getLast?=some 10
  ·rw[if_neg (fun hh=>hh.2 h1)]
   rw[decide_eq_true h1]at C1
   generalize ByteArray.mk x.toArray=X at *
   go_enter Tryz.func17,Tryz.ntmps17
   go_wp2_with fail
   refine C1.out.mono ?_
   rintro e w1 ⟨rfl,rfl⟩
   go_wp2
   go_ret
   exact⟨rfl,rfl⟩
  ·rw[if_pos ⟨h0,h1⟩]
   rw[decide_eq_false h1]at C1
   generalize ByteArray.mk x.toArray=X at *
   go_enter Tryz.func17,Tryz.ntmps17
   go_wp2_with fail
   refine C1.out.mono ?_
   rintro e w1 ⟨rfl,rfl⟩
   go_wp2
   go_ret
   exact⟨rfl,rfl⟩
def rdW:List UInt8:=[114,101,97,100]
def wrW:List UInt8:=[119,114,105,116,101]
def cJ (p:Nat×Nat×Nat):List UInt8:=(if p.1=2 then wrW else rdW)++[32]++cY p.2.1++[32]++cY p.2.2
def fL (L:List (Nat×Nat×Nat)):List UInt8:=Lib.join (L.map cJ) [59,32]
theorem xE (sep:List UInt8) (a b:List (List UInt8)):Lib.joinTail sep (a++b)=Lib.joinTail sep a++Lib.joinTail sep b:=by simp[Lib.joinTail]
theorem join_snoc (sep:List UInt8) (xs:List (List UInt8)) (y:List UInt8) (h:xs≠[]):Lib.join (xs++[y]) sep=Lib.join xs sep++sep++y:=by
 cases xs with
 | nil=>exact absurd rfl h
 | cons x t=>
  rw[List.cons_append,Lib.join_cons,Lib.join_cons,xE]
  simp[Lib.joinTail]
theorem take_steps (L:List (Nat×Nat×Nat)) (k:Nat) (h:k<L.length):fL (L.take (k+1))=(if k=0 then [] else fL (L.take k)++[59,32])++cJ (L.getD k (0,0,0)):=by
 have e:(L.take (k+1)).map cJ=(L.take k).map cJ++[cJ (L.getD k (0,0,0))]:=by
  rw[List.take_succ_eq_append_getElem h,List.map_append]
  simp[List.getD,h]
 unfold fL
 rw[e]
 by_cases hk:k=0
 ·subst hk
  simp[Lib.join_one]
 ·rw[if_neg hk,join_snoc]
  intro hn
  have:=congrArg List.length hn
  rw[List.length_map,List.length_take,List.length_nil]at this
  omega
theorem uG (p:Nat×Nat×Nat) (h1:p.2.1≤100) (h2:p.2.2≤100):(cJ p).length≤20:=by
 have a:=dK (n:=p.2.1) (k:=3) (by decide) (by omega)
 have b:=dK (n:=p.2.2) (k:=3) (by decide) (by omega)
 have a':(cY (p.2.1:Nat)).length≤3:=by unfold cY;rw[if_neg (by omega)];simpa using a
 have b':(cY (p.2.2:Nat)).length≤3:=by unfold cY;rw[if_neg (by omega)];simpa using b
 unfold cJ
 simp only[List.length_append,List.length_singleton]
 split
 ·simp[wrW];omega
 ·simp[rdW];omega
def tS (L:List (Nat×Nat×Nat)) (k:Nat):List UInt8:=if k=0 then [] else fL (L.take k)++(if k<L.length then [59] else [])
theorem tS_step (L:List (Nat×Nat×Nat)) (k:Nat) (h:k<L.length):tS L (k+1)=((if k=0 then [] else tS L k++[32])++cJ (L.getD k (0,0,0)))++(if k+1<L.length then [59] else []):=by
 unfold tS
 rw[if_neg (Nat.succ_ne_zero k),take_steps L k h]
 by_cases hk:k=0
 ·simp[hk]
 ·simp[hk,h]
theorem tS_end (L:List (Nat×Nat×Nat)):tS L L.length=fL L:=by
 unfold tS
 by_cases h:L.length=0
 ·have:L=[]:=List.eq_nil_of_length_eq_zero h
  subst this;rfl
 ·rw[if_neg h,List.take_length,if_neg (Nat.lt_irrefl _),List.append_nil]
theorem tS_len (L:List (Nat×Nat×Nat)) (hb:∀p∈L,p.2.1≤100∧p.2.2≤100):∀k,k≤L.length→(tS L k).length≤30*k:=by
 intro k
 induction k with
 | zero=>intro _;exact Nat.zero_le _
 | succ k ih=>
  intro hk
  have h1:=ih (by omega)
  have hp:=hb (L.getD k (0,0,0)) (by simp[List.getD,(show k<L.length by omega)])
  have h2:=uG _ hp.1 hp.2
  rw[tS_step L k (by omega)]
  simp only[List.length_append]
  have a1:(if k=0 then ([]:List UInt8) else tS L k++[32]).length≤30*k+1:=by
   split
   ·exact Nat.zero_le _
   ·rw[List.length_append,List.length_singleton];omega
  have a2:(if k+1<L.length then ([59]:List UInt8) else []).length≤1:=by
   split <;> simp
  omega
theorem eJ (n:Nat) (h:n≤100):(cY (n:Int)).length≤3:=by
 have a:=dK (n:=n) (k:=3) (by decide) (by omega)
 unfold cY;rw[if_neg (by omega)];simpa using a
theorem cat1 (x y:List UInt8) (h:x.length+y.length≤100000) (w:World):(Op.stringOp .add ⟨x.toArray⟩ ⟨y.toArray⟩).run Tryz.prog w=.ok (.string ⟨(x++y).toArray⟩) w:=run_string_add_lists w x y (by omega) (by omega)
end Go.Proofs.YtcgpkonfneofdaaGreatDoor
