/- Conditions: those that each theorem states. -/
import Derived.Test.YtcgpkonfneofdaaGreatDoorSDkV
import Derived.Test.YtcgpkonfneofdaaGreatDoorSWireK
import Derived.Lib.AtoiTie
import Derived.Lib.ItoaNum
import Derived.Lib.SplitLaws
import Derived.Lib.IndexBytes
import Derived.Lib.AppendIntMem
import Derived.Lib.AtoiAllCases
set_option maxRecDepth 100000
set_option maxHeartbeats 8000000
namespace Go.Proofs.YtcgpkonfneofdaaGreatDoor
open Go.RowKit
def gI (c:UInt8):List UInt8→List (List UInt8)
 | []=>[[]]
 | x::r=>if x=c then []::gI c r else ((x::(gI c r).headD [])::(gI c r).tail)
theorem spl_ne (c:UInt8) (l:List UInt8):gI c l≠[]:=by
 cases l with
 | nil=>simp[gI]
 | cons x r=>unfold gI;split <;> simp
theorem rM {c:UInt8}:∀{l:List UInt8},c∉l→gI c l=[l]
 | [],_=>rfl
 | x::r,h=>by
  have hx:x≠c:=fun e=>h (by simp[e])
  have hr:c∉r:=fun e=>h (List.mem_cons_of_mem _ e)
  unfold gI
  rw[if_neg hx,rM hr]
  rfl
theorem wI {c:UInt8}:∀{a:List UInt8} (r:List UInt8),c∉a→gI c (a++c::r)=a::gI c r
 | [],r,_=>by simp[gI]
 | x::a,r,h=>by
  have hx:x≠c:=fun e=>h (by simp[e])
  have ha:c∉a:=fun e=>h (List.mem_cons_of_mem _ e)
  show (if x=c then _ else _)=_
  rw[if_neg hx,List.append_eq,wI r ha]
  rfl
theorem mX (c:UInt8):∀l:List UInt8,(gI c l).length=l.count c+1
 | []=>rfl
 | x::r=>by
  have ih:=mX c r
  unfold gI
  by_cases h:x=c
  ·rw[if_pos h,h,List.length_cons,ih,List.count_cons_self]
  ·rw[if_neg h,List.length_cons,List.length_tail,ih,List.count_cons_of_ne h]
   omega
theorem kK (l:List UInt8) (c:UInt8):(c∉l∧Lib.indexByte l c = -1)∨∃a r,l=a++c::r∧c∉a∧Lib.indexByte l c=a.length:=by
 induction l with
 | nil=>exact .inl ⟨by simp,rfl⟩
 | cons b l ih=>
  by_cases hb:b=c
  ·subst hb
   exact .inr ⟨[],l,rfl,by simp,by simp[Lib.indexByte]⟩
  ·rcases ih with ⟨h1,h2⟩ | ⟨a,r,h1,h2,h3⟩
   ·refine .inl ⟨?_,?_⟩
    ·intro h
     rcases List.mem_cons.1 h with h | h
     ·exact hb h.symm
     ·exact h1 h
    ·simp[Lib.indexByte,hb,h2]
   ·refine .inr ⟨b::a,r,by rw[h1];rfl,?_,?_⟩
    ·intro h
     rcases List.mem_cons.1 h with h | h
     ·exact hb h.symm
     ·exact h2 h
    ·have hne:¬((a.length:Int) = -1):=by omega
     simp[Lib.indexByte,hb,h3,hne]
theorem rL (c:UInt8):∀(k:Nat) (l:List UInt8),l.count c≤k→Lib.splitK [c] 0 k l=gI c l
 | 0,l,h=>by
  have:c∉l:=fun hm=>by have:=List.count_pos_iff.2 hm;omega
  rw[rM this]
  rfl
 | k+1,l,h=>by
  unfold Lib.splitK
  rw[Lib.index_one]
  rcases kK l c with ⟨h1,h2⟩ | ⟨a,r,h1,h2,h3⟩
  ·rw[h2,rM h1];rfl
  ·have hne:((a.length:Int) == -1)=false:=by simp
   have hc:l.count c=r.count c+1:=by
    have e:a.count c=0:=List.count_eq_zero.2 h2
    rw[h1,List.count_append,List.count_cons_self,e];omega
   rw[h3,hne]
   simp only[Bool.false_eq_true,if_false,Int.toNat_natCast,Nat.add_zero,List.length_singleton]
   have e1:l.take a.length=a:=by rw[h1];simp
   have e2:l.drop (a.length+1)=r:=by rw[h1];simp
   rw[e1,e2,rL c k r (by omega),h1,wI r h2]
def digF:Nat→Nat→List UInt8
 | 0,_=>[]
 | f+1,n=>if n<10 then [UInt8.ofNat (48+n)] else digF f (n / 10)++[UInt8.ofNat (48+n%10)]
theorem digF_eq:∀(f n:Nat),n<f→digF f n=Lib.decDigits n
 | 0,n,h=>by omega
 | f+1,n,h=>by
  unfold digF
  by_cases hn:n<10
  ·rw[if_pos hn,Lib.decDigits_one hn]
  ·have e:Lib.decDigits n=Lib.decDigits (n / 10)++[UInt8.ofNat (48+n%10)]:=by
    conv=>lhs;rw[Lib.decDigits,dif_neg hn]
   rw[if_neg hn,digF_eq f (n / 10) (by omega),e]
def kD (n:Nat):List UInt8:=digF (n+1) n
theorem tD (n:Nat):Lib.decDigits n=kD n:=(digF_eq (n+1) n (by omega)).symm
theorem fO {n:Nat} (h:n<10):kD n=[UInt8.ofNat (48+n)]:=by rw[←tD,Lib.decDigits_one h]
theorem jQ {n:Nat} (h:¬n<10):kD n=kD (n / 10)++[UInt8.ofNat (48+n%10)]:=by
 rw[←tD,←tD,Lib.decDigits,dif_neg h]
def cY (n:Int):List UInt8:=if n<0 then 45::kD n.natAbs else kD n.toNat
theorem itoa_itx (n:Int):Lib.itoa n=cY n:=by unfold Lib.itoa cY;rw[tD,tD]
theorem iS {k:Nat} (h:k<256):(UInt8.ofNat k).toNat=k:=by simp[Nat.mod_eq_of_lt h]
theorem vJ:∀(n:Nat),∀b∈kD n,48≤b.toNat∧b.toNat≤57:=by
 intro n
 induction n using Nat.strongRecOn with
 | ind n ih=>
  intro b hb
  by_cases hn:n<10
  ·rw[fO hn,List.mem_singleton]at hb
   subst hb
   rw[iS (by omega)];omega
  ·rw[jQ hn]at hb
   rcases List.mem_append.1 hb with hb | hb
   ·exact ih (n / 10) (by omega) b hb
   ·rw[List.mem_singleton]at hb
    subst hb
    rw[iS (by omega)];omega
theorem dig_ne (n:Nat):kD n≠[]:=by
 by_cases hn:n<10
 ·rw[fO hn];simp
 ·rw[jQ hn];simp
theorem pW:∀(l m:List UInt8) (acc:Nat),Lib.decFrom acc (l++m)=(Lib.decFrom acc l).bind fun a=>Lib.decFrom a m
 | [],m,acc=>rfl
 | b::l,m,acc=>by
  simp only[List.cons_append,Lib.decFrom]
  cases Lib.digitVal b with
  | none=>rfl
  | some d=>exact pW l m _
theorem decFrom_dig:∀(n:Nat),Lib.decFrom 0 (kD n)=some n:=by
 intro n
 induction n using Nat.strongRecOn with
 | ind n ih=>
  by_cases hn:n<10
  ·rw[fO hn]
   have h1:(UInt8.ofNat (48+n)).toNat=48+n:=iS (by omega)
   simp only[Lib.decFrom,Lib.digitVal,h1]
   rw[if_pos (by omega)]
   simp
  ·rw[jQ hn,pW,ih (n / 10) (by omega)]
   have h1:(UInt8.ofNat (48+n%10)).toNat=48+n%10:=iS (by omega)
   simp only[Option.bind_some,Lib.decFrom,Lib.digitVal,h1]
   rw[if_pos (by omega)]
   simp
   omega
theorem dK {n k:Nat} (hk:1≤k) (h:n<10 ^ k):(kD n).length≤k:=by
 induction k generalizing n with
 | zero=>omega
 | succ k ih=>
  by_cases hn:n<10
  ·rw[fO hn];simp
  ·rw[jQ hn,List.length_append,List.length_singleton]
   by_cases hk0:k=0
   ·subst hk0;omega
   ·have:=ih (n:=n / 10) (by omega) (by rw[Nat.pow_succ]at h;omega)
    omega
theorem nK {n:Int} (h1 : -999999≤n) (h2:n≤999999):1≤(cY n).length∧(cY n).length≤7:=by
 unfold cY
 by_cases hn:n<0
 ·rw[if_pos hn]
  have:=dK (n:=n.natAbs) (k:=6) (by decide) (by omega)
  simp only[List.length_cons];omega
 ·rw[if_neg hn]
  have:=dK (n:=n.toNat) (k:=6) (by decide) (by omega)
  have h3:0<(kD n.toNat).length:=List.length_pos_iff.2 (dig_ne _)
  omega
theorem tF (n:Nat):Lib.decNat (kD n)=some n:=by
 unfold Lib.decNat
 have:(kD n).isEmpty=false:=by
  cases h:kD n with
  | nil=>exact absurd h (dig_ne n)
  | cons _ _=>rfl
 rw[this]
 exact decFrom_dig n
theorem atoi_itx {n:Int}:Lib.atoi (cY n)=some n:=by
 unfold cY
 by_cases hn:n<0
 ·rw[if_pos hn]
  simp only[Lib.atoi,beq_self_eq_true,if_true,tF,Option.map_some]
  congr 1;omega
 ·rw[if_neg hn]
  cases hd:kD n.toNat with
  | nil=>exact absurd hd (dig_ne _)
  | cons b r=>
   have hb:=vJ n.toNat b (by rw[hd];simp)
   have h1:(b==45)=false:=by
    apply beq_eq_false_iff_ne.2
    intro e;rw[e]at hb;exact absurd hb.1 (by decide)
   have h2:(b==43)=false:=by
    apply beq_eq_false_iff_ne.2
    intro e;rw[e]at hb;exact absurd hb.1 (by decide)
   have h3:=tF n.toNat
   rw[hd]at h3
   simp only[Lib.atoi,h1,h2,Bool.false_eq_true,if_false,h3,Option.map_some]
   congr 1;omega
def jX (w:List UInt8):Option Int:=match Lib.atoi w with
 | none=>none
 | some n=>if cY n=w∧-999999≤n∧n≤999999 then some n else none
theorem sI (w:List UInt8) (n:Int):jX w=some n↔cY n=w∧-999999≤n∧n≤999999:=by
 unfold jX
 constructor
 ·intro h
  cases ha:Lib.atoi w with
  | none=>rw[ha]at h;cases h
  | some k=>
   rw[ha]at h
   simp only at h
   by_cases hc:cY k=w∧-999999≤k∧k≤999999
   ·rw[if_pos hc]at h
    injection h with h
    subst h
    exact hc
   ·rw[if_neg hc]at h;cases h
 ·rintro ⟨rfl,h2⟩
  rw[atoi_itx]
  simp only[true_and]
  rw[if_pos h2]
theorem aAn (w:List UInt8):jX w=match Lib.atoiAll w with
  | .ok n=>if cY n=w∧-999999≤n∧n≤999999 then some n else none
  | _=>none:=by
 by_cases hl:w.length≤18
 ·rw[Lib.atoiAll_short w hl]
  unfold jX
  cases Lib.atoi w <;> rfl
 ·have h1:jX w=none:=by
   cases h:jX w with
   | none=>rfl
   | some n=>
    obtain⟨e,h2,h3⟩:=(sI w n).1 h
    have:=(nK h2 h3).2
    rw[e]at this;omega
  rw[h1]
  cases h:Lib.atoiAll w with
  | ok n=>
   simp only
   rw[if_neg]
   rintro ⟨e,h2,h3⟩
   have:=(nK h2 h3).2
   rw[e]at this;omega
  | «syntax»=>rfl
  | range=>rfl
theorem aJ {p:Prop} (h:p):Hid p:=h
abbrev aL (l:List UInt8):Value:=.string ⟨l.toArray⟩
theorem wE (x y:List UInt8):(ByteArray.mk x.toArray++ByteArray.mk y.toArray)=ByteArray.mk (x++y).toArray:=ByteArray.mk_append_mk x y
theorem conv_one (w:World) (n:Int) (h0:0≤n) (h1:n<256):(convert 52 9 (.slice (some ⟨w.heap.size,0,none⟩) 1 1)).run Tryz.prog (w.alloc (.cells #[.int .u8 n] 5))=.ok (aL [UInt8.ofNat n.toNat]) (w.alloc (.cells #[.int .u8 n] 5)):=by
 have hn:((UInt8.ofNat n.toNat).toNat:Int)=n:=by
  have:n.toNat%256=n.toNat:=Nat.mod_eq_of_lt (by omega)
  simp[this];omega
 exact run_convert_bytes_back (P:=Tryz.prog) (w.alloc (.cells #[.int .u8 n] 5)) 52 9 5 ⟨w.heap.size,0,none⟩ 1 [UInt8.ofNat n.toNat] Tryz.underlying52 (by kernel_rfl) (by kernel_rfl) (fun j hj=>by
  have hj0:j=0:=by simpa using hj
  subst hj0
  simp only[List.getElem_cons_zero,hn]
  simp[Addr.add])
theorem gP (n:Nat) (h:n<10) (w:World):Calls Tryz.prog 9 #[.int .i64 (n:Int)] w fun e w'=>e=.returned (aL (kD n))∧Below w.heap.size w w':=by
 have h1:¬(n:Int)<0:=by omega
 have h2:(n:Int)<10:=by omega
 have hc:=conv_one w (48+(n:Int)) (by omega) (by omega)
 have hd:Hid (kD n=[UInt8.ofNat (48+(n:Int)).toNat]):=by
  show _=_
  rw[fO h]
  have:(48+(n:Int)).toNat=48+n:=by omega
  rw[this]
 obtain⟨D,hD⟩:∃D,D=aL [UInt8.ofNat (48+(n:Int)).toNat]:=⟨_,rfl⟩
 rw[←hD]at hc
 have HD:Hid (D=aL [UInt8.ofNat (48+(n:Int)).toNat]):=hD
 clear hD
 go_enter Tryz.func9,Tryz.ntmps9
 go_wp2
 go_ret
 exact⟨by rw[hd.out,←HD.out];rfl,aA (Below.refl _ _) _⟩
theorem digits_pos:∀(n:Nat),(n:Int)≤9223372036854775807→∀(w:World),Calls Tryz.prog 9 #[.int .i64 (n:Int)] w fun e w'=>e=.returned (aL (kD n))∧Below w.heap.size w w':=by
 intro n
 induction n using Nat.strongRecOn with
 | ind n ih=>
  intro hmax w
  by_cases hn:n<10
  ·exact gP n hn w
  ·have h1:¬(n:Int)<0:=by omega
   have h2:¬(n:Int)<10:=by omega
   have C1:Hid (∀w:World,Calls Tryz.prog 9 #[.int .i64 ((n / 10:Nat):Int)] w fun e w'=>e=.returned (aL (kD (n / 10)))∧Below w.heap.size w w'):=ih (n / 10) (by omega) (by omega)
   have C2:Hid (∀w:World,Calls Tryz.prog 9 #[.int .i64 ((n%10:Nat):Int)] w fun e w'=>e=.returned (aL (kD (n%10)))∧Below w.heap.size w w'):=fun w=>gP (n%10) (by omega) w
   have HD:Hid (kD n=kD (n / 10)++kD (n%10)):=by
    show _=_
    rw[jQ hn,fO (n:=n%10) (by omega)]
   have l1:=dK (n:=n / 10) (k:=19) (by decide) (by omega)
   have l2:=dK (n:=n%10) (k:=1) (by decide) (by omega)
   clear ih
   generalize kD (n / 10)=A at *
   generalize kD (n%10)=B at *
   go_enter Tryz.func9,Tryz.ntmps9
   go_wp2_with fail
   refine(C1.out _).mono ?_
   rintro e w1 ⟨rfl,hb1⟩
   have B1:=aJ hb1
   clear hb1
   go_wp2_with fail
   refine(C2.out _).mono ?_
   rintro e w2 ⟨rfl,hb2⟩
   have B2:Hid (Below w.heap.size w w2):=aC B1.out hb2
   clear hb2
   go_wp2_with fail
   go_ret
   exact⟨by rw[HD.out];exact congrArg (fun s=>Ending.returned (Value.string s)) (wE A B),B2.out⟩
theorem xK (k:Nat) (h1:1≤k) (h2:k<10) (w:World):Calls Tryz.prog 9 #[.int .i64 (-(k:Int))] w fun e w'=>e=.returned (aL (45::kD k))∧Below w.heap.size w w':=by
 have i1:(-(k:Int))<0:=by omega
 have i2:(-10:Int) < -(k:Int):=by omega
 have C1:Hid (∀w:World,Calls Tryz.prog 9 #[.int .i64 (k:Int)] w fun e w'=>e=.returned (aL (kD k))∧Below w.heap.size w w'):=fun w=>gP k h2 w
 have l1:=dK (n:=k) (k:=1) (by decide) (by omega)
 generalize kD k=A at *
 go_enter Tryz.func9,Tryz.ntmps9
 go_wp2_with fail
 refine(C1.out _).mono ?_
 rintro e w1 ⟨rfl,hb1⟩
 have B1:=aJ hb1
 clear hb1
 go_wp2_with fail
 go_ret
 exact⟨congrArg (fun s=>Ending.returned (Value.string s)) (wE [45] A),B1.out⟩
theorem digits_neg:∀(k:Nat),1≤k→(k:Int)≤9223372036854775808→∀(w:World),Calls Tryz.prog 9 #[.int .i64 (-(k:Int))] w fun e w'=>e=.returned (aL (45::kD k))∧Below w.heap.size w w':=by
 intro k
 induction k using Nat.strongRecOn with
 | ind k ih=>
  intro h1 hmax w
  by_cases hk:k<10
  ·exact xK k h1 hk w
  ·have i1:(-(k:Int))<0:=by omega
   have i2:¬(-10:Int) < -(k:Int):=by omega
   have C1:Hid (∀w:World,Calls Tryz.prog 9 #[.int .i64 (-((k / 10:Nat):Int))] w fun e w'=>e=.returned (aL (45::kD (k / 10)))∧Below w.heap.size w w'):=ih (k / 10) (by omega) (by omega) (by omega)
   have C2:Hid (∀w:World,Calls Tryz.prog 9 #[.int .i64 ((k%10:Nat):Int)] w fun e w'=>e=.returned (aL (kD (k%10)))∧Below w.heap.size w w'):=fun w=>gP (k%10) (by omega) w
   have HD:Hid (45::kD k=(45::kD (k / 10))++kD (k%10)):=by
    show _=_
    rw[jQ hk,fO (n:=k%10) (by omega)]
    rfl
   have l1:=dK (n:=k / 10) (k:=19) (by decide) (by omega)
   have l2:=dK (n:=k%10) (k:=1) (by decide) (by omega)
   have e1:(-(k:Int)).tdiv 10 = -((k / 10:Nat):Int):=by
    rw[Int.neg_tdiv,Int.tdiv_eq_ediv_of_nonneg (by omega)]
    omega
   have e2:(-(k:Int)).tmod 10 = -((k%10:Nat):Int):=by
    rw[Int.neg_tmod,Int.tmod_eq_emod_of_nonneg (by omega)]
    omega
   have w1:IntKind.i64.wrap (-((k / 10:Nat):Int)) = -((k / 10:Nat):Int):=by simp[IntKind.wrap,IntKind.bits,IntKind.signed];omega
   have w2:IntKind.i64.wrap (-((k%10:Nat):Int)) = -((k%10:Nat):Int):=by simp[IntKind.wrap,IntKind.bits,IntKind.signed];omega
   clear ih
   generalize kD (k / 10)=A at *
   generalize kD (k%10)=B at *
   obtain⟨n,hnk⟩:∃n:Int,n = -(k:Int):=⟨_,rfl⟩
   have HN:Hid (n = -(k:Int)):=hnk
   rw[←hnk]at e1 e2 i1 i2
   rw[←hnk]
   have hlo : -9223372036854775808≤n:=by omega
   clear hnk
   go_enter Tryz.func9,Tryz.ntmps9
   go_wp2_with fail
   refine(C1.out _).mono ?_
   rintro e w1 ⟨rfl,hb1⟩
   have B1:=aJ hb1
   clear hb1
   go_wp2_with fail
   refine(C2.out _).mono ?_
   rintro e w2 ⟨rfl,hb2⟩
   have B2:Hid (Below w.heap.size w w2):=aC B1.out hb2
   clear hb2
   go_wp2_with fail
   go_ret
   exact⟨by rw[HD.out];exact congrArg (fun s=>Ending.returned (Value.string s)) (wE (45::A) B),B2.out⟩
theorem tC (n:Int) (h1 : -9223372036854775808≤n) (h2:n≤9223372036854775807) (w:World):Calls Tryz.prog 9 #[.int .i64 n] w fun e w'=>e=.returned (aL (cY n))∧Below w.heap.size w w':=by
 unfold cY
 by_cases hn:n<0
 ·rw[if_pos hn]
  obtain⟨k,hk⟩:∃k:Nat,n = -(k:Int):=⟨n.natAbs,by omega⟩
  have e:n.natAbs=k:=by omega
  rw[e,hk]
  exact digits_neg k (by omega) (by omega) w
 ·rw[if_neg hn]
  obtain⟨k,rfl⟩:∃k:Nat,n=(k:Int):=⟨n.toNat,by omega⟩
  exact digits_pos k h2 w
theorem hid {p:Prop} (h:p):Hid p:=h
def RdS (P:Nat) (w:World) (bs:List Int):Prop:=∃s:ByteArray,w.cell? ⟨P,0,none⟩=some (.string s)∧w.frozen? ⟨P,0,none⟩=false∧eS s=bs
theorem RdS.lt {P:Nat} {w:World} {bs:List Int} (h:RdS P w bs):P<w.heap.size:=by
 obtain⟨s,hc,_,_⟩:=h
 exact World.block_lt_of_cell? w ⟨P,0,none⟩ hc
theorem RdS.byt {P:Nat} {w:World} {bs:List Int} (h:RdS P w bs):Byt bs:=by
 obtain⟨s,_,_,rfl⟩:=h
 exact wY s
theorem RdS.kept {P:Nat} {w w':World} {bs:List Int} {row:Option Nat} (h:RdS P w bs) (hg:w.grownBy w' row) (hr:some P≠row):RdS P w' bs:=by
 have hP:=h.lt
 obtain⟨s,hc,hf,hs⟩:=h
 have e:=hg.block P hP hr
 exact⟨s,(World.cell?_of_block (a:=⟨P,0,none⟩) e).trans hc,(World.frozen?_of_block (a:=⟨P,0,none⟩) e).trans hf,hs⟩
theorem RdS.below {P:Nat} {w w':World} {bs:List Int} (h:RdS P w bs) (hb:Below w.heap.size w w'):RdS P w' bs:=h.kept (bM hb none) (by simp)
theorem RdS.alloc {P:Nat} {w:World} {bs:List Int} (h:RdS P w bs) (o:Obj):RdS P (w.alloc o) bs:=h.below (aA (Below.refl _ _) _)
def dY:Ending:=.panicked [{v:=.iface 22 (.int .i64 1),recovered:=false}]
def RdR {α:Type} (P:Nat) (w:World) (o:Option (α×List Int)) (V:α→Value→World→Prop) (e:Ending) (w':World):Prop:=
 w.grownBy w' (some P)∧match o with
  | none=>e=dY
  | some p=>∃v,e=.returned v∧V p.1 v w'∧RdS P w' p.2
theorem gb_set (w:World) (P:Nat) (v:Value):w.grownBy (w.setCell ⟨P,0,none⟩ v) (some P):=⟨rfl,rfl,rfl,by simp,fun b _ hb=>Below.heap_setCell _ _ _ _ (fun e=>hb (by rw[e]))⟩
theorem sG (P:Nat) (w:World) (h:RdS P w []):Calls Tryz.prog 69 #[.pointer (some ⟨P,0,none⟩)] w fun e w'=>e=dY∧w.grownBy w' (some P):=by
 obtain⟨s,hc,hf,hs⟩:=h
 have hn:(s.toList==([]:List UInt8))=true:=by rw[qV,hs];rfl
 clear hs
 have hn2:s.toList=[]:=by simpa using hn
 go_enter Tryz.func69,Tryz.ntmps69
 go_wp2_with fail
 refine(cF [1] 0 1 w.heap.size 1 _ (by simp) (by simp) (by simp) rfl (by decide) (by simp)).mono ?_
 rintro e w' ⟨rfl,rfl⟩
 go_wp2
 exact⟨rfl,rfl,World.grownBy_alloc _ _ _⟩
theorem uN (P:Nat) (b:Int) (r:List Int) (w:World) (h:RdS P w (b::r)):Calls Tryz.prog 69 #[.pointer (some ⟨P,0,none⟩)] w fun e w'=>e=.returned (.int .i64 b)∧RdS P w' r∧w.grownBy w' (some P):=by
 obtain⟨s,hc,hf,hs⟩:=h
 have hn:(s.toList==([]:List UInt8))=false:=by rw[qV,hs];rfl
 obtain⟨h0,hb,hr⟩:=lst_cons hs
 have hi:(0:Int)<(s.size:Int):=by omega
 have h1:(1:Int)≤(s.size:Int):=by omega
 have hB:b<256∧0≤b:=by have:=(s[0]'h0).toNat_lt;omega
 have hwr:IntKind.i64.wrap b=b:=kP (by omega) (by omega)
 clear hs
 have hn2:¬s.toList=[]:=by simpa using hn
 go_enter Tryz.func69,Tryz.ntmps69
 go_wp2
 go_ret
 refine⟨?_,⟨_,aK hc,by simpa using hf,hr⟩,gb_set _ _ _⟩
 first | rfl | (rw[hb,hwr])
structure Std (w:World):Prop where
 tab:Lib.TabIs Tryz.prog w "internal/strconv.uint64pow10" .u64 Lib.pow10Tab
 syn:∃tp p,w.var? Tryz.prog "strconv.ErrSyntax" = some #[.iface tp p]
 ran:∃tp p,w.var? Tryz.prog "strconv.ErrRange" = some #[.iface tp p]
 mx:∃m,w.cell? ⟨0,0,none⟩=some (.int .i64 m)
theorem var_on {w w':World} {B:Nat} {n:String} {v:Array Value} (h:w.var? Tryz.prog n=some v) (hb:Below B w w') (hB:w.heap.size≤B):w'.var? Tryz.prog n=some v:=by
 unfold World.var? at h ⊢
 cases hg:Tryz.prog.globalNamed n with
 | none=>rw[hg]at h;cases h
 | some g=>
  rw[hg]at h
  simp only[Option.bind_some]at h ⊢
  by_cases hl:g<w.heap.size
  ·rw[hb.block g (by omega)];exact h
  ·rw[Array.getElem?_eq_none (by omega)]at h;cases h
theorem Std.below {w w':World} {B:Nat} (h:Std w) (hb:Below B w w') (hB:w.heap.size≤B):Std w':=by
 obtain⟨tp,p,hs⟩:=h.syn
 obtain⟨tq,q,hr⟩:=h.ran
 obtain⟨m,hm⟩:=h.mx
 refine⟨var_on h.tab hb hB,⟨tp,p,var_on hs hb hB⟩,⟨tq,q,var_on hr hb hB⟩,⟨m,?_⟩⟩
 have hl:0<w.heap.size:=by
  by_cases h0:0<w.heap.size
  ·exact h0
  ·exfalso
   have:w.heap[0]?=none:=Array.getElem?_eq_none (by omega)
   simp[World.cell?,this]at hm
 have hc:w'.heap[0]?=w.heap[0]?:=hb.block 0 (by omega)
 unfold World.cell? at hm ⊢
 simp only at hm ⊢
 rw[hc];exact hm
theorem Std.on {w w':World} (h:Std w) (hb:Below w.heap.size w w'):Std w':=h.below hb (Nat.le_refl _)
theorem oQ (n:Int) (h0 : -9223372036854775808≤n) (h1:n≤9223372036854775807) (w:World) (hs:Std w):Calls Tryz.prog 45 #[.int .i64 n] w fun e w'=>e=.returned (aL (cY n))∧Below w.heap.size w w':=
 (Tryz.strconv_Itoa n h0 h1 w hs.tab).mono fun e w' ⟨he,k,os,hw⟩=>⟨by rw[he,itoa_itx],by rw[hw];exact Lib.below_grow _ _ (Nat.le_refl _) _ _⟩
theorem vR (x:List UInt8) (hx:x.length≤4096) (v:Int) (h:Lib.atoiAll x=.ok v) (w:World):Calls Tryz.prog 157 #[aL x] w fun e w'=>e=.returned (.tuple #[.int .i64 v,.nilIface])∧Below w.heap.size w w':=
 (Tryz.strconv_Atoi_ok ⟨x.toArray⟩ (by show x.toArray.size≤_;simp;omega) v (by simpa using h) w).mono fun e w' ⟨he,hw⟩=>⟨he,by
  rcases hw with rfl | ⟨t,rfl⟩
  ·exact Below.refl _ _
  ·exact Lib.bytesWorld_below _ _ _⟩
theorem atoi_bad_q (x:List UInt8) (hx:x.length≤4096) (h:∀v,Lib.atoiAll x≠.ok v) (w:World) (hs:Std w):Calls Tryz.prog 157 #[aL x] w fun e w'=>∃(n:Int) (N:Nat),e=.returned (.tuple #[.int .i64 n,.iface 258 (.pointer (some ⟨N,0,none⟩))])∧Below w.heap.size w w':=by
 have hz:(ByteArray.mk x.toArray).size≤281474976710656:=by show x.toArray.size≤_;simp;omega
 cases hc:Lib.atoiAll x with
 | ok v=>exact absurd hc (h v)
 | «syntax»=>
  obtain⟨tp,p,hv⟩:=hs.syn
  exact(Tryz.strconv_Atoi_syntax_var ⟨x.toArray⟩ hz (by simpa using hc) tp p w hv).mono fun e w' ⟨N,he,_,_,hb⟩=>⟨_,N,he,hb⟩
 | range=>
  obtain⟨tp,p,hv⟩:=hs.ran
  exact(Tryz.strconv_Atoi_range_var ⟨x.toArray⟩ hz (by simpa using hc) tp p w hv).mono fun e w' ⟨N,he,_,_,hb⟩=>⟨_,N,he,hb⟩
theorem sR (b cap:Nat) (w:World) (h:w.cell? ⟨b,0,none⟩=some (.int .i64 1)):Calls Tryz.prog 15 #[.slice (some ⟨b,0,none⟩) 1 cap] w fun e w'=>e=.panicked [{v:=.iface 22 (.int .i64 1),recovered:=false}]∧w'=w:=
 cH [1] b cap w (by decide) (by decide) (fun k hk=>by
  have:k=0:=by simpa using hk
  subst this;exact h)
theorem mA (x:List UInt8) (hx:x.length≤4096) (n:Int) (h:jX x=some n) (w:World) (hs:Std w):Calls Tryz.prog 122 #[aL x] w fun e w'=>e=.returned (.int .i64 n)∧Below w.heap.size w w':=by
 obtain⟨hi,h1,h2⟩:=(sI x n).mp h
 have ha:Lib.atoiAll x=.ok n:=by
  have:=aAn x
  rw[h]at this
  cases hc:Lib.atoiAll x with
  | ok v=>
   rw[hc]at this
   simp only at this
   split at this
   ·injection this with this;rw[this]
   ·cases this
  | «syntax»=>rw[hc]at this;cases this
  | range=>rw[hc]at this;cases this
 have C1:Hid (Calls Tryz.prog 157 #[aL x] w fun e w'=>e=.returned (.tuple #[.int .i64 n,.nilIface])∧Below w.heap.size w w'):=vR x hx n ha w
 have C2:Hid (∀w:World,Std w→Calls Tryz.prog 45 #[.int .i64 n] w fun e w'=>e=.returned (aL x)∧Below w.heap.size w w'):=fun w hs=>by
  have:=oQ n (by omega) (by omega) w hs
  rw[hi]at this;exact this
 have S0:=aJ hs
 have i1:¬(999999:Int)<n:=by omega
 have i2:¬n < -999999:=by omega
 clear h hi ha hs hx
 go_enter Tryz.func122,Tryz.ntmps122
 go_wp2_with fail
 refine C1.out.mono ?_
 rintro e w1 ⟨rfl,hb1⟩
 have B1:=aJ hb1
 have S1:=aJ (S0.out.on hb1)
 clear hb1
 go_wp2_with fail
 refine(C2.out _ S1.out).mono ?_
 rintro e w2 ⟨rfl,hb2⟩
 have B2:Hid (Below w.heap.size w w2):=aC B1.out hb2
 clear hb2
 go_wp2_with fail
 go_ret
 exact⟨rfl,B2.out⟩
theorem vZ (x:List UInt8) (hx:x.length≤4096) (h:∀v,Lib.atoiAll x≠.ok v) (w:World) (hs:Std w):Calls Tryz.prog 122 #[aL x] w fun e w'=>e=dY∧Below w.heap.size w w':=by
 have C1:Hid (Calls Tryz.prog 157 #[aL x] w fun e w'=>∃(n:Int) (N:Nat),e=.returned (.tuple #[.int .i64 n,.iface 258 (.pointer (some ⟨N,0,none⟩))])∧Below w.heap.size w w'):=atoi_bad_q x hx h w hs
 clear h hs hx
 go_enter Tryz.func122,Tryz.ntmps122
 go_wp2_with fail
 refine C1.out.mono ?_
 rintro e w1 ⟨n,N,rfl,hb1⟩
 have B1:=aJ hb1
 clear hb1
 go_wp2_with fail
 refine(sR _ _ _ (aG _ _ 22 _ 0 _ rfl rfl)).mono ?_
 rintro e w2 ⟨rfl,rfl⟩
 go_wp2
 exact⟨rfl,rfl,aA B1.out _⟩
theorem valueOf_ne (X D:ByteArray) (n:Int) (hne:¬D=X) (w:World) (c1:Calls Tryz.prog 157 #[.string X] w fun e w'=>e=.returned (.tuple #[.int .i64 n,.nilIface])∧Below w.heap.size w w') (c2:∀w:World,Std w→Calls Tryz.prog 45 #[.int .i64 n] w fun e w'=>e=.returned (.string D)∧Below w.heap.size w w') (hs:Std w):Calls Tryz.prog 122 #[.string X] w fun e w'=>e=dY∧Below w.heap.size w w':=by
 have C1:=aJ c1
 have C2:=aJ c2
 have S0:=aJ hs
 have hne2:¬D.toList=X.toList:=by
  rw[ByteArray.toList_eq,ByteArray.toList_eq];exact fun hh=>hne (by cases D;cases X;congr;exact Array.ext' hh)
 clear c1 c2 hs
 go_enter Tryz.func122,Tryz.ntmps122
 go_wp2_with fail
 refine C1.out.mono ?_
 rintro e w1 ⟨rfl,hb1⟩
 have B1:=aJ hb1
 have S1:=aJ (S0.out.on hb1)
 clear hb1
 go_wp2_with fail
 refine(C2.out _ S1.out).mono ?_
 rintro e w2 ⟨rfl,hb2⟩
 have B2:Hid (Below w.heap.size w w2):=aC B1.out hb2
 clear hb2
 go_wp2_with fail
 refine(sR _ _ _ (aG _ _ 22 _ 0 _ rfl rfl)).mono ?_
 rintro e w2 ⟨rfl,rfl⟩
 go_wp2
 exact⟨rfl,rfl,aA B2.out _⟩
theorem vY (x:List UInt8) (hx:x.length≤4096) (n:Int) (h:Lib.atoiAll x=.ok n) (hn:jX x=none) (w:World) (hs:Std w):Calls Tryz.prog 122 #[aL x] w fun e w'=>e=dY∧Below w.heap.size w w':=by
 have C1:Hid (Calls Tryz.prog 157 #[aL x] w fun e w'=>e=.returned (.tuple #[.int .i64 n,.nilIface])∧Below w.heap.size w w'):=vR x hx n h w
 have hbd:=Lib.atoiAll_bounds h
 have C2:Hid (∀w:World,Std w→Calls Tryz.prog 45 #[.int .i64 n] w fun e w'=>e=.returned (aL (cY n))∧Below w.heap.size w w'):=fun w hs=>oQ n hbd.1 hbd.2 w hs
 have S0:=aJ hs
 have hall:=aAn x
 rw[h,hn]at hall
 simp only at hall
 have HN:¬(cY n=x∧-999999≤n∧n≤999999):=by
  intro hh;rw[if_pos hh]at hall;cases hall
 clear h hn hs hx hall hbd
 by_cases hi:cY n=x
 ·rw[hi]at C2
  have HN':¬(-999999≤n∧n≤999999):=fun hh=>HN ⟨hi,hh⟩
  clear HN hi
  by_cases i1:(999999:Int)<n
  ·go_enter Tryz.func122,Tryz.ntmps122
   go_wp2_with fail
   refine C1.out.mono ?_
   rintro e w1 ⟨rfl,hb1⟩
   have B1:=aJ hb1
   have S1:=aJ (S0.out.on hb1)
   clear hb1
   go_wp2_with fail
   refine(C2.out _ S1.out).mono ?_
   rintro e w2 ⟨rfl,hb2⟩
   have B2:Hid (Below w.heap.size w w2):=aC B1.out hb2
   clear hb2
   go_wp2_with fail
   refine(sR _ _ _ (aG _ _ 22 _ 0 _ rfl rfl)).mono ?_
   rintro e w2 ⟨rfl,rfl⟩
   go_wp2
   exact⟨rfl,rfl,aA B2.out _⟩
  ·have i2:n < -999999:=by omega
   go_enter Tryz.func122,Tryz.ntmps122
   go_wp2_with fail
   refine C1.out.mono ?_
   rintro e w1 ⟨rfl,hb1⟩
   have B1:=aJ hb1
   have S1:=aJ (S0.out.on hb1)
   clear hb1
   go_wp2_with fail
   refine(C2.out _ S1.out).mono ?_
   rintro e w2 ⟨rfl,hb2⟩
   have B2:Hid (Below w.heap.size w w2):=aC B1.out hb2
   clear hb2
   go_wp2_with fail
   refine(sR _ _ _ (aG _ _ 22 _ 0 _ rfl rfl)).mono ?_
   rintro e w2 ⟨rfl,rfl⟩
   go_wp2
   exact⟨rfl,rfl,aA B2.out _⟩
 ·have hne:¬(ByteArray.mk (cY n).toArray)=ByteArray.mk x.toArray:=by
   intro hh
   injection hh with hh
   exact hi (by simpa using congrArg Array.toList hh)
  exact valueOf_ne _ _ n hne w C1.out C2.out S0.out
theorem pC (x:List UInt8) (hx:x.length≤4096) (hn:jX x=none) (w:World) (hs:Std w):Calls Tryz.prog 122 #[aL x] w fun e w'=>e=dY∧Below w.heap.size w w':=by
 by_cases h:∃v,Lib.atoiAll x=.ok v
 ·obtain⟨v,hv⟩:=h
  exact vY x hx v hv hn w hs
 ·exact vZ x hx (fun v hv=>h ⟨v,hv⟩) w hs
theorem aAm (x:List UInt8) (hx:x.length≤4096) (n:Int) (h:jX x=some n) (h0:0≤n) (w:World) (hs:Std w):Calls Tryz.prog 121 #[aL x] w fun e w'=>e=.returned (.int .i64 n)∧Below w.heap.size w w':=by
 have C1:=aJ (mA x hx n h w hs)
 have i1:¬n<0:=by omega
 clear h hs hx
 go_enter Tryz.func121,Tryz.ntmps121
 go_wp2_with fail
 refine C1.out.mono ?_
 rintro e w1 ⟨rfl,hb1⟩
 have B1:=aJ hb1
 clear hb1
 go_wp2
 go_ret
 exact⟨rfl,B1.out⟩
theorem wW (x:List UInt8) (hx:x.length≤4096) (n:Int) (h:jX x=some n) (h0:n<0) (w:World) (hs:Std w):Calls Tryz.prog 121 #[aL x] w fun e w'=>e=dY∧Below w.heap.size w w':=by
 have C1:=aJ (mA x hx n h w hs)
 clear h hs hx
 go_enter Tryz.func121,Tryz.ntmps121
 go_wp2_with fail
 refine C1.out.mono ?_
 rintro e w1 ⟨rfl,hb1⟩
 have B1:=aJ hb1
 clear hb1
 go_wp2_with fail
 refine(sR _ _ _ (aG _ _ 22 _ 0 _ rfl rfl)).mono ?_
 rintro e w2 ⟨rfl,rfl⟩
 go_wp2
 exact⟨rfl,rfl,aA B1.out _⟩
theorem tX (x:List UInt8) (hx:x.length≤4096) (h:jX x=none) (w:World) (hs:Std w):Calls Tryz.prog 121 #[aL x] w fun e w'=>e=dY∧Below w.heap.size w w':=by
 have C1:Hid (Calls Tryz.prog 122 #[aL x] w fun e w'=>e=.panicked [{v:=.iface 22 (.int .i64 1),recovered:=false}]∧Below w.heap.size w w'):=pC x hx h w hs
 clear h hs hx
 go_enter Tryz.func121,Tryz.ntmps121
 go_wp2_with fail
 refine C1.out.mono ?_
 rintro e w1 ⟨rfl,hb1⟩
 have B1:=aJ hb1
 clear hb1
 go_wp2
 exact⟨rfl,rfl,B1.out⟩
def mM (x:List UInt8):Option Int:=(jX x).bind fun n=>if n<0 then none else some n
theorem jK {x:List UInt8} {n:Int} (h:mM x=some n):jX x=some n∧0≤n:=by
 unfold mM at h
 cases hc:jX x with
 | none=>rw[hc]at h;cases h
 | some m=>
  rw[hc]at h
  simp only[Option.bind_some]at h
  split at h
  ·cases h
  ·injection h with h;subst h;exact⟨rfl,by omega⟩
theorem dZ (x:List UInt8) (hx:x.length≤4096) (n:Int) (h:mM x=some n) (w:World) (hs:Std w):Calls Tryz.prog 121 #[aL x] w fun e w'=>e=.returned (.int .i64 n)∧Below w.heap.size w w':=
 aAm x hx n (jK h).1 (jK h).2 w hs
theorem fA (x:List UInt8) (hx:x.length≤4096) (h:mM x=none) (w:World) (hs:Std w):Calls Tryz.prog 121 #[aL x] w fun e w'=>e=dY∧Below w.heap.size w w':=by
 cases hc:jX x with
 | none=>exact tX x hx hc w hs
 | some m=>
  have:m<0:=by
   unfold mM at h
   rw[hc]at h
   simp only[Option.bind_some]at h
   split at h
   ·assumption
   ·cases h
  exact wW x hx m hc this w hs
theorem wordOf_any (k:Int) (w:World):Calls Tryz.prog 151 #[.int .i64 k] w fun e w'=>e=.returned (aL (if k=1 then [114,101,97,100] else [119,114,105,116,101]))∧w'=w:=by
 by_cases h:k=1
 ·rw[if_pos h]
  go_enter Tryz.func151,Tryz.ntmps151
  go_wp2
  go_ret
  exact⟨rfl,rfl⟩
 ·rw[if_neg h]
  go_enter Tryz.func151,Tryz.ntmps151
  go_wp2
  go_ret
  exact⟨rfl,rfl⟩
end Go.Proofs.YtcgpkonfneofdaaGreatDoor
