/- Conditions: those that each theorem states. -/
import Derived.Test.YtcgpkonfneofdaaGreatDoorSWireH
import Derived.Test.YtcgpkonfneofdaaGreatDoorSSeqA
import Derived.Laws.BitsAllLaws
import Derived.Laws.Bits64
import Derived.Laws.Strings2
import Derived.Laws.Strings3
import Derived.Laws.Concat
import Derived.Laws.IdiomStrings
import Derived.Laws.BytesString
set_option maxRecDepth 100000
set_option maxHeartbeats 8000000
namespace Go.Proofs.YtcgpkonfneofdaaGreatDoor
open Go.RowKit
def xB (x:TxA):List Int:=txB x.rs x.gs x.ss
def xsB (l:List TxA):List Int:=((l.length:Int)%256)::l.flatMap xB
theorem yU (l:List TxA) (k:Nat) (h:k<l.length):(l.take (k+1)).flatMap xB=(l.take k).flatMap xB++xB (l.getD k x0):=by
 rw[List.take_add_one,List.flatMap_append]
 simp[List.getD,h]
def Few (l:List TxA):Prop:=∀k,k<l.length→(l.getD k x0).rs.length≤4∧(l.getD k x0).gs.length≤4∧(l.getD k x0).ss.length≤4
theorem xsB_len (l:List TxA) (h:Few l):∀k,k≤l.length→((l.take k).flatMap xB).length≤200*k:=by
 intro k
 induction k with
 | zero=>simp
 | succ k ih=>
  intro hk
  have a:=ih (by omega)
  obtain⟨h1,h2,h3⟩:=h k (by omega)
  have b:=txB_len _ _ _ h1 h2 h3
  rw[yU l k (by omega),List.length_append]
  show _+(txB _ _ _).length≤_
  omega
theorem wrTxns_any (P:Nat) (l:List TxA) (za:Option Addr) (zc:Nat) (bs:List Int) (w:World) (h:WrS P w bs) (hl:bs.length≤20000) (h8:l.length≤8) (hfew:Few l) (hz:∀w',Below P w w'→IsTxs w' za l) :
  Calls Tryz.prog 66 #[.pointer (some ⟨P,0,none⟩),.slice za l.length zc,.func (.func 67) #[.pointer (some ⟨P,0,none⟩)] #[]] w fun e w'=>e=.returned (.tuple #[])∧WrS P w' (bs++xsB l)∧WK P w w':=by
 have hP:=h.lt
 have H0:Hid (WrS P w bs):=h
 have HZ:Hid (∀w',Below P w w'→IsTxs w' za l):=hz
 have HFW:Hid (Few l):=hfew
 clear h hz hfew
 go_enter Tryz.func66,Tryz.ntmps66
 go_wp2_with fail
 refine(cN P l.length bs _ H0.out (by omega)).mono ?_
 rintro e w1 ⟨rfl,h1,k1⟩
 have H1:Hid (WrS P w1 (bs++[(l.length:Int)%256])):=h1
 have K1:Hid (WK P w w1):=k1
 clear h1 k1
 go_wp2
 go_loopw [14] (fun i wr=>∃k:Nat,k≤l.length∧i=.int .i64 k∧Hid (WrS P wr (bs++[(l.length:Int)%256]++(l.take k).flatMap xB))∧Hid (WK P w wr)) (fun i _=>l.length - (intOf i).toNat)
 case atStart=>exact⟨0,Nat.zero_le _,rfl,by simpa using H1,K1⟩
 case round=>
  obtain⟨k,hk,rfl,hW,hK⟩:=hrel
  by_cases hlt:k<l.length
  ·obtain⟨b,off,hza,hb,c0,c1,c2,_⟩:=HZ.out wr (hK.out.below hP) k hlt
   have HT:Hid (_=_):=yU l k hlt
   have HLn:=xsB_len l HFW.out k hk
   have HL2:Hid (((l.take k).flatMap xB).length≤3000):=by show _≤_;omega
   have HS:Hid ((l.getD k x0).rs.length≤4∧(l.getD k x0).gs.length≤4∧(l.getD k x0).ss.length≤4):=HFW.out k hlt
   have HE:Hid (∀w',Below P w w'→IsTx w' (l.getD k x0).ra (l.getD k x0).ga (l.getD k x0).sa (l.getD k x0).rs (l.getD k x0).gs (l.getD k x0).ss):=fun w' hb=>by
    obtain⟨_,_,_,_,_,_,_,hx⟩:=HZ.out w' hb k hlt
    exact hx.t
   have HZ':Hid (za=some ⟨b,off,none⟩):=hza
   subst hza
   clear HLn
   generalize l.getD k x0=x at *
   go_wp2_with fail
   refine(wrTxn_any P x.rs x.gs x.ss x.ra x.ga x.sa x.rc x.gc x.sc _ _ (hW.out.alloc _) (by have:=HL2.out;simp only[List.length_append,List.length_cons,List.length_nil];omega) HS.out.1 HS.out.2.1 HS.out.2.2 (fun w' hb=>HE.out w' (((hK.out.alloc _).below hP).trans hb))).mono ?_
   rintro e w3 ⟨rfl,h3,k3⟩
   have H3:Hid (WrS P w3 (bs++[(l.length:Int)%256]++(l.take (k+1)).flatMap xB)):=by
    rw[HT.out,←List.append_assoc];exact h3
   have K3:Hid (WK P w w3):=(hK.out.alloc _).trans k3
   clear h3 k3 hW hK HT
   go_wp2
   go_roundw
   case rel=>exact⟨k+1,by omega,by go_num,H3,K3⟩
   case measure=>simp[intOf];omega
  ·have hk8:k=l.length:=by omega
   subst hk8
   have H4:Hid (WrS P wr (bs++xsB l)):=by
    have:=hW.out
    rw[List.take_length]at this
    show WrS P wr _
    simpa[xsB]using this
   clear hW
   go_wp2
   go_end0
   exact⟨rfl,H4.out,hK.out⟩
abbrev fG:=List Int×List Gd×List St
def TxA.core (x:TxA):fG:=(x.rs,x.gs,x.ss)
structure XIn (lo hi:Nat) (v:Value) (x:TxA):Prop where
 r:InBlocks lo hi x.ra
 g:InBlocks lo hi x.ga
 s:InBlocks lo hi x.sa
 nr:∀ad,x.ra=some ad→v.ownBlock≠some ad.block
 ng:∀ad,x.ga=some ad→v.ownBlock≠some ad.block
 ns:∀ad,x.sa=some ad→v.ownBlock≠some ad.block
def TxRow (C:Nat) (w:World) (v:Value) (l:List TxA):Prop:=
 w.ownsRow C 95 3 v l.length (fC l)∧∀x∈l,IsX w x∧XIn C w.heap.size v x
theorem txRow_nil (C:Nat) (w:World):TxRow C w (.slice none 0 0) []:=⟨World.ownsRow_nil _ _ _ _,fun r hr=>by cases hr⟩
theorem IsInts.keptBy {w w':World} {row:Option Nat} {a:Option Addr} {zs:List Int} (h:IsInts w a zs) (hg:w.grownBy w' row) (hr:∀ad,a=some ad→row≠some ad.block):IsInts w' a zs:=fun i hi=>by
 obtain⟨b,off,ha,hlt,hc⟩:=h i hi
 exact⟨b,off,ha,Nat.lt_of_lt_of_le hlt hg.size,hg.cell hc (fun e=>hr _ ha e.symm)⟩
theorem IsGs.keptBy {w w':World} {row:Option Nat} {a:Option Addr} {zs:List Gd} (h:IsGs w a zs) (hg:w.grownBy w' row) (hr:∀ad,a=some ad→row≠some ad.block):IsGs w' a zs:=fun i hi=>by
 obtain⟨b,off,ha,hlt,c0,c1,c2,c3,c4⟩:=h i hi
 have hn:some b≠row:=fun e=>hr _ ha e.symm
 exact⟨b,off,ha,Nat.lt_of_lt_of_le hlt hg.size,hg.cell c0 hn,hg.cell c1 hn,hg.cell c2 hn,hg.cell c3 hn,hg.cell c4 hn⟩
theorem IsSs.keptBy {w w':World} {row:Option Nat} {a:Option Addr} {zs:List St} (h:IsSs w a zs) (hg:w.grownBy w' row) (hr:∀ad,a=some ad→row≠some ad.block):IsSs w' a zs:=fun i hi=>by
 obtain⟨b,off,ha,hlt,c0,c1,c2,c3,c4,c5⟩:=h i hi
 have hn:some b≠row:=fun e=>hr _ ha e.symm
 exact⟨b,off,ha,Nat.lt_of_lt_of_le hlt hg.size,hg.cell c0 hn,hg.cell c1 hn,hg.cell c2 hn,hg.cell c3 hn,hg.cell c4 hn,hg.cell c5 hn⟩
theorem IsX.keptBy {w w':World} {row:Option Nat} {x:TxA} (h:IsX w x) (hg:w.grownBy w' row) (h1:∀ad,x.ra=some ad→row≠some ad.block) (h2:∀ad,x.ga=some ad→row≠some ad.block) (h3:∀ad,x.sa=some ad→row≠some ad.block):IsX w' x:=
 ⟨⟨h.t.r.keptBy hg h1,h.t.g.keptBy hg h2,h.t.s.keptBy hg h3,h.t.lr,h.t.lg,h.t.ls⟩,h.rn,h.gn,h.sn⟩
theorem XIn.widen {lo hi lo' hi':Nat} {v:Value} {x:TxA} (h:XIn lo hi v x) (h1:lo'≤lo) (h2:hi≤hi'):XIn lo' hi' v x:=⟨h.r.widen h1 h2,h.g.widen h1 h2,h.s.widen h1 h2,h.nr,h.ng,h.ns⟩
theorem XIn.to {lo hi:Nat} {v v':Value} {x:TxA} (h:XIn lo hi v x) (hv:v'.ownBlock=v.ownBlock∨v'.ownBlock=some hi):XIn lo hi v' x:=by
 rcases hv with e | e
 ·exact⟨h.r,h.g,h.s,by rw[e];exact h.nr,by rw[e];exact h.ng,by rw[e];exact h.ns⟩
 ·refine⟨h.r,h.g,h.s,fun ad ha q=>?_,fun ad ha q=>?_,fun ad ha q=>?_⟩
  ·rw[e]at q;injection q with q;have:=(h.r ad ha).2;omega
  ·rw[e]at q;injection q with q;have:=(h.g ad ha).2;omega
  ·rw[e]at q;injection q with q;have:=(h.s ad ha).2;omega
theorem TxRow.kept {C:Nat} {w w':World} {v:Value} {l:List TxA} {row:Option Nat} (h:TxRow C w v l) (hg:w.grownBy w' row) (hr:∀j,row=some j→j<C):TxRow C w' v l:=by
 refine⟨h.1.kept hg ?_,fun x hm=>?_⟩
 ·cases ho:v.ownBlock with
  | none=>exact .inl rfl
  | some j=>exact .inr (fun e=>by have:=(h.1.lt j ho).1;have:=hr j e.symm;omega)
 ·obtain⟨h1,h2⟩:=h.2 x hm
  exact⟨h1.keptBy hg (fun ad e q=>by have:=(h2.r ad e).1;have:=hr _ q;omega) (fun ad e q=>by have:=(h2.g ad e).1;have:=hr _ q;omega) (fun ad e q=>by have:=(h2.s ad e).1;have:=hr _ q;omega),h2.widen (Nat.le_refl _) hg.size⟩
theorem TxRow.below {C:Nat} {w w':World} {v:Value} {l:List TxA} (h:TxRow C w v l) (hb:Below w.heap.size w w'):TxRow C w' v l:=h.kept (bM hb none) (fun j e=>by cases e)
theorem TxRow.low {C C':Nat} {w:World} {v:Value} {l:List TxA} (h:TxRow C w v l) (hc:C'≤C):TxRow C' w v l:=⟨sF h.1 hc,fun x hx=>⟨(h.2 x hx).1,(h.2 x hx).2.widen hc (Nat.le_refl _)⟩⟩
theorem TxRow.push {C:Nat} {w w':World} {v v':Value} {l m:List TxA} (h:TxRow C w v l) (ho:w'.ownsRow C 95 3 v' (l.length+m.length) (fC l++fC m)) (hg:w.grownBy w' v.ownBlock) (hv:v'.ownBlock=v.ownBlock∨v'.ownBlock=some w.heap.size) (hm:∀x∈m,IsX w x∧XIn C w.heap.size v x):TxRow C w' v' (l++m):=by
 refine⟨by rw[uZ,List.length_append];exact ho,fun x hx=>?_⟩
 have key:IsX w x∧XIn C w.heap.size v x:=by
  rcases List.mem_append.1 hx with hx | hx
  ·exact h.2 x hx
  ·exact hm x hx
 exact⟨key.1.keptBy hg key.2.nr key.2.ng key.2.ns,(key.2.to hv).widen (Nat.le_refl _) hg.size⟩
theorem TxRow.txs {C:Nat} {w:World} {v:Value} {l:List TxA} (h:TxRow C w v l):∃a cap,v=.slice a l.length cap∧IsTxs w a l:=zB h.1 (fun x hx=>(h.2 x hx).1)
def Byt (bs:List Int):Prop:=∀b∈bs,0≤b∧b<256
theorem Byt.tail {b:Int} {r:List Int} (h:Byt (b::r)):Byt r:=fun x hx=>h x (List.mem_cons_of_mem _ hx)
theorem Byt.app {a b:List Int} (h:Byt (a++b)):Byt b:=fun x hx=>h x (List.mem_append_right _ hx)
def eS (s:ByteArray):List Int:=s.data.toList.map (fun b=>(b.toNat:Int))
theorem wY (s:ByteArray):Byt (eS s):=by
 intro b hb
 obtain⟨c,_,rfl⟩:=List.mem_map.1 hb
 have:=c.toNat_lt
 omega
theorem jZ (s:ByteArray):(eS s).length=s.size:=by
 cases s;simp[eS,ByteArray.size]
theorem lst_cons {s:ByteArray} {b:Int} {r:List Int} (h:eS s=b::r):∃h0:0<s.size,((s[0]'h0).toNat:Int)=b∧eS (s.extract 1 s.size)=r:=by
 obtain⟨⟨l⟩⟩:=s
 cases l with
 | nil=>simp[eS]at h
 | cons x l=>
  simp only[eS,List.map_cons,List.cons.injEq]at h
  obtain⟨h1,h2⟩:=h
  refine⟨by simp[ByteArray.size],?_,?_⟩
  ·rw[←h1];rfl
  ·rw[←h2,ByteArray.extract_mk]
   simp[eS,ByteArray.size]
theorem qV {s:ByteArray}:(s.toList==([]:List UInt8))=decide (eS s=[]):=by
 rw[ByteArray.toList_eq]
 obtain⟨⟨l⟩⟩:=s
 cases l <;> simp[eS]
theorem lst_push (s:ByteArray) (n:Int) (h:0≤n∧n<256):eS (s.push (UInt8.ofNat n.toNat))=eS s++[n]:=by
 obtain⟨⟨l⟩⟩:=s
 have hn:n.toNat%256=n.toNat:=Nat.mod_eq_of_lt (by omega)
 have e:((UInt8.ofNat n.toNat).toNat:Int)=n:=by
  simp[hn]
  omega
 simp only[eS,ByteArray.push,List.push_toArray,List.map_append,List.map_cons,List.map_nil,e]
theorem uP:∀(ns:List Int) (s:ByteArray),Byt ns→eS (ns.foldl (fun r n=>r.push (UInt8.ofNat n.toNat)) s)=eS s++ns
 | [],s,_=>by simp
 | n::ns,s,h=>by
  rw[List.foldl_cons,uP ns _ (fun x hx=>h x (List.mem_cons_of_mem _ hx)),lst_push s n (h n (by simp))]
  simp
theorem or_u64 {v b:Int} (h0:0≤v) (h1:v<18446744073709551616) (hm:v%256=0) (hb0:0≤b) (hb1:b<256):bits .or .u64 v b=v+b:=by
 rw[u64_or v b h0 h1 hb0 (by omega),nat_join 8 v.toNat b.toNat (by omega) (by omega)]
 omega
def dV (n:Int):Prop:=-9223372036854775808≤n∧n<9223372036854775808
def sgn (v:Int):Int:=if v<9223372036854775808 then v else v - 18446744073709551616
def eV (l:List Int):Int:=l.foldl (fun v b=>v*256+b) 0
def fH:List Int→Option (Int×List Int)
 | []=>none
 | b::r=>some (b,r)
def rdV (bs:List Int):Option (Int×List Int):=if bs.length<8 then none else some (sgn (eV (bs.take 8)),bs.drop 8)
def oN (bs:List Int):Option ((Int×Int)×List Int):=(fH bs).bind fun p=>(rdV p.2).map fun q=>((p.1,q.1),q.2)
def kJ (bs:List Int):Option (Gd×List Int):=(fH bs).bind fun p=>(oN p.2).bind fun q=>(oN q.2).map fun s=>(⟨p.1,q.1.1,q.1.2,s.1.1,s.1.2⟩,s.2)
def jF (bs:List Int):Option (St×List Int):=(fH bs).bind fun p=>(fH p.2).bind fun o=>(oN o.2).bind fun q=>(oN q.2).map fun s=>(⟨p.1,o.1,q.1.1,q.1.2,s.1.1,s.1.2⟩,s.2)
def iP {α:Type} (f:List Int→Option (α×List Int)):Nat→List Int→Option (List α×List Int)
 | 0,bs=>some ([],bs)
 | n+1,bs=>(f bs).bind fun p=>(iP f n p.2).map fun q=>(p.1::q.1,q.2)
def eQ {α:Type} (f:List Int→Option (α×List Int)) (bs:List Int):Option (List α×List Int):=(fH bs).bind fun p=>iP f p.1.toNat p.2
def kO (bs:List Int):Option (fG×List Int):=(eQ fH bs).bind fun p=>(eQ kJ p.2).bind fun q=>(eQ jF q.2).map fun s=>((p.1,q.1,s.1),s.2)
def yR (bs:List Int):Option ((Int×List fG)×List Int):=(fH bs).bind fun p=>(eQ kO p.2).map fun q=>((p.1,q.1),q.2)
def uE {α:Type} (f:List Int→Option (α×List Int)) (e:α→List Int) (x:α):Prop:=∀r,f (e x++r)=some (x,r)
def uD {α:Type} (f:List Int→Option (α×List Int)) (e:α→List Int) (G:α→Prop):Prop:=∀bs x r,Byt bs→f bs=some (x,r)→bs=e x++r∧G x
theorem valL_valN (n:Int):eV (iY n)=n%18446744073709551616:=by
 have h0:0≤n%18446744073709551616:=Int.emod_nonneg _ (by decide)
 have h1:n%18446744073709551616<18446744073709551616:=Int.emod_lt_of_pos _ (by decide)
 simp only[eV,iY,oO,List.foldl_cons,List.foldl_nil]
 generalize n%18446744073709551616=m at *
 simp only[Nat.reduceMul,Int.reducePow]
 omega
theorem valL_byt (n:Int):Byt (iY n):=by
 intro b hb
 simp only[iY,List.mem_cons,List.not_mem_nil,or_false]at hb
 rcases hb with rfl | rfl | rfl | rfl | rfl | rfl | rfl | rfl <;> exact⟨Int.emod_nonneg _ (by decide),Int.emod_lt_of_pos _ (by decide)⟩
theorem sgn_mod {n:Int} (h:dV n):sgn (n%18446744073709551616)=n:=by
 obtain⟨h1,h2⟩:=h
 unfold sgn
 split <;> omega
theorem rdV_back {n:Int} (h:dV n):uE rdV iY n:=by
 intro r
 have e8:(iY n).length=8:=rfl
 have hl:¬(iY n++r).length<8:=by rw[List.length_append,e8];omega
 unfold rdV
 rw[if_neg hl,List.take_append_of_le_length (by rw[e8];exact Nat.le_refl _),List.drop_append_of_le_length (by rw[e8];exact Nat.le_refl _),List.take_of_length_le (by rw[e8];exact Nat.le_refl _),List.drop_of_length_le (by rw[e8];exact Nat.le_refl _),valL_valN,sgn_mod h]
 rfl
theorem valN_valL {a b c d e f g h:Int} (hb:Byt [a,b,c,d,e,f,g,h]):iY (sgn (eV [a,b,c,d,e,f,g,h]))=[a,b,c,d,e,f,g,h]∧dV (sgn (eV [a,b,c,d,e,f,g,h])):=by
 have ha:=hb a (by simp);have hb':=hb b (by simp);have hc:=hb c (by simp);have hd:=hb d (by simp)
 have he:=hb e (by simp);have hf:=hb f (by simp);have hg:=hb g (by simp);have hh:=hb h (by simp)
 have e1:eV [a,b,c,d,e,f,g,h]=a*72057594037927936+b*281474976710656+c*1099511627776+d*4294967296+e*16777216+f*65536+g*256+h:=by
  simp only[eV,List.foldl_cons,List.foldl_nil];omega
 have hs:∀v:Int,0≤v→v<18446744073709551616→sgn v%18446744073709551616=v∧dV (sgn v):=by
  intro v h0 h1
  unfold sgn dV
  split <;> omega
 obtain⟨h1,h2⟩:=hs (eV [a,b,c,d,e,f,g,h]) (by omega) (by omega)
 refine⟨?_,h2⟩
 simp only[iY,oO,h1]
 rw[e1]
 simp only[Nat.reduceMul,Int.reducePow]
 clear h1 h2 e1 hs hb
 congr 1;omega
 congr 1;omega
 congr 1;omega
 congr 1;omega
 congr 1;omega
 congr 1;omega
 congr 1;omega
 congr 1;omega
theorem rdV_only:uD rdV iY dV:=by
 intro bs x r hB h
 unfold rdV at h
 by_cases hl:bs.length<8
 ·rw[if_pos hl]at h;cases h
 ·rw[if_neg hl]at h
  injection h with h
  injection h with h1 h2
  match bs,hl with
  | a::b::c::d::e::f::g::i::t,_=>
   simp only[List.take_succ_cons,List.take_zero,List.drop_succ_cons,List.drop_zero]at h1 h2
   have hb8:Byt [a,b,c,d,e,f,g,i]:=fun x hx=>hB x (by simp only[List.mem_cons,List.not_mem_nil,or_false]at hx ⊢;rcases hx with h | h | h | h | h | h | h | h <;> simp[h])
   obtain⟨k1,k2⟩:=valN_valL hb8
   subst h1 h2
   exact⟨by rw[k1];rfl,k2⟩
  | [],hl=>simp at hl
  | [_],hl=>simp at hl
  | [_,_],hl=>simp at hl
  | [_,_,_],hl=>simp at hl
  | [_,_,_,_],hl=>simp at hl
  | [_,_,_,_,_],hl=>simp at hl
  | [_,_,_,_,_,_],hl=>simp at hl
  | [_,_,_,_,_,_,_],hl=>simp at hl
def B1 (n:Int):Prop:=0≤n∧n<256
theorem B1.mod {n:Int} (h:B1 n):n%256=n:=Int.emod_eq_of_lt h.1 h.2
def oB (o:Int×Int):List Int:=opB o.1 o.2
def gB (x:Gd):List Int:=gdB x.k x.ak x.an x.bk x.bn
def sB (x:St):List Int:=stB x.key x.op x.ak x.an x.bk x.bn
def cB (c:fG):List Int:=txB c.1 c.2.1 c.2.2
def OkO (o:Int×Int):Prop:=B1 o.1∧dV o.2
def OkG (x:Gd):Prop:=B1 x.k∧B1 x.ak∧dV x.an∧B1 x.bk∧dV x.bn
def OkS (x:St):Prop:=B1 x.key∧B1 x.op∧B1 x.ak∧dV x.an∧B1 x.bk∧dV x.bn
def OkC (c:fG):Prop:=(c.1.length<256∧∀z∈c.1,B1 z)∧(c.2.1.length<256∧∀z∈c.2.1,OkG z)∧(c.2.2.length<256∧∀z∈c.2.2,OkS z)
theorem rdN_back {n:Int} (h:B1 n):uE fH (fun n=>[n%256]) n:=by
 intro r
 simp[fH,h.mod]
theorem zZ:uD fH (fun n=>[n%256]) B1:=by
 intro bs x r hB h
 match bs,h with
 | b::t,h=>
  injection h with h
  injection h with h1 h2
  subst h1 h2
  have hb:B1 b:=hB b (by simp)
  exact⟨by simp[hb.mod],hb⟩
theorem nD {o:Int×Int} (h:OkO o):uE oN oB o:=by
 intro r
 have e:oB o++r=(o.1%256)::(iY o.2++r):=rfl
 rw[e]
 simp[oN,fH,rdV_back h.2 r,h.1.mod]
theorem nC:uD oN oB OkO:=by
 intro bs x r hB h
 match bs,h with
 | b::t,h=>
  simp only[oN,fH,Option.bind_some,Option.map_eq_some_iff]at h
  obtain⟨⟨v,r'⟩,hv,h⟩:=h
  obtain⟨e,k⟩:=rdV_only t v r' hB.tail hv
  have hb:B1 b:=hB b (by simp)
  injection h with h1 h2
  subst h1 h2
  exact⟨by rw[e];simp[oB,opB,hb.mod],hb,k⟩
theorem rdG_back {x:Gd} (h:OkG x):uE kJ gB x:=by
 intro r
 obtain⟨h1,h2,h3,h4,h5⟩:=h
 have e:gB x++r=(x.k%256)::(oB (x.ak,x.an)++(oB (x.bk,x.bn)++r)):=by simp[gB,gdB,oB]
 rw[e]
 simp[kJ,fH,nD (o:=(x.ak,x.an)) ⟨h2,h3⟩ _,nD (o:=(x.bk,x.bn)) ⟨h4,h5⟩ _,h1.mod]
theorem aAe:uD kJ gB OkG:=by
 intro bs x r hB h
 match bs,h with
 | b::t,h=>
  simp only[kJ,fH,Option.bind_some,Option.map_eq_some_iff,Option.bind_eq_some_iff]at h
  obtain⟨⟨o,r1⟩,h1,⟨p,r2⟩,h2,h⟩:=h
  obtain⟨e1,k1⟩:=nC t o r1 hB.tail h1
  have hB1:Byt r1:=by have:=hB.tail;rw[e1]at this;exact this.app
  obtain⟨e2,k2⟩:=nC r1 p r2 hB1 h2
  have hb:B1 b:=hB b (by simp)
  injection h with h1 h2
  subst h1 h2
  exact⟨by rw[e1,e2];simp[gB,gdB,oB,hb.mod],hb,k1.1,k1.2,k2.1,k2.2⟩
theorem rdS_back {x:St} (h:OkS x):uE jF sB x:=by
 intro r
 obtain⟨h0,h1,h2,h3,h4,h5⟩:=h
 have e:sB x++r=(x.key%256)::(x.op%256)::(oB (x.ak,x.an)++(oB (x.bk,x.bn)++r)):=by simp[sB,stB,oB]
 rw[e]
 simp[jF,fH,nD (o:=(x.ak,x.an)) ⟨h2,h3⟩ _,nD (o:=(x.bk,x.bn)) ⟨h4,h5⟩ _,h0.mod,h1.mod]
theorem zX:uD jF sB OkS:=by
 intro bs x r hB h
 match bs,h with
 | a::b::t,h=>
  simp only[jF,fH,Option.bind_some,Option.map_eq_some_iff,Option.bind_eq_some_iff]at h
  obtain⟨⟨o,r1⟩,h1,⟨p,r2⟩,h2,h⟩:=h
  obtain⟨e1,k1⟩:=nC t o r1 hB.tail.tail h1
  have hB1:Byt r1:=by have:=hB.tail.tail;rw[e1]at this;exact this.app
  obtain⟨e2,k2⟩:=nC r1 p r2 hB1 h2
  have ha:B1 a:=hB a (by simp)
  have hb:B1 b:=hB b (by simp)
  injection h with h1 h2
  subst h1 h2
  exact⟨by rw[e1,e2];simp[sB,stB,oB,ha.mod,hb.mod],ha,hb,k1.1,k1.2,k2.1,k2.2⟩
 | [_],h=>simp[jF,fH]at h
theorem aAc {α:Type} {f:List Int→Option (α×List Int)} {e:α→List Int}:∀(l:List α),(∀x∈l,uE f e x)→∀r,iP f l.length (l.flatMap e++r)=some (l,r)
 | [],_,r=>rfl
 | x::l,h,r=>by
  have e1:(x::l).flatMap e++r=e x++(l.flatMap e++r):=by simp
  rw[e1]
  have ih:=aAc l (fun y hy=>h y (List.mem_cons_of_mem _ hy)) r
  simp[iP,h x (by simp) _,ih]
theorem aAb {α:Type} {f:List Int→Option (α×List Int)} {e:α→List Int} {G:α→Prop} (hf:uD f e G):∀(n:Nat) bs l r,Byt bs→iP f n bs=some (l,r)→bs=l.flatMap e++r∧l.length=n∧∀x∈l,G x
 | 0,bs,l,r,_,h=>by
  simp only[iP]at h
  injection h with h
  injection h with h1 h2
  subst h1 h2
  simp
 | n+1,bs,l,r,hB,h=>by
  simp only[iP,Option.bind_eq_some_iff,Option.map_eq_some_iff]at h
  obtain⟨⟨x,r1⟩,h1,⟨l2,r2⟩,h2,h⟩:=h
  obtain⟨e1,k1⟩:=hf bs x r1 hB h1
  have hB1:Byt r1:=by rw[e1]at hB;exact hB.app
  obtain⟨e2,k2,k3⟩:=aAb hf n r1 l2 r2 hB1 h2
  injection h with h1 h2
  subst h1 h2
  refine⟨by rw[e1,e2];simp,by simp[k2],fun y hy=>?_⟩
  rcases List.mem_cons.1 hy with rfl | hy
  ·exact k1
  ·exact k3 y hy
def lB' {α:Type} (e:α→List Int) (l:List α):List Int:=((l.length:Int)%256)::l.flatMap e
theorem nE {α:Type} {f:List Int→Option (α×List Int)} {e:α→List Int} (l:List α) (hl:l.length<256) (h:∀x∈l,uE f e x):uE (eQ f) (lB' e) l:=by
 intro r
 have hm:((l.length:Int)%256).toNat=l.length:=by omega
 simp only[eQ,lB',List.cons_append,fH,Option.bind_some,hm]
 exact aAc l h r
theorem iB {α:Type} {f:List Int→Option (α×List Int)} {e:α→List Int} {G:α→Prop} (hf:uD f e G):uD (eQ f) (lB' e) (fun l=>l.length<256∧∀x∈l,G x):=by
 intro bs l r hB h
 match bs,h with
 | b::t,h=>
  simp only[eQ,fH,Option.bind_some]at h
  obtain⟨e1,k1,k2⟩:=aAb hf _ t l r hB.tail h
  have hb:B1 b:=hB b (by simp)
  have hb1:=hb.1
  have hb2:=hb.2
  have hm:(l.length:Int)%256=b:=by omega
  exact⟨by rw[e1];simp[lB',hm],by omega,k2⟩
theorem zsB_lB (zs:List Int):zsB zs=lB' (fun n=>[n%256]) zs:=by
 simp only[zsB,lB']
 congr 1
 induction zs with
 | nil=>rfl
 | cons z zs ih=>simp[ih]
theorem cB_eq (c:fG):cB c=lB' (fun n=>[n%256]) c.1++(lB' gB c.2.1++lB' sB c.2.2):=by
 simp only[cB,txB,zsB_lB,List.append_assoc]
 rfl
theorem rdT_back {c:fG} (h:OkC c):uE kO cB c:=by
 intro r
 obtain⟨⟨h1,h2⟩,⟨h3,h4⟩,h5,h6⟩:=h
 rw[cB_eq,List.append_assoc,List.append_assoc]
 simp[kO,nE (f:=fH) c.1 h1 (fun x hx=>rdN_back (h2 x hx)) _,nE (f:=kJ) (e:=gB) c.2.1 h3 (fun x hx=>rdG_back (h4 x hx)) _,nE (f:=jF) (e:=sB) c.2.2 h5 (fun x hx=>rdS_back (h6 x hx)) _]
theorem rdT_only:uD kO cB OkC:=by
 intro bs x r hB h
 simp only[kO,Option.bind_eq_some_iff,Option.map_eq_some_iff]at h
 obtain⟨⟨a,r1⟩,h1,⟨b,r2⟩,h2,⟨c,r3⟩,h3,h⟩:=h
 obtain⟨e1,k1⟩:=iB zZ bs a r1 hB h1
 have hB1:Byt r1:=by rw[e1]at hB;exact hB.app
 obtain⟨e2,k2⟩:=iB aAe r1 b r2 hB1 h2
 have hB2:Byt r2:=by rw[e2]at hB1;exact hB1.app
 obtain⟨e3,k3⟩:=iB zX r2 c r3 hB2 h3
 injection h with h1 h2
 subst h1 h2
 exact⟨by rw[cB_eq,e1,e2,e3];simp,k1,k2,k3⟩
def pB (p:Int×List fG):List Int:=(p.1%256)::lB' cB p.2
def OkP (p:Int×List fG):Prop:=B1 p.1∧p.2.length<256∧∀c∈p.2,OkC c
theorem zY {p:Int×List fG} (h:OkP p):uE yR pB p:=by
 intro r
 obtain⟨h1,h2,h3⟩:=h
 have e:pB p++r=(p.1%256)::(lB' cB p.2++r):=rfl
 rw[e]
 simp[yR,fH,nE (f:=kO) (e:=cB) p.2 h2 (fun x hx=>rdT_back (h3 x hx)) _,h1.mod]
theorem rW:uD yR pB OkP:=by
 intro bs x r hB h
 match bs,h with
 | b::t,h=>
  simp only[yR,fH,Option.bind_some,Option.map_eq_some_iff]at h
  obtain⟨⟨l,r1⟩,h1,h⟩:=h
  obtain⟨e1,k1,k2⟩:=iB rdT_only t l r1 hB.tail h1
  have hb:B1 b:=hB b (by simp)
  injection h with h1 h2
  subst h1 h2
  exact⟨by rw[e1];simp[pB,hb.mod],hb,k1,k2⟩
def zN (bs:List Int):Int×List Int:=(bs.headD 0,bs.tail)
def zK {α:Type} (f:List Int→α×List Int):Nat→List Int→List α×List Int
 | 0,bs=>([],bs)
 | n+1,bs=>((f bs).1::(zK f n (f bs).2).1,(zK f n (f bs).2).2)
def zL {α:Type} (f:List Int→α×List Int) (bs:List Int):List α×List Int:=zK f (zN bs).1.toNat (zN bs).2
def zV (bs:List Int):Int×List Int:=(sgn (eV (zK zN 8 bs).1),(zK zN 8 bs).2)
def zO (bs:List Int):(Int×Int)×List Int:=(((zN bs).1,(zV (zN bs).2).1),(zV (zN bs).2).2)
def zG (bs:List Int):Gd×List Int:=
 let p:=zN bs
 let q:=zO p.2
 let s:=zO q.2
 (⟨p.1,q.1.1,q.1.2,s.1.1,s.1.2⟩,s.2)
def zS (bs:List Int):St×List Int:=
 let p:=zN bs
 let o:=zN p.2
 let q:=zO o.2
 let s:=zO q.2
 (⟨p.1,o.1,q.1.1,q.1.2,s.1.1,s.1.2⟩,s.2)
def zT (bs:List Int):fG×List Int:=
 let p:=zL zN bs
 let q:=zL zG p.2
 let s:=zL zS q.2
 ((p.1,q.1,s.1),s.2)
def zP (bs:List Int):(Int×List fG)×List Int:=(((zN bs).1,(zL zT (zN bs).2).1),(zL zT (zN bs).2).2)
def lD {α:Type} (f:List Int→Option (α×List Int)) (g:List Int→α×List Int):Prop:=∀bs p,f bs=some p→g bs=p
theorem iJ:lD fH zN:=by
 intro bs p h
 match bs,h with
 | b::t,h=>injection h
theorem vS {α:Type} {f:List Int→Option (α×List Int)} {g:List Int→α×List Int} (h:lD f g):∀n,lD (iP f n) (zK g n)
 | 0,bs,p,hp=>by injection hp
 | n+1,bs,p,hp=>by
  simp only[iP,Option.bind_eq_some_iff,Option.map_eq_some_iff]at hp
  obtain⟨x,h1,q,h2,hp⟩:=hp
  have e1:=h bs x h1
  have e2:=vS h n x.2 q h2
  simp only[zK,e1,e2]
  exact hp
theorem qQ {α:Type} {f:List Int→Option (α×List Int)} {g:List Int→α×List Int} (h:lD f g):lD (eQ f) (zL g):=by
 intro bs p hp
 simp only[eQ,Option.bind_eq_some_iff]at hp
 obtain⟨x,h1,h2⟩:=hp
 simp only[zL,iJ bs x h1]
 exact vS h _ _ _ h2
theorem aAa:∀(n:Nat) (bs:List Int),n≤bs.length→iP fH n bs=some (bs.take n,bs.drop n)
 | 0,bs,_=>by simp[iP]
 | n+1,b::t,h=>by
  have:=aAa n t (by simpa using h)
  simp[iP,fH,this]
 | n+1,[],h=>by simp at h
theorem zV_zero:lD rdV zV:=by
 intro bs p h
 unfold rdV at h
 by_cases hl:bs.length<8
 ·rw[if_pos hl]at h;cases h
 ·rw[if_neg hl]at h
  have e:=vS iJ 8 bs _ (aAa 8 bs (by omega))
  simp only[zV,e]
  injection h
theorem qO:lD oN zO:=by
 intro bs p h
 simp only[oN,Option.bind_eq_some_iff,Option.map_eq_some_iff]at h
 obtain⟨x,h1,y,h2,rfl⟩:=h
 simp only[zO,iJ bs x h1,zV_zero _ y h2]
theorem zG_zero:lD kJ zG:=by
 intro bs p h
 simp only[kJ,Option.bind_eq_some_iff,Option.map_eq_some_iff]at h
 obtain⟨x,h1,y,h2,z,h3,rfl⟩:=h
 simp only[zG,iJ bs x h1,qO _ y h2,qO _ z h3]
theorem zS_zero:lD jF zS:=by
 intro bs p h
 simp only[jF,Option.bind_eq_some_iff,Option.map_eq_some_iff]at h
 obtain⟨x,h1,o,h0,y,h2,z,h3,rfl⟩:=h
 simp only[zS,iJ bs x h1,iJ _ o h0,qO _ y h2,qO _ z h3]
theorem zT_zero:lD kO zT:=by
 intro bs p h
 simp only[kO,Option.bind_eq_some_iff,Option.map_eq_some_iff]at h
 obtain⟨x,h1,y,h2,z,h3,rfl⟩:=h
 simp only[zT,qQ iJ bs x h1,qQ zG_zero _ y h2,qQ zS_zero _ z h3]
theorem zP_zero:lD yR zP:=by
 intro bs p h
 simp only[yR,Option.bind_eq_some_iff,Option.map_eq_some_iff]at h
 obtain⟨x,h1,y,h2,rfl⟩:=h
 simp only[zP,iJ bs x h1,qQ zT_zero _ y h2]
def plB (m:Int) (l:List TxA):List Int:=(m%256)::xsB l
theorem wrPlan_any (P:Nat) (m:Int) (l:List TxA) (la:Option Addr) (lc:Nat) (bs:List Int) (w:World) (h:WrS P w bs) (hl:bs.length≤10000) (h8:l.length≤8) (hfew:Few l) (hz:∀w',Below P w w'→IsTxs w' la l) :
  Calls Tryz.prog 29 #[.pointer (some ⟨P,0,none⟩),.agg #[.int .i64 m,.slice la l.length lc]] w fun e w'=>e=.returned (.tuple #[])∧WrS P w' (bs++plB m l)∧WK P w w':=by
 have hmf:∀(fn:Fn) (first cap:Array Value) (w:World),(Instr.makeFunc fn first cap).run Tryz.prog w=.ok (.func fn first cap) w:=fun _ _ _ _=>rfl
 have hP:=h.lt
 have H:Hid (WrS P w bs):=h
 have HZ:Hid (∀w',Below P w w'→IsTxs w' la l):=hz
 have HFW:Hid (Few l):=hfew
 clear h hz hfew
 go_enter Tryz.func29,Tryz.ntmps29
 go_wp2_with fail
 refine(cN P m bs _ (H.out.alloc _) (by omega)).mono ?_
 rintro e w1 ⟨rfl,h1,k1⟩
 have c1:w1.cell? ⟨w.heap.size,1,none⟩=some (.slice la l.length lc):=k1.cell (by simp) (by omega) (Or.inr (jJ _ _ _ (by decide)))
 have H1:Hid (WrS P w1 (bs++[m%256])):=h1
 have K1:Hid (WK P w w1):=((WK.refl P w).alloc _).trans k1
 clear h1 k1
 go_wp2_with fail
 refine(wrTxns_any P l la lc _ _ H1.out (by simp;omega) h8 HFW.out (fun w' hb=>HZ.out w' ((K1.out.below hP).trans hb))).mono ?_
 rintro e w2 ⟨rfl,h2,k2⟩
 have H2:Hid (WrS P w2 (bs++[m%256]++xsB l)):=h2
 have K2:Hid (WK P w w2):=K1.out.trans k2
 clear h2 k2
 go_wp2_with fail
 go_end0
 exact⟨rfl,by simpa[plB]using H2.out,K2.out⟩
end Go.Proofs.YtcgpkonfneofdaaGreatDoor
