/- Conditions: those that each theorem states. -/
import Derived.Test.YtcgpkonfneofdaaGreatDoorSWireB
import Derived.OwnWalk
import Derived.Laws.OwnMore
set_option maxRecDepth 100000
set_option maxHeartbeats 8000000
namespace Go.Proofs.YtcgpkonfneofdaaGreatDoor
open Go.RowKit
section
def aM (m:Int) (l:List TxA):Int:=if m<1∨4<m then 3 else dD l
def lT (n:Int) (k:Nat):Int:=if n<0∨(k:Int)≤n then 5 else 0
def pnE (m:Int) (l:List TxA) (n:Int):Int:=aF [aM m l,lT n l.length]
theorem aY {m:Int} {l:List TxA} (h:aM m l=0):1≤m∧m≤4∧dD l=0:=by
 unfold aM at h
 by_cases c:m<1∨4<m
 ·rw[if_pos c]at h;omega
 ·rw[if_neg c]at h;exact⟨by omega,by omega,h⟩
theorem eD {l:List TxA} (h:dD l=0):l.length≤8:=by
 unfold dD at h
 by_cases c:8<l.length
 ·rw[if_pos c]at h;omega
 ·omega
theorem noneE_zero {n:Int} {k:Nat} (h:lT n k=0):0≤n∧n<k:=by
 unfold lT at h
 by_cases c:n<0∨(k:Int)≤n
 ·rw[if_pos c]at h;omega
 ·omega
theorem sD {m:Int} {l:List TxA} {n:Int} (h:pnE m l n=0):aM m l=0∧lT n l.length=0:=by
 have h':=aR _ h
 exact⟨by simpa using h' 0,by simpa using h' 1⟩
theorem within_any (n low high:Int) (w:World) :
  Calls Tryz.prog 86 #[.int .i64 n,.int .i64 low,.int .i64 high] w fun e w'=>e=.returned (.bool (decide (low≤n) && decide (n≤high)))∧w'=w:=by
 by_cases h1:low≤n
 ·by_cases h2:n≤high
  ·go_enter Tryz.func86,Tryz.ntmps86
   go_wp2
   go_ret
   exact⟨by simp[h1,h2],rfl⟩
  ·go_enter Tryz.func86,Tryz.ntmps86
   go_wp2
   go_ret
   exact⟨by simp[h2],rfl⟩
 ·go_enter Tryz.func86,Tryz.ntmps86
  go_wp2
  go_ret
  exact⟨by simp;omega,rfl⟩
variable (la:Option Addr) (lc:Nat) (l:List TxA) (m n key:Int)
theorem bB (w:World) (hl:IsTxs w la l) :
  Calls Tryz.prog 28 #[.agg #[.int .i64 m,.slice la l.length lc]] w fun e w'=>e=.returned (.int .i64 (aM m l))∧Below w.heap.size w w':=by
 have HL:Hid (IsTxs (w.alloc (.cells #[.int .i64 m,.slice la l.length lc] 29)) la l):=hl.below (aA (Below.refl _ _) _)
 clear hl
 by_cases h1:m<1
 ·have H:Hid (aM m l=3):=if_pos (.inl h1)
  go_enter Tryz.func28,Tryz.ntmps28
  go_wp2
  go_ret
  exact⟨by rw[H.out];rfl,aA (Below.refl _ _) _⟩
 ·by_cases h4:4<m
  ·have H:Hid (aM m l=3):=if_pos (.inr h4)
   go_enter Tryz.func28,Tryz.ntmps28
   go_wp2
   go_ret
   exact⟨by rw[H.out];rfl,aA (Below.refl _ _) _⟩
  ·have H:Hid (aM m l=dD l):=if_neg (by omega)
   go_enter Tryz.func28,Tryz.ntmps28
   go_wp2_with fail
   refine(iD la lc l _ HL.out).mono ?_
   rintro e w1 ⟨rfl,hb⟩
   have B1:Below w.heap.size w w1:=aC (aA (Below.refl _ _) _) hb
   clear hb
   go_wp2
   go_ret
   exact⟨by rw[H.out];rfl,B1⟩
theorem tY (w:World) :
  Calls Tryz.prog 280 #[.agg #[.int .i64 m,.slice la l.length lc],.int .i64 n] w fun e w'=>e=.returned (.int .i64 (lT n l.length))∧Below w.heap.size w w':=by
 by_cases h1:n<0
 ·have H:Hid (lT n l.length=5):=if_pos (.inl h1)
  go_enter Tryz.func280,Tryz.ntmps280
  go_wp2
  go_ret
  exact⟨by rw[H.out];rfl,aA (Below.refl _ _) _⟩
 ·by_cases h2:(l.length:Int)≤n
  ·have H:Hid (lT n l.length=5):=if_pos (.inr h2)
   go_enter Tryz.func280,Tryz.ntmps280
   go_wp2
   go_ret
   exact⟨by rw[H.out];rfl,aA (Below.refl _ _) _⟩
  ·have H:Hid (lT n l.length=0):=if_neg (by omega)
   go_enter Tryz.func280,Tryz.ntmps280
   go_wp2
   go_ret
   exact⟨by rw[H.out];rfl,aA (Below.refl _ _) _⟩
theorem pF (sh k:Nat) (w:World) (hs:0<sh) (hs4:sh≤4) (hk:k<8) :
  Calls Tryz.prog 281 #[.agg #[.int .i64 sh,.slice la l.length lc],.int .i64 k] w fun e w'=>e=.returned (.int .i64 ((k%sh:Nat):Int))∧w'=w.alloc (.cells #[.int .i64 sh,.slice la l.length lc] 29):=by
 go_enter Tryz.func281,Tryz.ntmps281
 go_wp2
 go_ret
 exact⟨by simp,rfl⟩
def jU (m:Int) (l:List TxA) (key:Int):Int:=aF [aM m l,if key<0∨8≤key then 3 else 0]
def mF (m:Int) (l:List TxA) (key:Int):Int:=if jU m l key=0 then key%m else 0
theorem shard_any (w:World) (hl:IsTxs w la l) :
  Calls Tryz.prog 274 #[.agg #[.int .i64 m,.slice la l.length lc],.int .i64 key] w fun e w'=>e=.returned (.tuple #[.int .i64 (mF m l key),.int .i64 (jU m l key)])∧Below w.heap.size w w':=by
 have hg:Below w.heap.size w (w.alloc (.cells #[.int .i64 m,.slice la l.length lc] 29)):=aA (Below.refl _ _) _
 have HL:Hid (IsTxs (w.alloc (.cells #[.int .i64 m,.slice la l.length lc] 29)) la l):=hl.below hg
 clear hl
 have HC:Hid (∀w,IsTxs w la l→Calls Tryz.prog 28 #[.agg #[.int .i64 m,.slice la l.length lc]] w fun e w'=>e=.returned (.int .i64 (aM m l))∧Below w.heap.size w w'):=fun w h=>bB la lc l m w h
 by_cases h1:aM m l=0
 ·obtain⟨m1,m4,_⟩:=aY h1
  obtain⟨sh,rfl⟩:∃sh:Nat,m=sh:=⟨m.toNat,by omega⟩
  have HE:jU sh l key=if key<0∨8≤key then 3 else 0:=by
   unfold jU
   simp only[aF,if_pos h1]
   by_cases c:key<0∨8≤key
   ·rw[if_pos c,if_neg (by omega)]
   ·rw[if_neg c,if_pos rfl]
  have HV:mF sh l key=if key<0∨8≤key then 0 else key%(sh:Int):=by
   unfold mF
   rw[HE]
   by_cases c:key<0∨8≤key
   ·rw[if_pos c,if_pos c,if_neg (by omega)]
   ·rw[if_neg c,if_neg c,if_pos rfl]
  rw[HE,HV]
  rw[h1]at HC
  clear HE HV h1
  by_cases c:key<0∨8≤key
  ·rw[if_pos c,if_pos c]
   rcases c with c | c
   ·go_enter Tryz.func274,Tryz.ntmps274
    go_wp2_with fail
    refine(HC.out _ HL.out).mono ?_
    rintro e w1 ⟨rfl,hb⟩
    have B1:Hid (Below w.heap.size w w1):=aC hg hb
    clear hb
    go_wp2
    go_ret2
    exact⟨rfl,B1.out⟩
   ·have c':¬key<0:=by omega
    go_enter Tryz.func274,Tryz.ntmps274
    go_wp2_with fail
    refine(HC.out _ HL.out).mono ?_
    rintro e w1 ⟨rfl,hb⟩
    have B1:Hid (Below w.heap.size w w1):=aC hg hb
    clear hb
    go_wp2
    go_ret2
    exact⟨rfl,B1.out⟩
  ·rw[if_neg c,if_neg c]
   obtain⟨k,rfl⟩:∃k:Nat,key=k:=⟨key.toNat,by omega⟩
   have k8:k<8:=by omega
   have s0:0<sh:=by omega
   have s4:sh≤4:=by omega
   have d1:¬(k:Int)<0:=by omega
   have d2:¬8≤(k:Int):=by omega
   clear c m1 m4
   go_enter Tryz.func274,Tryz.ntmps274
   go_wp2_with fail
   refine(HC.out _ HL.out).mono ?_
   rintro e w1 ⟨rfl,hb⟩
   have q0:w1.cell? ⟨w.heap.size,0,none⟩=some (.int .i64 sh):=aB hb (by simp)
   have q1:w1.cell? ⟨w.heap.size,1,none⟩=some (.slice la l.length lc):=aB hb (by simp)
   have B1:Hid (Below w.heap.size w w1):=aC hg hb
   clear hb
   go_wp2_with fail
   refine(pF la lc l sh k _ s0 s4 k8).mono ?_
   rintro e w' ⟨rfl,hw'⟩
   rw[hw']
   go_wp2
   go_ret2
   exact⟨by simp,aA B1.out _⟩
 ·have HE:jU m l key=aM m l:=by
   unfold jU
   simp only[aF,if_neg h1]
  have HV:mF m l key=0:=by
   unfold mF
   rw[HE,if_neg h1]
  rw[HE,HV]
  generalize aM m l=x at *
  have hx:(x != 0)=true:=by simpa using h1
  clear HE HV h1
  go_enter Tryz.func274,Tryz.ntmps274
  go_wp2_with fail
  refine(HC.out _ HL.out).mono ?_
  rintro e w1 ⟨rfl,hb⟩
  have B1:Hid (Below w.heap.size w w1):=aC hg hb
  clear hb
  go_wp2
  go_ret2
  exact⟨rfl,B1.out⟩
theorem pS (a:Option Addr) (k c:Nat) (w:World):Calls Tryz.prog 234 #[.slice a k c,.int .i64 0] w fun e' w'=>e'=.returned (.slice a k c)∧w'=w.alloc (.cells #[.int .i64 0] 22):=by
 go_enter Tryz.func234,Tryz.ntmps234
 go_wp2_with fail
 refine(aO [0] _ 1 _ (by simp) rfl (cD _ _ _ rfl)).mono ?_
 rintro e w' ⟨rfl,rfl⟩
 go_wp2
 go_ret
 exact⟨rfl,rfl⟩
end
section
theorem Tryz.info4:(Tryz.prog.info? 4).map (fun i=>(i.zero,i.size,i.bytes))=some (some (.bool false),1,1):=by kernel_rfl
def IsBools (w:World) (a:Option Addr) (bs:List Bool):Prop:=
 ∀i,i<bs.length→∃b off,a=some ⟨b,off,none⟩∧b<w.heap.size∧w.cell? ⟨b,off+i,none⟩=some (.bool (bs.getD i false))
theorem IsBools.below {w w':World} {a:Option Addr} {bs:List Bool} (h:IsBools w a bs) (hb:Below w.heap.size w w'):IsBools w' a bs:=fun i hi=>by
 obtain⟨b,off,ha,hlt,c0⟩:=h i hi
 exact⟨b,off,ha,Nat.lt_of_lt_of_le hlt hb.size,aB hb c0⟩
def bN (sh:Nat) (ks:List Int):List Bool:=ks.foldl (fun bs k=>bs.set (k.toNat%sh) true) (List.replicate sh false)
theorem marks_snoc (sh:Nat) (ks:List Int) (k:Int):bN sh (ks++[k])=(bN sh ks).set (k.toNat%sh) true:=by simp[bN]
theorem oP (sh:Nat):∀ks,(bN sh ks).length=sh:=fun ks=>by
 have h:∀(l:List Int) (bs:List Bool),(l.foldl (fun bs k=>bs.set (k.toNat%sh) true) bs).length=bs.length:=by
  intro l
  induction l with
  | nil=>intro bs;rfl
  | cons k t ih=>intro bs;rw[List.foldl_cons,ih];simp
 rw[bN,h,List.length_replicate]
theorem marks_take (sh:Nat) (ks:List Int) (k:Nat) (h:k<ks.length):bN sh (ks.take (k+1))=(bN sh (ks.take k)).set ((ks.getD k 0).toNat%sh) true:=by
 rw[List.take_succ_eq_append_getElem h,marks_snoc]
 simp[List.getD,h]
theorem aAw:(madeCells (Value.bool false).cells (0*1)).toList=(List.replicate 0 false).map Value.bool:=by kernel_rfl
theorem aAv:(madeCells (Value.bool false).cells (1*1)).toList=(List.replicate 1 false).map Value.bool:=by kernel_rfl
theorem aAu:(madeCells (Value.bool false).cells (2*1)).toList=(List.replicate 2 false).map Value.bool:=by kernel_rfl
theorem aAt:(madeCells (Value.bool false).cells (3*1)).toList=(List.replicate 3 false).map Value.bool:=by kernel_rfl
theorem aAs:(madeCells (Value.bool false).cells (4*1)).toList=(List.replicate 4 false).map Value.bool:=by kernel_rfl
theorem made_bools (n:Nat) (h:n≤4):(madeCells (Value.bool false).cells (n*1)).toList=(List.replicate n false).map Value.bool:=by
 have e:n=0∨n=1∨n=2∨n=3∨n=4:=by omega
 rcases e with rfl | rfl | rfl | rfl | rfl
 ·exact aAw
 ·exact aAv
 ·exact aAu
 ·exact aAt
 ·exact aAs
theorem vQ {w:World} {base g n cap:Nat} {bs:List Bool} (h:w.ownsRow base 4 1 (.slice (some ⟨g,0,none⟩) n cap) n (bs.map Value.bool)) (i:Nat) (hi:i<bs.length):w.cell? ⟨g,i,none⟩=some (.bool (bs.getD i false)):=by
 have hc:=h.cells (g:=g) rfl i (.bool (bs.getD i false)) (by simp[List.getD,hi])
 rw[bC]at hc
 simpa using hc
theorem oR (w:World) (b i:Nat) (v:Value):w.grownBy (w.setCell ⟨b,i,none⟩ v) (some b):=⟨rfl,rfl,rfl,by simp,fun j _ hj=>Below.heap_setCell w ⟨b,i,none⟩ v j (fun h=>hj (by rw[h]))⟩
theorem iQ {w:World} {base base':Nat} {e:TypeId} {size:Nat} {v:Value} {n:Nat} {xs:List Value} (h:w.ownsRow base e size v n xs) (hb:base'≤base):w.ownsRow base' e size v n xs:=by
 refine⟨h.1,?_⟩
 rcases h.2 with hn | ⟨g,cap,cur,e1,hbg,rest⟩
 ·exact .inl hn
 ·exact .inr ⟨g,cap,cur,e1,Nat.le_trans hb hbg,rest⟩
variable (la:Option Addr) (lc:Nat) (l:List TxA)
theorem mZ (sh:Nat) (ka:Option Addr) (kc:Nat) (ks:List Int) (w:World) (hs:0<sh) (hs4:sh≤4) (hk:IsInts w ka ks) (hkl:ks.length≤100) (hkk:∀i,i<ks.length→0≤ks.getD i 0∧ks.getD i 0<8) :
  Calls Tryz.prog 268 #[.agg #[.int .i64 sh,.slice la l.length lc],.slice ka ks.length kc] w fun e w'=>∃g cap,e=.returned (.slice (some ⟨g,0,none⟩) sh cap)∧w'.ownsRow w.heap.size 4 1 (.slice (some ⟨g,0,none⟩) sh cap) sh ((bN sh ks).map Value.bool)∧Below w.heap.size w w':=by
 obtain⟨i0,hi,hz0,hz1,hz2⟩:=info_parts Tryz.info4
 have HK:Hid (IsInts w ka ks):=hk
 have HR:Hid (∀i,i<ks.length→0≤ks.getD i 0∧ks.getD i 0<8):=hkk
 have HM:Hid ((madeCells (Value.bool false).cells (sh*1)).toList=(List.replicate sh false).map Value.bool):=made_bools sh hs4
 have q0:(w.alloc (.cells #[.int .i64 sh,.slice la l.length lc] 29)).cell? ⟨w.heap.size,0,none⟩=some (.int .i64 sh):=by simp
 have q1:(w.alloc (.cells #[.int .i64 sh,.slice la l.length lc] 29)).cell? ⟨w.heap.size,1,none⟩=some (.slice la l.length lc):=by simp
 have hU:Below w.heap.size w (w.alloc (.cells #[.int .i64 sh,.slice la l.length lc] 29)):=aA (Below.refl _ _) _
 have hsz:w.heap.size+1=(w.alloc (.cells #[.int .i64 sh,.slice la l.length lc] 29)).heap.size:=by simp
 clear hk hkk
 go_enter Tryz.func268,Tryz.ntmps268
 go_wp2_with (first | (at_make;refine wpList_make_full _ rfl _ _ 104 rfl (w.heap.size+1) 4 i0 (.bool false) 1 Tryz.underlying104 hi hz0 hz1 .i64 .i64 _ _ sh rfl rfl rfl rfl (by rw[hz2];omega) (by unfold maxLen;omega) (by simp) ?_;intro w1 hown hgrow) | go_in)
 generalize w.alloc (.cells #[.int .i64 sh,.slice la l.length lc] 29)=W at *
 rw[HM.out]at hown
 have UW:=Below.grown (Below.refl (w.heap.size+1) W) hgrow (by omega) (fun j hj=>by cases hj)
 have r0:w1.cell? ⟨w.heap.size,0,none⟩=some (.int .i64 sh):=(UW.cell (p:=⟨w.heap.size,0,none⟩) (by simp)).trans q0
 have r1:w1.cell? ⟨w.heap.size,1,none⟩=some (.slice la l.length lc):=(UW.cell (p:=⟨w.heap.size,1,none⟩) (by simp)).trans q1
 have hW1:Hid (Below w.heap.size w w1):=hU.trans (UW.mono (by omega))
 have hg1:W.heap.size<w1.heap.size:=by
  have:=(hown.lt W.heap.size (by simp[Value.ownBlock])).2
  exact this
 have hm0:Hid (w1.ownsRow (w.heap.size+1) 4 1 (.slice (some ⟨W.heap.size,0,none⟩) sh sh) sh ((bN sh []).map Value.bool)):=hown
 have hgw0:w.heap.size+1≤W.heap.size:=by omega
 clear q0 q1 hU UW hown hgrow HM
 generalize W.heap.size=g at *
 have hgw:w.heap.size≠g:=by omega
 go_wp2
 go_loopw [7,13] (fun _ i wr=>∃k:Nat,k≤ks.length∧i=.int .i64 k∧Hid (wr.ownsRow (w.heap.size+1) 4 1 (.slice (some ⟨g,0,none⟩) sh sh) sh ((bN sh (ks.take k)).map Value.bool))∧w1.grownBy wr (some g)) (fun _ i _=>ks.length - (intOf i).toNat)
 case atStart=>exact⟨0,Nat.zero_le _,rfl,hm0,World.grownBy.refl _ _⟩
 case round=>
  obtain⟨k,hk,rfl,hown,hgr⟩:=hrel
  clear hm0
  have far:∀(b j:Nat) (v:Value),b≠g→w1.cell? ⟨b,j,none⟩=some v→wr.cell? ⟨b,j,none⟩=some v:=fun b j v hne h=>hgr.cell h (by simpa using hne)
  have t0:=far _ _ _ hgw r0
  have t1:=far _ _ _ hgw r1
  by_cases hlt:k<ks.length
  ·obtain⟨b,off,rfl,hb,c00⟩:=HK.out k hlt
   have c0:=aB hW1.out c00
   obtain⟨z0,z8⟩:=HR.out k hlt
   have hbg:b≠g:=by omega
   have d0:=far _ _ _ hbg c0
   have HT:Hid (bN sh (ks.take (k+1))=(bN sh (ks.take k)).set ((ks.getD k 0).toNat%sh) true):=marks_take sh ks k hlt
   generalize ks.getD k 0=z at *
   obtain⟨y,rfl⟩:=Int.eq_ofNat_of_zero_le z0
   have hy:y<8:=by omega
   have hMl:(bN sh (ks.take k)).length=sh:=oP sh _
   have hlt2:y%sh<sh:=Nat.mod_lt _ hs
   have hA:Below wr.heap.size wr (wr.alloc (.cells #[.int .i64 sh,.slice la l.length lc] 29)):=aA (Below.refl _ _) _
   have ho1:=dA hown.out hA
   have q3:=vQ ho1 (y%sh) (by rw[hMl];exact hlt2)
   have q4:(wr.alloc (.cells #[.int .i64 sh,.slice la l.length lc] 29)).frozen? ⟨g,y%sh,none⟩=false:=ho1.frozenAt (y%sh)
   have R1:Hid (((wr.alloc (.cells #[.int .i64 sh,.slice la l.length lc] 29)).setCell ⟨g,y%sh,none⟩ (.bool true)).ownsRow (w.heap.size+1) 4 1 (.slice (some ⟨g,0,none⟩) sh sh) sh ((bN sh (ks.take (k+1))).map Value.bool)):=by
    have h:=(ho1.stored (y%sh) (.bool true)).1
    rw[HT.out,List.map_set]
    exact h
   have R2:Hid (w1.grownBy ((wr.alloc (.cells #[.int .i64 sh,.slice la l.length lc] 29)).setCell ⟨g,y%sh,none⟩ (.bool true)) (some g)):=(hgr.trans (World.grownBy_alloc wr _ _)).trans (oR _ g (y%sh) _)
   have hm1:(0:Int)≤((y%sh:Nat):Int):=by omega
   have hm2:((y%sh:Nat):Int)<(sh:Int):=by omega
   have CS:Hid (Calls Tryz.prog 281 #[.agg #[.int .i64 sh,.slice la l.length lc],.int .i64 y] wr fun e w'=>e=.returned (.int .i64 ((y%sh:Nat):Int))∧w'=wr.alloc (.cells #[.int .i64 sh,.slice la l.length lc] 29)):=pF la lc l sh y wr hs hs4 hy
   generalize (bN sh (ks.take k)).getD (y%sh) false=old at *
   clear hown hgr far c0 c00 hA ho1 z0 z8 hMl
   generalize y%sh=r at *
   go_wp2_with fail
   refine CS.out.mono ?_
   rintro e w' ⟨rfl,hw'⟩
   rw[hw']
   clear hw' w' CS
   generalize wr.alloc (.cells #[.int .i64 sh,.slice la l.length lc] 29)=V at *
   clear t0 t1 d0
   go_wp2
   go_roundw
   case rel=>exact⟨k+1,by omega,by go_num,R1,R2.out⟩
   case measure=>simp[intOf];omega
  ·have hkk:k=ks.length:=by omega
   have hfin:Hid (wr.ownsRow w.heap.size 4 1 (.slice (some ⟨g,0,none⟩) sh sh) sh ((bN sh ks).map Value.bool)):=by
    have h:=hown.out
    rw[hkk,List.take_of_length_le (Nat.le_refl _)]at h
    exact iQ h (by omega)
   have hB:Hid (Below w.heap.size w wr):=hW1.out.trans ((Below.grown (Below.refl w.heap.size w1) hgr (by omega) (fun j hj=>by injection hj with hj;omega)))
   clear hown hgr far
   go_wp2
   go_ret
   exact⟨g,sh,rfl,hfin.out,hB.out⟩
end
section
theorem fV {l:List TxA} (h:dD l=0) (k:Nat) (hk:k<l.length):eT (l.getD k x0)=0:=by
 have h8:=eD h
 unfold dD at h
 rw[if_neg (by omega)]at h
 exact nH eT l x0 h k hk
theorem ext2' {W w':World} {p1 p2:Addr} {v1 v2:Value} (hb:Below W.heap.size W w') (q1:W.cell? p1=some v1) (q2:W.cell? p2=some v2) :
  Below W.heap.size W w'∧w'.cell? p1=some v1∧w'.cell? p2=some v2:=⟨hb,aB hb q1,aB hb q2⟩
def aQ (l:List TxA) (k:Nat):List (Int×Bool):=bR (l.getD k x0).rs (aH (l.getD k x0).ss) 8
def bJ (L:List (Int×Bool)):List Int:=L.map Prod.fst
def aV (L:List (Int×Bool)):List Int:=(L.filter Prod.snd).map Prod.fst
theorem mN (rs ks:List Int):∀n,∀p∈bR rs ks n,0≤p.1∧p.1<n
 | 0,p,h=>by cases h
 | n+1,p,h=>by
  rw[bR,List.mem_append]at h
  rcases h with h | h
  ·have:=mN rs ks n p h
   omega
  ·by_cases c:(n:Int)∈ks∨(n:Int)∈rs
   ·rw[if_pos c]at h
    simp only[List.mem_singleton]at h
    subst h
    exact⟨by simp,by simp;omega⟩
   ·rw[if_neg c]at h;cases h
theorem xD (l:List TxA) (k:Nat):∀i,i<(bJ (aQ l k)).length→0≤(bJ (aQ l k)).getD i 0∧(bJ (aQ l k)).getD i 0<8:=fun i hi=>by
 have hm:(bJ (aQ l k)).getD i 0∈bJ (aQ l k):=by simp[List.getD,hi]
 obtain⟨p,hp,he⟩:=List.mem_map.1 hm
 have:=mN _ _ _ p hp
 rw[←he]
 exact this
theorem wK (l:List TxA) (k:Nat):∀i,i<(aV (aQ l k)).length→0≤(aV (aQ l k)).getD i 0∧(aV (aQ l k)).getD i 0<8:=fun i hi=>by
 have hm:(aV (aQ l k)).getD i 0∈aV (aQ l k):=by simp[List.getD,hi]
 obtain⟨p,hp,he⟩:=List.mem_map.1 hm
 have:=mN _ _ _ p (List.mem_filter.1 hp).1
 rw[←he]
 exact this
theorem pO (l:List TxA) (k:Nat):(aQ l k).length≤8:=kU _ _ _
theorem aBe (L:List (Int×Bool)) (k:Nat) (h:k<L.length):bJ (L.take (k+1))=bJ (L.take k)++[(L.getD k (0,false)).1]:=by
 rw[List.take_succ_eq_append_getElem h]
 unfold bJ
 rw[List.map_append]
 congr 1
 simp[List.getD,h]
theorem zI (L:List (Int×Bool)) (k:Nat) (h:k<L.length):aV (L.take (k+1))=aV (L.take k)++(if (L.getD k (0,false)).2 then [(L.getD k (0,false)).1] else []):=by
 rw[List.take_succ_eq_append_getElem h]
 have e:L.getD k (0,false)=L[k]:=by simp[List.getD,h]
 rw[e]
 unfold aV
 rw[List.filter_append,List.map_append]
 congr 1
 by_cases c:L[k].2=true
 ·rw[if_pos c];simp[c]
 ·rw[if_neg c];simp[c]
variable (la:Option Addr) (lc:Nat) (l:List TxA) (m n:Int)
theorem sO (k:Nat) (w:World) (hl:IsTxs w la l) (he:pnE m l k=0) :
  Calls Tryz.prog 267 #[.agg #[.int .i64 m,.slice la l.length lc],.int .i64 k] w fun e w'=>∃a c,e=.returned (.slice a (aQ l k).length c)∧IsLks w' a (aQ l k)∧Below w.heap.size w w':=by
 obtain⟨hp,hn⟩:=sD he
 have hkl:k<l.length:=by have:=noneE_zero hn;omega
 have hl8:=eD (aY hp).2.2
 have HE:Hid (aF [aM m l,lT k l.length]=0):=he
 have HC:Hid (eT (l.getD k x0)=0):=fV (aY hp).2.2 k hkl
 have hW:Hid (Below w.heap.size w (w.alloc (.cells #[.int .i64 m,.slice la l.length lc] 29))):=aA (Below.refl _ _) _
 have HLW:Hid (IsTxs (w.alloc (.cells #[.int .i64 m,.slice la l.length lc] 29)) la l):=hl.below hW.out
 have y0:(w.alloc (.cells #[.int .i64 m,.slice la l.length lc] 29)).cell? ⟨w.heap.size,0,none⟩=some (.int .i64 m):=by simp
 have y1:(w.alloc (.cells #[.int .i64 m,.slice la l.length lc] 29)).cell? ⟨w.heap.size,1,none⟩=some (.slice la l.length lc):=by simp
 have hlk:Hid (aAx (l.getD k x0).rs (l.getD k x0).gs (l.getD k x0).ss=aQ l k):=if_pos HC.out
 clear hl he hp hn
 generalize aQ l k=L at *
 go_enter Tryz.func267,Tryz.ntmps267
 go_wp2_with fail
 generalize w.alloc (.cells #[.int .i64 m,.slice la l.length lc] 29)=W at *
 go_region_held3 (fun w'=>Below W.heap.size W w'∧w'.cell? ⟨w.heap.size,0,none⟩=some (.int .i64 m)∧w'.cell? ⟨w.heap.size,1,none⟩=some (.slice la l.length lc)) ((go_split_ands;refine ext2' ?_ y0 y1;repeat (first | assumption | exact Below.refl _ _ | refine aD ?_ | refine aA ?_ _ | refine aC ?_ (by assumption))))
  (first
   | (go_at_call 280;refine(tY la lc l m k _).mono ?_;rintro e w' ⟨rfl,hby⟩)
   | (go_at_call 28;refine(bB la lc l m _ ?_).mono ?_;(refine HLW.out.below ?_;go_split_ands;repeat (first | assumption | exact Below.refl _ _ | refine aD ?_ | refine aA ?_ _ | refine aC ?_ (by assumption)));rintro e w' ⟨rfl,hbx⟩)
   | (go_at_call 15;refine(aO [aM m l,lT k l.length] _ 2 _ (by simp) HE.out ?_).mono ?_;(exact iU _ _ _ _ (by simp));rintro e w' ⟨rfl,rfl⟩))
 all_goals (
  go_split_ands
  obtain⟨b,off,rfl,hb,c0,c1,c2,hx⟩:=HLW.out k hkl
  have d0:=aB (by assumption) c0
  have d1:=aB (by assumption) c1
  have d2:=aB (by assumption) c2
  have HX:=hx.t.below (by assumption)
  have hch:Hid (bA (l.getD k x0).rs (l.getD k x0).gs (l.getD k x0).ss=0):=HC.out
  clear c0 c1 c2 hx
  generalize l.getD k x0=x at *
  obtain⟨ra,ga,sa,rc,gc,sc,rs,gs,ss⟩:=x
  simp only at d0 d1 d2 HX hlk hch
  have HX':=HX
  go_wp2_with fail
  refine(locks_any ra ga sa rc gc sc rs gs ss _ HX').mono ?_
  rintro e w2 ⟨a,cap,rfl,hL,hb2⟩
  rw[hlk.out]at hL ⊢
  rw[hch.out]
  have B2:Hid (Below w.heap.size w w2):=aC hW.out (aC (by assumption) hb2)
  have hL2:Hid (IsLks (w2.alloc (.cells #[.int .i64 0] 22)) a L):=hL.below (aA (Below.refl _ _) _)
  clear hL hb2 HX HX' d0 d1 d2
  go_wp2_with fail
  refine(pS a _ cap _).mono ?_
  rintro e w3 ⟨rfl,rfl⟩
  go_wp2
  go_ret
  exact⟨a,cap,rfl,hL2.out,aA B2.out _⟩)
theorem part1_ok (sh k p q:Nat) (w:World) (h0:w.cell? ⟨p,0,none⟩=some (.int .i64 sh)) (h1:w.cell? ⟨p,1,none⟩=some (.slice la l.length lc)) (h2:w.cell? ⟨q,0,none⟩=some (.int .i64 k)) (hl:IsTxs w la l) (he:pnE sh l k=0) :
  Calls Tryz.prog 266 #[.pointer (some ⟨p,0,none⟩),.pointer (some ⟨q,0,none⟩)] w fun e w'=>∃g cap,e=.returned (.slice (some ⟨g,0,none⟩) sh cap)∧w'.ownsRow w.heap.size 4 1 (.slice (some ⟨g,0,none⟩) sh cap) sh ((bN sh (bJ (aQ l k))).map Value.bool)∧Below w.heap.size w w':=by
 obtain⟨i0,hi,hz0,hz1,hz2⟩:=info_parts Tryz.info3
 have hsh:=aY (sD he).1
 have s0:0<sh:=by omega
 have s4:sh≤4:=by omega
 have HP:Hid (Calls Tryz.prog 267 #[.agg #[.int .i64 sh,.slice la l.length lc],.int .i64 k] w fun e w'=>∃a c,e=.returned (.slice a (aQ l k).length c)∧IsLks w' a (aQ l k)∧Below w.heap.size w w'):=sO la lc l sh k w hl he
 have HL8:(aQ l k).length≤8:=pO l k
 have HSH:Hid (∀(ka:Option Addr) (kc:Nat) (w:World),IsInts w ka (bJ (aQ l k))→Calls Tryz.prog 268 #[.agg #[.int .i64 sh,.slice la l.length lc],.slice ka (aQ l k).length kc] w fun e w'=>∃g cap,e=.returned (.slice (some ⟨g,0,none⟩) sh cap)∧w'.ownsRow w.heap.size 4 1 (.slice (some ⟨g,0,none⟩) sh cap) sh ((bN sh (bJ (aQ l k))).map Value.bool)∧Below w.heap.size w w'):=fun ka kc w hk=>by
  have hlen:(bJ (aQ l k)).length=(aQ l k).length:=List.length_map _
  have h:=mZ la lc l sh ka kc (bJ (aQ l k)) w s0 s4 hk (by rw[hlen];omega) (xD l k)
  rw[hlen]at h
  exact h
 clear hl he hsh s0 s4
 generalize aQ l k=L at *
 go_enter Tryz.func266,Tryz.ntmps266
 go_wp2_with fail
 refine HP.out.mono ?_
 clear HP
 rintro e w1 ⟨a,c,rfl,hL,hb⟩
 have HL:Hid (IsLks w1 a L):=hL
 have HB:Hid (Below w.heap.size w w1):=hb
 clear hL
 have y0:=aB hb h0
 have y1:=aB hb h1
 clear hb h0 h1 h2
 go_wp2
 go_loopw [3,5,10] (fun v _ i wr=>∃k:Nat,k≤L.length∧i=.int .i64 k∧wr.ownsRow w1.heap.size 3 1 v k ((bJ (L.take k)).map (Value.int .i64))∧Below w1.heap.size w1 wr) (fun _ _ i _=>L.length - (intOf i).toNat)
 case atStart=>exact⟨0,Nat.zero_le _,rfl,World.ownsRow_nil _ _ _ _,Below.refl _ _⟩
 case round=>
  obtain⟨j,hj,rfl,hown,hnx⟩:=hrel
  have hsz:=hnx.size
  by_cases hlt:j<L.length
  ·obtain⟨b,off,rfl,hb,c0,c1⟩:=HL.out j hlt
   have d0:=aB hnx c0
   have d1:=aB hnx c1
   have HT:Hid (bJ (L.take (j+1))=bJ (L.take j)++[(L.getD j (0,false)).1]):=aBe L j hlt
   clear c0 c1
   generalize (L.getD j (0,false))=pr at *
   obtain⟨z,z'⟩:=pr
   simp only at d0 d1 HT
   go_wp2_with (first
    | (at_builtin;refine wpList_append_own _ rfl _ _ 41 rfl w1.heap.size 3 i0 (.int .i64 0) 1 8 Tryz.underlying41 hi hz0 hz1 hz2 rfl (by decide) _ _ _ rfl ((hown.alloc _).alloc _) ⟨wr.heap.size+1,0,none⟩ 1 1 [.int .i64 z] rfl rfl (nG _ _ _ (by simp)) (ints_oneCell .i64 [z]) (by unfold maxLen;omega) (by omega) (by simp;omega) ?_;intro v' w2 hown' hgrow _)
    | go_in)
   have R:w2.ownsRow w1.heap.size 3 1 v' (j+1) ((bJ (L.take (j+1))).map (Value.int .i64)):=by rw[HT.out,List.map_append];exact hown'
   have RB:=(((hnx.alloc (by omega) _).alloc (by simp;omega) _).grown hgrow (by simp;omega) (fun j hj=>(hown.lt j hj).1))
   clear hown' hgrow hown hnx d0 d1
   go_wp2
   go_roundw
   case rel=>exact⟨j+1,by omega,by go_num,R,RB⟩
   case measure=>simp[intOf];omega
  ·have hjj:j=L.length:=by omega
   rw[hjj,List.take_of_length_le (Nat.le_refl _)]at hown
   have hlen:(bJ L).length=L.length:=List.length_map _
   obtain⟨ka,kc,hv,hk⟩:=fB hown
   rw[hlen]at hv
   subst hv
   have z0:=aB hnx y0
   have z1:=aB hnx y1
   have B2:Hid (Below w.heap.size w wr):=aC HB.out hnx
   have HK:Hid (IsInts wr ka (bJ L)):=hk
   clear hown hnx hk hjj hj
   go_wp2_with fail
   refine(HSH.out ka kc _ HK.out).mono ?_
   rintro e w3 ⟨g,cap,rfl,ho,hb3⟩
   have ho2:Hid (w3.ownsRow w.heap.size 4 1 (.slice (some ⟨g,0,none⟩) sh cap) sh ((bN sh (bJ L)).map Value.bool)):=iQ ho B2.out.size
   have B3:Hid (Below w.heap.size w w3):=aC B2.out hb3
   clear ho hb3 z0 z1
   go_wp2
   go_ret
   exact⟨g,cap,rfl,ho2.out,B3.out⟩
theorem active1_ok (sh k p q:Nat) (w:World) (h0:w.cell? ⟨p,0,none⟩=some (.int .i64 sh)) (h1:w.cell? ⟨p,1,none⟩=some (.slice la l.length lc)) (h2:w.cell? ⟨q,0,none⟩=some (.int .i64 k)) (hl:IsTxs w la l) (he:pnE sh l k=0) :
  Calls Tryz.prog 269 #[.pointer (some ⟨p,0,none⟩),.pointer (some ⟨q,0,none⟩)] w fun e w'=>∃g cap,e=.returned (.slice (some ⟨g,0,none⟩) sh cap)∧w'.ownsRow w.heap.size 4 1 (.slice (some ⟨g,0,none⟩) sh cap) sh ((bN sh (aV (aQ l k))).map Value.bool)∧Below w.heap.size w w':=by
 obtain⟨i0,hi,hz0,hz1,hz2⟩:=info_parts Tryz.info3
 have hsh:=aY (sD he).1
 have s0:0<sh:=by omega
 have s4:sh≤4:=by omega
 have HP:Hid (Calls Tryz.prog 267 #[.agg #[.int .i64 sh,.slice la l.length lc],.int .i64 k] w fun e w'=>∃a c,e=.returned (.slice a (aQ l k).length c)∧IsLks w' a (aQ l k)∧Below w.heap.size w w'):=sO la lc l sh k w hl he
 have HL8:(aQ l k).length≤8:=pO l k
 have HSH:Hid (∀(ka:Option Addr) (kc:Nat) (w:World),IsInts w ka (aV (aQ l k))→Calls Tryz.prog 268 #[.agg #[.int .i64 sh,.slice la l.length lc],.slice ka (aV (aQ l k)).length kc] w fun e w'=>∃g cap,e=.returned (.slice (some ⟨g,0,none⟩) sh cap)∧w'.ownsRow w.heap.size 4 1 (.slice (some ⟨g,0,none⟩) sh cap) sh ((bN sh (aV (aQ l k))).map Value.bool)∧Below w.heap.size w w'):=fun ka kc w hk=>by
  have hlen:(aV (aQ l k)).length≤(aQ l k).length:=by unfold aV;rw[List.length_map];exact List.length_filter_le _ _
  exact mZ la lc l sh ka kc (aV (aQ l k)) w s0 s4 hk (by omega) (wK l k)
 clear hl he hsh s0 s4
 generalize aQ l k=L at *
 go_enter Tryz.func269,Tryz.ntmps269
 go_wp2_with fail
 refine HP.out.mono ?_
 clear HP
 rintro e w1 ⟨a,c,rfl,hL,hb⟩
 have HL:Hid (IsLks w1 a L):=hL
 have HB:Hid (Below w.heap.size w w1):=hb
 clear hL
 have y0:=aB hb h0
 have y1:=aB hb h1
 clear hb h0 h1 h2
 go_wp2
 go_loopw [3,5,10] (fun v _ i wr=>∃k:Nat,k≤L.length∧i=.int .i64 k∧wr.ownsRow w1.heap.size 3 1 v (aV (L.take k)).length ((aV (L.take k)).map (Value.int .i64))∧Below w1.heap.size w1 wr) (fun _ _ i _=>L.length - (intOf i).toNat)
 case atStart=>exact⟨0,Nat.zero_le _,rfl,World.ownsRow_nil _ _ _ _,Below.refl _ _⟩
 case round=>
  obtain⟨j,hj,rfl,hown,hnx⟩:=hrel
  have hsz:=hnx.size
  by_cases hlt:j<L.length
  ·obtain⟨b,off,rfl,hb,c0,c1⟩:=HL.out j hlt
   have d0:=aB hnx c0
   have d1:=aB hnx c1
   have HT:Hid (aV (L.take (j+1))=aV (L.take j)++(if (L.getD j (0,false)).2 then [(L.getD j (0,false)).1] else [])):=zI L j hlt
   have hsl:(aV (L.take j)).length≤j:=by
    unfold aV
    rw[List.length_map]
    refine Nat.le_trans (List.length_filter_le _ _) ?_
    rw[List.length_take]
    omega
   clear c0 c1
   generalize (L.getD j (0,false))=pr at *
   obtain⟨z,z'⟩:=pr
   simp only at d0 d1 HT
   cases z' with
   | true=>
    have HTT:Hid (aV (L.take (j+1))=aV (L.take j)++[z]):=HT.out
    clear HT
    go_wp2_with (first
     | (at_builtin;refine wpList_append_own _ rfl _ _ 41 rfl w1.heap.size 3 i0 (.int .i64 0) 1 8 Tryz.underlying41 hi hz0 hz1 hz2 rfl (by decide) _ _ _ rfl ((hown.alloc _).alloc _) ⟨wr.heap.size+1,0,none⟩ 1 1 [.int .i64 z] rfl rfl (nG _ _ _ (by simp)) (ints_oneCell .i64 [z]) (by unfold maxLen;omega) (by omega) (by simp;omega) ?_;intro v' w2 hown' hgrow _)
     | go_in)
    have R:w2.ownsRow w1.heap.size 3 1 v' (aV (L.take (j+1))).length ((aV (L.take (j+1))).map (Value.int .i64)):=by rw[HTT.out,List.map_append,List.length_append];exact hown'
    have RB:=(((hnx.alloc (by omega) _).alloc (by simp;omega) _).grown hgrow (by simp;omega) (fun j hj=>(hown.lt j hj).1))
    clear hown' hgrow hown hnx d0 d1
    go_wp2
    go_roundw
    case rel=>exact⟨j+1,by omega,by go_num,R,RB⟩
    case measure=>simp[intOf];omega
   | false=>
    have HTT:Hid (aV (L.take (j+1))=aV (L.take j)):=by show _=_;rw[HT.out];simp
    clear HT
    go_wp2_with go_in
    have R:(wr.alloc (.cells #[.int .i64 z,.bool false] 286)).ownsRow w1.heap.size 3 1 u3 (aV (L.take (j+1))).length ((aV (L.take (j+1))).map (Value.int .i64)):=by rw[HTT.out];exact hown.alloc _
    have RB:Below w1.heap.size w1 (wr.alloc (.cells #[.int .i64 z,.bool false] 286)):=hnx.alloc (by omega) _
    clear hown hnx d0 d1
    go_wp2
    go_roundw
    case rel=>exact⟨j+1,by omega,by go_num,R,RB⟩
    case measure=>simp[intOf];omega
  ·have hjj:j=L.length:=by omega
   rw[hjj,List.take_of_length_le (Nat.le_refl _)]at hown
   obtain⟨ka,kc,hv,hk⟩:=fB hown
   subst hv
   have z0:=aB hnx y0
   have z1:=aB hnx y1
   have B2:Hid (Below w.heap.size w wr):=aC HB.out hnx
   have HK:Hid (IsInts wr ka (aV L)):=hk
   clear hown hnx hk hjj hj
   go_wp2_with fail
   refine(HSH.out ka kc _ HK.out).mono ?_
   rintro e w3 ⟨g,cap,rfl,ho,hb3⟩
   have ho2:Hid (w3.ownsRow w.heap.size 4 1 (.slice (some ⟨g,0,none⟩) sh cap) sh ((bN sh (aV L)).map Value.bool)):=iQ ho B2.out.size
   have B3:Hid (Below w.heap.size w w3):=aC B2.out hb3
   clear ho hb3 z0 z1
   go_wp2
   go_ret
   exact⟨g,cap,rfl,ho2.out,B3.out⟩
end
theorem uO (sh i:Nat) (hi:i<sh):∀ks:List Int,(bN sh ks).getD i false=ks.any (fun k=>k.toNat%sh==i):=by
 have key:∀(ks:List Int) (bs:List Bool),bs.length=sh→(ks.foldl (fun bs k=>bs.set (k.toNat%sh) true) bs).getD i false=(bs.getD i false || ks.any (fun k=>k.toNat%sh==i)):=by
  intro ks
  induction ks with
  | nil=>intro bs _;simp
  | cons k t ih=>
   intro bs hb
   rw[List.foldl_cons,ih _ (by simpa using hb),List.any_cons]
   by_cases c:k.toNat%sh=i
   ·subst c
    have e:(bs.set (k.toNat%sh) true).getD (k.toNat%sh) false=true:=by simp[List.getD,hb,hi]
    rw[e]
    simp
   ·have e:(bs.set (k.toNat%sh) true).getD i false=bs.getD i false:=by simp[List.getD,c]
    rw[e]
    have e2:(k.toNat%sh==i)=false:=by simpa using c
    rw[e2,Bool.false_or]
 intro ks
 unfold bN
 rw[key ks _ (List.length_replicate)]
 simp[List.getD,hi]
theorem keys_any (L:List (Int×Bool)) (f:Int→Bool):(bJ L).any f=L.any (fun p=>f p.1):=by
 unfold bJ
 rw[List.any_map]
 rfl
theorem sets_any (L:List (Int×Bool)) (f:Int→Bool):(aV L).any f=L.any (fun p=>f p.1 && p.2):=by
 unfold aV
 rw[List.any_map,List.any_filter]
 congr 1
 funext p
 cases p.2 <;> simp
end Go.Proofs.YtcgpkonfneofdaaGreatDoor
