/- Conditions: those that each theorem states. -/
import Derived.Test.YtcgpkonfneofdaaGreatDoorSSeqA
set_option maxRecDepth 100000
set_option maxHeartbeats 8000000
namespace Go.Proofs.YtcgpkonfneofdaaGreatDoor
open Go.RowKit
theorem lX (zs ys:List Int) (a a':Option Addr) (cap cap':Nat) (w:World) (hl:zs.length≤maxLen) (hz:IsInts w a zs) (hy:IsInts w a' ys) :
  Calls Tryz.prog 190 #[.slice a zs.length cap,.slice a' ys.length cap'] w fun e w'=>e=.returned (.bool (decide (zs=ys)))∧Below w.heap.size w w':=by
 unfold maxLen at hl
 by_cases hlen:zs.length=ys.length
 ·have hbl:((zs.length:Int) != (ys.length:Int))=false:=by simp[hlen]
  have HL:Hid (zs.length=ys.length):=hlen
  clear hlen
  go_enter Tryz.func190,Tryz.ntmps190
  go_wp2
  go_loopw [13] (fun i wr=>∃k:Nat,k≤zs.length∧i=.int .i64 k∧Hid (zs=ys↔zs.drop k=ys.drop k)∧Below w.heap.size w wr) (fun i _=>zs.length - (intOf i).toNat)
  case atStart=>exact⟨0,Nat.zero_le _,rfl,Iff.rfl,Below.refl _ _⟩
  case round=>
   obtain⟨k,hk,rfl,hno,hnx⟩:=hrel
   by_cases hlt:k<zs.length
   ·have hlt':k<ys.length:=by have:=HL.out;omega
    obtain⟨b,off,rfl,hb,hc⟩:=hz k hlt
    obtain⟨b',off',rfl,hb',hc'⟩:=hy k hlt'
    have hs:Hid (zs=ys↔(zs.getD k 0=ys.getD k 0∧zs.drop (k+1)=ys.drop (k+1))):=hno.out.trans (same_step zs ys k hlt hlt')
    have hc:=(hnx.cell (p:=⟨b,off+k,none⟩) hb).trans hc
    have hc':=(hnx.cell (p:=⟨b',off'+k,none⟩) hb').trans hc'
    have HX:Hid (Below w.heap.size w wr):=hnx
    generalize zs.getD k 0=x at *
    generalize ys.getD k 0=y at *
    clear hno hz hy hnx
    have i1:(0:Int)≤(k:Int):=by omega
    have i2:(k:Int)<(zs.length:Int):=by omega
    have i3:(k:Int)<(ys.length:Int):=by omega
    by_cases h1:x=y
    ·have H':Hid (zs=ys↔zs.drop (k+1)=ys.drop (k+1)):=hs.out.trans (by simp[h1])
     have h2:(x != y)=false:=by simpa using h1
     clear hs h1
     go_wp2_with fail
     go_quiet (fail)
     go_wp2
     go_roundw
     case rel=>exact⟨k+1,by omega,by go_num,H',below_drewN HX.out _⟩
     case measure=>simp[intOf];omega
    ·have H':Hid (¬zs=ys):=by
      intro e
      exact h1 (hs.out.1 e).1
     have h2:(x != y)=true:=by simpa using h1
     clear hs h1
     go_wp2_with fail
     go_quiet (fail)
     go_wp2
     go_ret
     exact⟨by rw[decide_eq_false H'.out];rfl,below_drewN HX.out _⟩
   ·have H':Hid (zs=ys):=by
     refine hno.out.2 ?_
     have:=HL.out
     rw[List.drop_of_length_le (by omega),List.drop_of_length_le (by omega)]
    clear hno hz hy
    go_wp2
    go_ret
    exact⟨by rw[decide_eq_true H'.out];rfl,hnx⟩
 ·have H':Hid (¬zs=ys):=fun e=>hlen (by rw[e])
  have hbl:((zs.length:Int) != (ys.length:Int))=true:=by simp;omega
  clear hlen hz hy
  go_enter Tryz.func190,Tryz.ntmps190
  go_wp2
  go_ret
  exact⟨by rw[decide_eq_false H'.out];rfl,Below.refl _ _⟩
def lP (n m:Nat):Int:=if m=n then 0 else 1
theorem oJ (xa ya:Option Addr) (n m xc yc:Nat) (w:World) :
  Calls Tryz.prog 188 #[.slice xa n xc,.slice ya m yc] w fun e w'=>e=.returned (.int .i64 (lP n m))∧w'=w:=by
 by_cases h:m=n
 ·have e0:lP n m=0:=if_pos h
  rw[e0]
  have hb:((m:Int) != (n:Int))=false:=by simp[h]
  clear h e0
  go_enter Tryz.func188,Tryz.ntmps188
  go_wp2
  go_ret
  exact⟨rfl,rfl⟩
 ·have e0:lP n m=1:=if_neg h
  rw[e0]
  have hb:((m:Int) != (n:Int))=true:=by simp;omega
  clear h e0
  go_enter Tryz.func188,Tryz.ntmps188
  go_wp2
  go_ret
  exact⟨rfl,rfl⟩
theorem same_any (d d':Bool) (xs ys:List Int) (va va':Option Addr) (vc vc':Nat) (w:World) (hxl:xs.length≤maxLen) (hx:IsInts w va xs) (hy:IsInts w va' ys) :
  Calls Tryz.prog 189 #[.agg #[.bool d,.slice va xs.length vc],.agg #[.bool d',.slice va' ys.length vc']] w fun e w'=>e=.returned (.bool (decide (((d,xs):Bool×List Int)=(d',ys))))∧Below w.heap.size w w':=by
 obtain⟨W,hWe⟩:∃W:World,W=((w.alloc (.cells #[.bool d,.slice va xs.length vc] 148)).alloc (.cells #[.bool d',.slice va' ys.length vc'] 148)):=⟨_,rfl⟩
 have hU:Hid (Below w.heap.size w W):=by subst hWe;exact aA (aA (Below.refl _ _) _) _
 have p0:W.cell? ⟨w.heap.size,0,none⟩=some (.bool d):=by subst hWe;exact aB (aA (Below.refl _ _) _) (aG _ _ 148 _ 0 _ rfl rfl)
 have p1:W.cell? ⟨w.heap.size,1,none⟩=some (.slice va xs.length vc):=by subst hWe;exact aB (aA (Below.refl _ _) _) (aG _ _ 148 _ 1 _ rfl rfl)
 have q0:W.cell? ⟨w.heap.size+1,0,none⟩=some (.bool d'):=by subst hWe;exact aG _ _ 148 _ 0 _ (by simp) rfl
 have q1:W.cell? ⟨w.heap.size+1,1,none⟩=some (.slice va' ys.length vc'):=by subst hWe;exact aG _ _ 148 _ 1 _ (by simp) rfl
 have HX:Hid (IsInts W va xs):=hx.below hU.out
 have HY:Hid (IsInts W va' ys):=hy.below hU.out
 have HWe:Hid (W=_):=hWe
 clear hx hy hWe
 by_cases hd:d=d'
 ·subst hd
  have HD:Hid (decide (((d,xs):Bool×List Int)=(d,ys))=decide (xs=ys)):=by show _=_;simp
  go_enter Tryz.func189,Tryz.ntmps189
  go_upto_region 1 with fail
  rw[←HWe.out]
  clear HWe
  go_wp2_with fail
  refine(lX xs ys va va' vc vc' _ hxl HX.out HY.out).mono ?_
  rintro e w1 ⟨rfl,hb1⟩
  have B1:Hid (Below w.heap.size w w1):=aC hU.out hb1
  clear hb1
  go_wp2
  go_ret
  exact⟨by rw[HD.out];rfl,B1.out⟩
 ·have HD:Hid (decide (((d,xs):Bool×List Int)=(d',ys))=false):=decide_eq_false (fun e=>hd (by injection e))
  have hd':(d==d')=false:=by simpa using hd
  clear hd
  go_enter Tryz.func189,Tryz.ntmps189
  go_upto_region 1 with fail
  rw[←HWe.out]
  clear HWe
  go_wp2
  go_ret
  exact⟨by rw[HD.out];rfl,hU.out⟩
section
def fD:List (Bool×List Int)→List (Bool×List Int)→Nat
 | x::t,y::u=>if x=y then fD t u+1 else 0
 | [],_=>0
 | _::_,[]=>0
theorem fD_at:∀(a b:List (Bool×List Int)) (k:Nat),k<a.length→k<b.length→(∀j,j<k→a.getD j (false,[])=b.getD j (false,[]))→¬a.getD k (false,[])=b.getD k (false,[])→fD a b=k∧¬a=b
 | [],_,k,h,_,_,_=>absurd h (Nat.not_lt_zero _)
 | _::_,[],k,_,h,_,_=>absurd h (Nat.not_lt_zero _)
 | x::t,y::u,0,_,_,_,hn=>by
  have hn':¬x=y:=hn
  exact⟨if_neg hn',fun e=>hn' (by injection e)⟩
 | x::t,y::u,k+1,h1,h2,hs,hn=>by
  have hxy:x=y:=hs 0 (Nat.succ_pos _)
  obtain⟨f1,f2⟩:=fD_at t u k (by simpa using h1) (by simpa using h2) (fun j hj=>hs (j+1) (by omega)) hn
  refine⟨?_,fun e=>f2 (by injection e)⟩
  show (if x=y then fD t u+1 else 0)=k+1
  rw[if_pos hxy,f1]
theorem tB:∀(a b:List (Bool×List Int)),a.length=b.length→(∀j,j<a.length→a.getD j (false,[])=b.getD j (false,[]))→a=b
 | [],[],_,_=>rfl
 | [],_::_,h,_=>by simp at h
 | _::_,[],h,_=>by simp at h
 | x::t,y::u,h,hs=>by
  have hxy:x=y:=hs 0 (by simp)
  rw[hxy,tB t u (by simpa using h) (fun j hj=>hs (j+1) (by simpa using hj))]
def mR (s:List Int) (l:List TxA) (en:List Int) (r:List (Bool×List Int)):Int:=aF [fZ s l,bK en,lP (bO s l).length r.length]
def oZ (s:List Int) (l:List TxA) (en:List Int) (r:List (Bool×List Int)):Int:=if bO s l=r then (if kM s l=en then -1 else (l.length:Nat)) else (fD (bO s l) r:Nat)
def jD (s:List Int) (l:List TxA) (en:List Int) (r:List (Bool×List Int)):Int:=if mR s l en r=0 then oZ s l en r else 0
theorem pA {s:List Int} {l:List TxA} {en:List Int} {r:List (Bool×List Int)} (h:mR s l en r=0):fZ s l=0∧en.length=8∧r.length=l.length∧bO s l=aT s l∧kM s l=aU s l:=by
 have h0:fZ s l=0:=aR _ h 0
 have h1:bK en=0:=aR _ h 1
 have h2:lP (bO s l).length r.length=0:=aR _ h 2
 have e1:bO s l=aT s l:=if_pos h0
 have e2:kM s l=aU s l:=if_pos h0
 refine⟨h0,?_,?_,e1,e2⟩
 ·unfold bK at h1
  by_cases c:en.length=8
  ·exact c
  ·rw[if_neg c]at h1;omega
 ·by_cases c:r.length=(bO s l).length
  ·rw[c,e1,jV]
  ·have h3:lP (bO s l).length r.length=1:=if_neg c
   omega
variable (sa la ea ra:Option Addr) (sc lc ec rc:Nat) (s:List Int) (l:List TxA) (en:List Int) (r:List (Bool×List Int))
theorem aud1_pan (p0 p1 p2 p3:Nat) (w:World) (h0:w.cell? ⟨p0,0,none⟩=some (.slice sa s.length sc)) (h1:w.cell? ⟨p1,0,none⟩=some (.slice la l.length lc)) (h2:w.cell? ⟨p2,0,none⟩=some (.slice ea en.length ec)) (h3:w.cell? ⟨p3,0,none⟩=some (.slice ra r.length rc)) (hs:IsInts w sa s) (hl:IsTxs w la l) (hE:¬mR s l en r=0) :
  Calls Tryz.prog 186 #[.pointer (some ⟨p0,0,none⟩),.pointer (some ⟨p1,0,none⟩),.pointer (some ⟨p2,0,none⟩),.pointer (some ⟨p3,0,none⟩)] w fun e w'=>e=.panicked [{v:=.iface 22 (.int .i64 (mR s l en r)),recovered:=false}]∧Below w.heap.size w w':=by
 have HE:Hid (¬aF [fZ s l,bK en,lP (bO s l).length r.length]=0):=hE
 have HV:Hid (mR s l en r=aF [fZ s l,bK en,lP (bO s l).length r.length]):=rfl
 have CS:Hid (Calls Tryz.prog 187 #[.slice sa s.length sc,.slice la l.length lc] w fun e w'=>∃ea ec xa xc,e=.returned (.tuple #[.slice ea (kM s l).length ec,.slice xa (bO s l).length xc,.int .i64 (fZ s l)])∧Below w.heap.size w w'):=(rO sa la sc lc s l w hs hl).mono (by rintro e w' ⟨ea,ec,xa,xc,rfl,_,hb⟩;exact⟨ea,ec,xa,xc,rfl,hb⟩)
 clear hs hl hE
 go_enter Tryz.func186,Tryz.ntmps186
 go_wp2_with fail
 refine CS.out.mono ?_
 rintro e w1 ⟨wa,wc,xa,xc,rfl,hb1⟩
 have B1:Hid (Below w.heap.size w w1):=hb1
 have y2:=aB hb1 h2
 have y3:=aB hb1 h3
 clear h0 h1 h2 h3 hb1 CS
 go_upto_region 2 with fail
 go_region_held (fun w'=>Below w1.heap.size w1 w'∧w'.cell? ⟨p2,0,none⟩=some (.slice ea en.length ec)∧w'.cell? ⟨p3,0,none⟩=some (.slice ra r.length rc)) ((go_split_ands;refine ext2 ?_ y2 y3;repeat (first | assumption | exact Below.refl _ _ | refine aD ?_ | refine aA ?_ _ | refine aC ?_ (by assumption))))
  (first
   | (go_at_call 78;refine(cC en ea ec _).mono ?_;rintro e w' ⟨rfl,rfl⟩)
   | (go_at_call 188;refine(oJ _ _ _ _ _ _ _).mono ?_;rintro e w' ⟨rfl,rfl⟩)
   | (go_at_call 15;refine(dM (cH [fZ s l,bK en,lP (bO s l).length r.length] _ 3 _ (by simp) HE.out ?_) (.tuple #[])).mono ?_;(exact vF _ _ _ _ _ (by simp));rintro e w' (⟨rfl,rfl⟩ | ⟨hF,rfl,rfl⟩);(refine⟨rfl,by rw[HV.out],aC B1.out ?_⟩;go_split_ands;repeat (first | assumption | exact Below.refl _ _ | refine aD ?_ | refine aA ?_ _ | refine aC ?_ (by assumption)))))
 all_goals exact(‹Hid False› : Hid False).out.elim
theorem aud1_ok (p0 p1 p2 p3:Nat) (w:World) (h0:w.cell? ⟨p0,0,none⟩=some (.slice sa s.length sc)) (h1:w.cell? ⟨p1,0,none⟩=some (.slice la l.length lc)) (h2:w.cell? ⟨p2,0,none⟩=some (.slice ea en.length ec)) (h3:w.cell? ⟨p3,0,none⟩=some (.slice ra r.length rc)) (hs:IsInts w sa s) (hl:IsTxs w la l) (he:IsInts w ea en) (hr:IsRes w ra r) (hE:mR s l en r=0) :
  Calls Tryz.prog 186 #[.pointer (some ⟨p0,0,none⟩),.pointer (some ⟨p1,0,none⟩),.pointer (some ⟨p2,0,none⟩),.pointer (some ⟨p3,0,none⟩)] w fun e w'=>e=.returned (.int .i64 (oZ s l en r))∧Below w.heap.size w w':=by
 have HE:Hid (aF [fZ s l,bK en,lP (bO s l).length r.length]=0):=hE
 obtain⟨z1,z2,z3,z4,z5⟩:=pA hE
 have hl8:l.length≤8:=fE (jI z1).2
 have hRl:(bO s l).length=l.length:=by rw[z4,jV]
 have hEl:(kM s l).length=8:=by rw[z5,fM];exact(jI z1).1
 have HF:Hid (∀q∈bO s l,q.2.length≤100):=by
  show ∀q∈bO s l,q.2.length≤100
  rw[z4]
  exact vals_few z1
 have CS:Hid (Calls Tryz.prog 187 #[.slice sa s.length sc,.slice la l.length lc] w fun e w'=>∃ea ec xa xc,e=.returned (.tuple #[.slice ea (kM s l).length ec,.slice xa (bO s l).length xc,.int .i64 (fZ s l)])∧IsInts w' ea (kM s l)∧IsRes w' xa (bO s l)∧Below w.heap.size w w'):=(rO sa la sc lc s l w hs hl).mono (by rintro e w' ⟨ea,ec,xa,xc,rfl,h,hb⟩;exact⟨ea,ec,xa,xc,rfl,h.ints,h.res,hb⟩)
 have HR:Hid (IsRes w ra r):=hr
 have HEN:Hid (IsInts w ea en):=he
 have HRL:Hid ((bO s l).length=l.length):=hRl
 have HEL:Hid ((kM s l).length=8):=hEl
 have HRN:Hid (r.length=l.length):=z3
 clear hs hl he hr hE z1 z2 z3 z4 z5 hRl hEl
 go_enter Tryz.func186,Tryz.ntmps186
 go_wp2_with fail
 refine CS.out.mono ?_
 rintro e w1 ⟨wa,wc,xa,xc,rfl,hw1,hx1,hb1⟩
 have B1:Hid (Below w.heap.size w w1):=hb1
 have HWA:Hid (IsInts w1 wa (kM s l)):=hw1
 have HXA:Hid (IsRes w1 xa (bO s l)):=hx1
 have y1:=aB hb1 h1
 have y2:=aB hb1 h2
 have y3:=aB hb1 h3
 clear h0 h1 h2 h3 hb1 CS hw1 hx1
 go_upto_region 2 with fail
 have KS:Hid (∀w',Below w1.heap.size w1 w'→w'.cell? ⟨p2,0,none⟩=some (.slice ea en.length ec)∧w'.cell? ⟨p3,0,none⟩=some (.slice ra r.length rc)):=fun w' hb=>⟨aB hb y2,aB hb y3⟩
 clear y2 y3
 refine wp_region_held_drew (S:=(fun w'=>w'.cell? ⟨p2,0,none⟩=some (.slice ea en.length ec)∧w'.cell? ⟨p3,0,none⟩=some (.slice ra r.length rc))) (by kernel_rfl) ?_ (fun hHeld=>?_)
 ·exact KS.out _ (aD (Below.refl _ _))
 refine tk 0 ?_
 refine tk 1 ?_
 refine tk 3 ?_
 refine tk 4 ?_
 refine r1 2 (fun K hK=>?_)
 go_simp
 go_wp2_with (go_at_call 78;refine(cC en ea ec _).mono ?_;rintro e w' ⟨rfl,hwe⟩;subst hwe)
 clear hHeld
 refine hK.out _ _ (KS.out _ (aD (Below.refl _ _))) (fun hHeld=>?_)
 clear hK K
 refine r1 5 (fun K hK=>?_)
 go_simp
 go_wp2_with (go_at_call 188;refine(oJ _ _ _ _ _ _ _).mono ?_;rintro e w' ⟨rfl,hwe⟩;subst hwe)
 clear hHeld
 refine hK.out _ _ (KS.out _ (aD (Below.refl _ _))) (fun hHeld=>?_)
 clear hK K
 refine r1 6 (fun K hK=>?_)
 go_simp
 skip
 clear hHeld
 refine hK.out _ _ (KS.out _ (aD (aA (Below.refl _ _) _))) (fun hHeld=>?_)
 clear hK K
 refine r1 7 (fun K hK=>?_)
 go_simp
 go_wp2_with (go_at_call 15;refine(aO [fZ s l,bK en,lP (bO s l).length r.length] _ 3 _ (by simp) HE.out (fun k hk=>aB (aD (Below.refl _ _)) (vF w1 _ _ _ _ rfl k hk))).mono ?_;rintro e w3 ⟨rfl,hwe⟩;subst hwe)
 clear hHeld
 refine hK.out _ _ (KS.out _ (aD (aA (Below.refl _ _) _))) (fun hHeld=>?_)
 clear hK K
 refine wpAnyH_done (by kernel_rfl) ?_ _
 obtain⟨y2,y3⟩:=KS.out (w1.alloc (.cells #[.int .i64 (fZ s l),.int .i64 (bK en),.int .i64 (lP (bO s l).length r.length)] 22)).drew (aD (aA (Below.refl _ _) _))
 have BV:Hid (Below w1.heap.size w1 (w1.alloc (.cells #[.int .i64 (fZ s l),.int .i64 (bK en),.int .i64 (lP (bO s l).length r.length)] 22)).drew):=(aD (aA (Below.refl _ _) _))
 have y1:=aB BV.out y1
 clear hHeld KS
 generalize (w1.alloc (.cells #[.int .i64 (fZ s l),.int .i64 (bK en),.int .i64 (lP (bO s l).length r.length)] 22)).drew=V at *
 have KV:Hid (∀w',Below V.heap.size V w'→w'.cell? ⟨p1,0,none⟩=some (.slice la l.length lc)∧w'.cell? ⟨p2,0,none⟩=some (.slice ea en.length ec)∧w'.cell? ⟨p3,0,none⟩=some (.slice ra r.length rc)):=fun w' hb=>⟨aB hb y1,aB hb y2,aB hb y3⟩
 have B1:Hid (Below w.heap.size w V):=aC B1.out BV.out
 have HWA:Hid (IsInts V wa (kM s l)):=HWA.out.below BV.out
 have HXA:Hid (IsRes V xa (bO s l)):=HXA.out.below BV.out
 clear y1 y2 y3 BV
 go_wp2
 go_loopw [26] (fun i wr=>∃k:Nat,k≤(bO s l).length∧i=.int .i64 k∧Hid (∀j,j<k→(bO s l).getD j (false,[])=r.getD j (false,[]))∧Hid (Below V.heap.size V wr)) (fun i _=>(bO s l).length - (intOf i).toNat)
 case atStart=>exact⟨0,Nat.zero_le _,rfl,fun j hj=>absurd hj (Nat.not_lt_zero _),Below.refl _ _⟩
 case round=>
  obtain⟨k,hk,rfl,hsm,hB⟩:=hrel
  obtain⟨y1,y2,y3⟩:=KV.out wr hB.out
  have hk8:k≤8:=by have:=HRL.out;omega
  by_cases hk2:k<(bO s l).length
  ·have hk3:k<r.length:=by have:=HRL.out;have:=HRN.out;omega
   obtain⟨b,off,va,vc,ea1,_,c0,c1,hx⟩:=HXA.out k hk2
   obtain⟨b',off',va',vc',ea2,_,d0,d1,hy⟩:=HR.out k hk3
   subst ea1 ea2
   have hxl:((bO s l).getD k (false,[])).2.length≤maxLen:=by
    have h:=HF.out _ (show (bO s l).getD k (false,[])∈bO s l by simp[List.getD,hk2])
    unfold maxLen
    omega
   have c0:=aB hB.out c0
   have c1:=aB hB.out c1
   have d0:=aB (aC B1.out hB.out) d0
   have d1:=aB (aC B1.out hB.out) d1
   have hX0:=hx.below hB.out
   have hY0:=hy.below (aC B1.out hB.out)
   obtain⟨⟨d,xs⟩,hD⟩:∃z,(bO s l).getD k (false,[])=z:=⟨_,rfl⟩
   obtain⟨⟨d',ys⟩,hD2⟩:∃z,r.getD k (false,[])=z:=⟨_,rfl⟩
   rw[hD]at c0 c1 hxl hX0
   rw[hD2]at d0 d1 hY0
   simp only at c0 c1 d0 d1 hxl hX0 hY0
   have HD:Hid ((bO s l).getD k (false,[])=(d,xs)):=hD
   have HD2:Hid (r.getD k (false,[])=(d',ys)):=hD2
   have hX:Hid (IsInts wr va xs):=hX0
   have hY:Hid (IsInts wr va' ys):=hY0
   have i1:(k:Int)<((bO s l).length:Int):=by omega
   have i2:(k:Int)<(r.length:Int):=by omega
   obtain⟨q0,HQ0⟩:∃q0:Bool,Hid (decide (((d,xs):Bool×List Int)=(d',ys))=q0):=⟨_,rfl⟩
   have CX:Hid (∀w',Below wr.heap.size wr w'→Calls Tryz.prog 189 #[.agg #[.bool d,.slice va xs.length vc],.agg #[.bool d',.slice va' ys.length vc']] w' fun e w''=>e=.returned (.bool q0)∧Below w'.heap.size w' w''):=fun w' hb=>by
    have h:=same_any d d' xs ys va va' vc vc' w' hxl (hX.out.below hb) (hY.out.below hb)
    rw[HQ0.out]at h
    exact h
   clear hx hy hD hD2 hX0 hY0 y1 y2 hX hY
   go_upto_region 6 with fail
   have KS:Hid (∀w',Below wr.heap.size wr w'→w'.cell? ⟨b,off+k*2,none⟩=some (.bool d)∧w'.cell? ⟨b,off+k*2+1,none⟩=some (.slice va xs.length vc)∧w'.cell? ⟨p3,0,none⟩=some (.slice (some ⟨b',off',none⟩) r.length rc)∧w'.cell? ⟨b',off'+k*2,none⟩=some (.bool d')∧w'.cell? ⟨b',off'+k*2+1,none⟩=some (.slice va' ys.length vc')):=fun w' hb=>⟨aB hb c0,aB hb c1,aB hb y3,aB hb d0,aB hb d1⟩
   clear c0 c1 d0 d1 y3
   refine wp_region_held_drew (S:=(fun w'=>w'.cell? ⟨b,off+k*2,none⟩=some (.bool d)∧w'.cell? ⟨b,off+k*2+1,none⟩=some (.slice va xs.length vc)∧w'.cell? ⟨p3,0,none⟩=some (.slice (some ⟨b',off',none⟩) r.length rc)∧w'.cell? ⟨b',off'+k*2,none⟩=some (.bool d')∧w'.cell? ⟨b',off'+k*2+1,none⟩=some (.slice va' ys.length vc'))) (by kernel_rfl) ?_ (fun hHeld=>?_)
   ·exact KS.out _ (aD (Below.refl _ _))
   refine tk 0 ?_
   refine tk 1 ?_
   refine tk 2 ?_
   refine tk 3 ?_
   refine tk 4 ?_
   refine tk 5 ?_
   refine tk 6 ?_
   refine tk 7 ?_
   refine r1 8 (fun K hK=>?_)
   go_simp
   go_wp2_with (go_at_call 189;refine(CX.out _ (aD (Below.refl _ _))).mono ?_;rintro e w4 ⟨rfl,hb4⟩)
   have B4:Hid (Below wr.heap.size wr w4):=aC (aD (Below.refl _ _)) hb4
   clear hHeld
   refine hK.out _ _ (KS.out _ B4.out) (fun hHeld=>?_)
   clear hK K
   refine tk 9 ?_
   refine wpAnyH_done (by kernel_rfl) ?_ _
   clear hHeld KS
   by_cases hxy:((d,xs):Bool×List Int)=(d',ys)
   ·have H1:Hid (∀j,j<k+1→(bO s l).getD j (false,[])=r.getD j (false,[])):=fun j hj=>by
     by_cases e:j=k
     ·rw[e,HD.out,HD2.out];exact hxy
     ·exact hsm.out j (by omega)
    have e0:q0=true:=by rw[←HQ0.out];exact decide_eq_true hxy
    subst e0
    clear hxy
    go_wp2
    go_roundw
    case rel=>exact⟨k+1,by omega,by go_num,H1,aC hB.out B4.out⟩
    case measure=>simp[intOf];omega
   ·have H1:Hid (oZ s l en r=(k:Nat)):=by
     obtain⟨f1,f2⟩:=fD_at (bO s l) r k hk2 (by omega) hsm.out (by rw[HD.out,HD2.out];exact hxy)
     show _=_
     unfold oZ
     rw[if_neg f2,f1]
    have e0:q0=false:=by rw[←HQ0.out];exact decide_eq_false hxy
    subst e0
    clear hxy
    go_wp2
    go_ret
    exact⟨by rw[H1.out];rfl,aC B1.out (aC hB.out B4.out)⟩
  ·have hkk:k=(bO s l).length:=by omega
   have hAll:Hid (bO s l=r):=tB _ _ (by rw[HRL.out,HRN.out]) (fun j hj=>hsm.out j (by omega))
   have i1:¬(k:Int)<((bO s l).length:Int):=by omega
   have hEm:(kM s l).length≤maxLen:=by rw[HEL.out];unfold maxLen;omega
   clear hkk hk2 hsm y3
   go_wp2_with fail
   refine(lX (kM s l) en wa ea wc ec _ hEm (HWA.out.below hB.out) (HEN.out.below (aC B1.out hB.out))).mono ?_
   rintro e w5 ⟨rfl,hb5⟩
   have y1:=aB hb5 y1
   have B5:Hid (Below w.heap.size w w5):=aC B1.out (aC hB.out hb5)
   by_cases hq:kM s l=en
   ·have H1:Hid (oZ s l en r = -1):=by show _=_;unfold oZ;rw[if_pos hAll.out,if_pos hq]
    rw[decide_eq_true hq]
    clear hq hb5
    go_wp2
    go_ret
    exact⟨by rw[H1.out];rfl,B5.out⟩
   ·have H1:Hid (oZ s l en r=(l.length:Nat)):=by show _=_;unfold oZ;rw[if_pos hAll.out,if_neg hq]
    rw[decide_eq_false hq]
    clear hq hb5
    go_wp2
    go_ret
    exact⟨by rw[H1.out];rfl,B5.out⟩
theorem audit_any (w:World) (hs:IsInts w sa s) (hl:IsTxs w la l) (he:IsInts w ea en) (hr:IsRes w ra r) :
  Calls Tryz.prog 156 #[.slice sa s.length sc,.slice la l.length lc,.slice ea en.length ec,.slice ra r.length rc] w fun e w'=>e=.returned (.tuple #[.int .i64 (jD s l en r),.int .i64 (mR s l en r)])∧Below w.heap.size w w':=by
 have hmf:∀(fn:Fn) (first cap:Array Value) (w:World),(Instr.makeFunc fn first cap).run Tryz.prog w=.ok (.func fn first cap) w:=fun _ _ _ _=>rfl
 obtain⟨W,hWe⟩:∃W:World,W=((((w.alloc (.cells #[.slice sa s.length sc] 41)).alloc (.cells #[.slice la l.length lc] 27)).alloc (.cells #[.slice ea en.length ec] 41)).alloc (.cells #[.slice ra r.length rc] 115)):=⟨_,rfl⟩
 have hU:Hid (Below w.heap.size w W):=by subst hWe;exact(aA (aA (aA (aA (Below.refl _ _) _) _) _) _)
 have h0:W.cell? ⟨w.heap.size,0,none⟩=some (.slice sa s.length sc):=by subst hWe;exact aB (aA (aA (aA (Below.refl _ _) _) _) _) (aG _ _ 41 _ 0 _ (by first | rfl | simp) rfl)
 have h1:W.cell? ⟨w.heap.size+1,0,none⟩=some (.slice la l.length lc):=by subst hWe;exact aB (aA (aA (Below.refl _ _) _) _) (aG _ _ 27 _ 0 _ (by first | rfl | simp) rfl)
 have h2:W.cell? ⟨w.heap.size+2,0,none⟩=some (.slice ea en.length ec):=by subst hWe;exact aB (aA (Below.refl _ _) _) (aG _ _ 41 _ 0 _ (by first | rfl | simp) rfl)
 have h3:W.cell? ⟨w.heap.size+3,0,none⟩=some (.slice ra r.length rc):=by subst hWe;exact aB (Below.refl _ _) (aG _ _ 115 _ 0 _ (by first | rfl | simp) rfl)
 have CC:Hid (Calls Tryz.prog 185 #[.func (.func 186) #[] #[.pointer (some ⟨w.heap.size,0,none⟩),.pointer (some ⟨w.heap.size+1,0,none⟩),.pointer (some ⟨w.heap.size+2,0,none⟩),.pointer (some ⟨w.heap.size+3,0,none⟩)]] W fun e w'=>e=.returned (.tuple #[.int .i64 (jD s l en r),.int .i64 (mR s l en r)])∧Below W.heap.size W w'):=by
  have g:Below W.heap.size W (W.alloc (.cells #[.int .i64 0] 22)):=aA (Below.refl _ _) _
  have gg:=aC hU.out g
  have h0:=aB g h0
  have h1:=aB g h1
  have h2:=aB g h2
  have h3:=aB g h3
  by_cases hE:mR s l en r=0
  ·have e1:jD s l en r=oZ s l en r:=if_pos hE
   rw[e1,hE]
   refine(yF 186 _ (fun _=>rfl) (fun v _=>v=.int .i64 (oZ s l en r)) W (fun _ _ h=>h) ((aud1_ok sa la ea ra sc lc ec rc s l en r _ _ _ _ _ h0 h1 h2 h3 (hs.below gg) (hl.below gg) (he.below gg) (hr.below gg) hE).mono ?_)).mono ?_
   ·rintro e w' ⟨rfl,hb⟩
    exact⟨_,rfl,rfl,by simpa using hb⟩
   ·rintro e w' ⟨v,rfl,rfl,hb⟩
    exact⟨rfl,hb⟩
  ·have e1:jD s l en r=0:=if_neg hE
   rw[e1]
   refine(yG 186 _ (fun _=>rfl) (mR s l en r) W ((aud1_pan sa la ea ra sc lc ec rc s l en r _ _ _ _ _ h0 h1 h2 h3 (hs.below gg) (hl.below gg) hE).mono ?_)).mono ?_
   ·rintro e w' ⟨rfl,hb⟩
    exact⟨rfl,by simpa using hb⟩
   ·rintro e w' ⟨rfl,hb⟩
    exact⟨rfl,hb⟩
 have HWe:Hid (W=_):=hWe
 clear h0 h1 h2 h3 hs hl he hr hWe
 go_enter Tryz.func156,Tryz.ntmps156
 go_upto_region 1 with fail
 rw[←HWe.out]
 clear HWe
 go_wp2_with fail
 refine CC.out.mono ?_
 rintro e w1 ⟨rfl,hb⟩
 have B1:Hid (Below w.heap.size w w1):=aC hU.out hb
 clear hb CC
 go_wp2
 go_ret2
 exact⟨rfl,B1.out⟩
end
end Go.Proofs.YtcgpkonfneofdaaGreatDoor
