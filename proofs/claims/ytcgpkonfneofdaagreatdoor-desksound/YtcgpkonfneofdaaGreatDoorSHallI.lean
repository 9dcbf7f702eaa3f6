/- Conditions: those that each theorem states. -/
import Derived.Test.YtcgpkonfneofdaaGreatDoorSHallC
set_option maxRecDepth 100000
set_option maxHeartbeats 8000000
namespace Go.Proofs.YtcgpkonfneofdaaGreatDoor
open Go.RowKit
section
variable {w:World} {h sh:Nat} {l:List TxA} {S:SA} {A:HA}
theorem clash_any (H:Hall w h sh l S A) {m n k:Nat} (hm:m<l.length) (hn:n<l.length) (hk:k<sh) :
  Calls Tryz.prog 283 #[.pointer (some ⟨h,0,none⟩),.int .i64 m,.int .i64 n,.int .i64 k] w fun e w'=>e=.returned (.bool (yT sh (gX l m) (gX l n) k))∧Below w.heap.size w w':=by
 have e1:=aA (aA (aA (Below.refl w.heap.size w) (.cells #[.pointer (some ⟨h,0,none⟩)] 218)) (.cells #[.int .i64 n] 3)) (.cells #[.int .i64 k] 3)
 have c0:(((w.alloc (.cells #[.pointer (some ⟨h,0,none⟩)] 218)).alloc (.cells #[.int .i64 n] 3)).alloc (.cells #[.int .i64 k] 3)).cell? ⟨w.heap.size,0,none⟩=some (.pointer (some ⟨h,0,none⟩)):=aB (aA (Below.refl _ _) _) (aB (aA (Below.refl _ _) _) (aG w _ 218 _ 0 _ rfl rfl))
 have c1:(((w.alloc (.cells #[.pointer (some ⟨h,0,none⟩)] 218)).alloc (.cells #[.int .i64 n] 3)).alloc (.cells #[.int .i64 k] 3)).cell? ⟨w.heap.size+1,0,none⟩=some (.int .i64 n):=aB (aA (Below.refl _ _) _) (aG _ _ 3 _ 0 _ (by simp) rfl)
 have c2:(((w.alloc (.cells #[.pointer (some ⟨h,0,none⟩)] 218)).alloc (.cells #[.int .i64 n] 3)).alloc (.cells #[.int .i64 k] 3)).cell? ⟨w.heap.size+2,0,none⟩=some (.int .i64 k):=aG _ _ 3 _ 0 _ (by simp) rfl
 have HH:=H.below e1
 obtain⟨b,off,a',c',ea,_,y1,hlk,_⟩:=HH.lk m hm
 have x7:(((w.alloc (.cells #[.pointer (some ⟨h,0,none⟩)] 218)).alloc (.cells #[.int .i64 n] 3)).alloc (.cells #[.int .i64 k] 3)).cell? ⟨h,7,none⟩=some (.slice (some ⟨b,off,none⟩) l.length A.kc):=by rw[←ea];exact HH.h7
 have CC:Hid (Calls Tryz.prog 285 #[.slice a' (jM (gX l m)).length c',.func (.func 286) #[] #[.pointer (some ⟨w.heap.size,0,none⟩),.pointer (some ⟨w.heap.size+2,0,none⟩),.pointer (some ⟨w.heap.size+1,0,none⟩)]] (((w.alloc (.cells #[.pointer (some ⟨h,0,none⟩)] 218)).alloc (.cells #[.int .i64 n] 3)).alloc (.cells #[.int .i64 k] 3)) fun e w'=>e=.returned (.bool (yT sh (gX l m) (gX l n) k))∧Below (((w.alloc (.cells #[.pointer (some ⟨h,0,none⟩)] 218)).alloc (.cells #[.int .i64 n] 3)).alloc (.cells #[.int .i64 k] 3)).heap.size (((w.alloc (.cells #[.pointer (some ⟨h,0,none⟩)] 218)).alloc (.cells #[.int .i64 n] 3)).alloc (.cells #[.int .i64 k] 3)) w'):=by
  have hh:=pX (jM (gX l m)) a' c' 286 #[.pointer (some ⟨w.heap.size,0,none⟩),.pointer (some ⟨w.heap.size+2,0,none⟩),.pointer (some ⟨w.heap.size+1,0,none⟩)] (fun p=>p.1.toNat%sh==k && (jM (gX l n)).any fun q=>p.1==q.1 && (p.2 || q.2)) _ hlk (by have:=lk_len (gX l m);omega) (fun _ _=>rfl) (fun z t hz w' hb=>by
   obtain⟨c,hc,rfl⟩:=lk_mem hz
   have:=cl161 (HH.below hb) hn hk c hc t w.heap.size (w.heap.size+2) (w.heap.size+1) (aB hb c0) (aB hb c2) (aB hb c1)
   exact this)
  rw[←lkClash_eq]
  exact hh
 have E1:Hid (Below w.heap.size w (((w.alloc (.cells #[.pointer (some ⟨h,0,none⟩)] 218)).alloc (.cells #[.int .i64 n] 3)).alloc (.cells #[.int .i64 k] 3))):=e1
 have i1:(0:Int)≤(m:Int):=by omega
 have i2:(m:Int)<(l.length:Int):=by omega
 generalize yT sh (gX l m) (gX l n) k=R at *
 generalize (jM (gX l m)).length=len at *
 clear HH H hlk e1 c1 c2 ea
 go_enter Tryz.func283,Tryz.ntmps283
 go_wp2_with fail
 refine CC.out.mono ?_
 clear CC
 rintro e w1 ⟨rfl,hb⟩
 have B1:Hid (Below w.heap.size w w1):=aC E1.out hb
 clear hb E1 c0 x7 y1
 go_wp2
 go_ret
 exact⟨rfl,B1.out⟩
theorem blocked_any (H:Hall w h sh l S A) {n k:Nat} (hn:n<l.length) (hk:k<sh) :
  Calls Tryz.prog 272 #[.pointer (some ⟨h,0,none⟩),.int .i64 n,.int .i64 k] w fun e w'=>e=.returned (.bool (lB sh l S n k))∧Below w.heap.size w w':=by
 have HH:Hid (Hall w h sh l S A):=H
 have HS:Hid (∀m,qB sh l S n k (m+1)=(qB sh l S n k m || (!aW sh l S m k && yT sh (gX l m) (gX l n) k))):=fun m=>any_to _ m
 have HD:Hid (∀m,m<n→(!aW sh l S m k && yT sh (gX l m) (gX l n) k)=true→lB sh l S n k=true):=fun m hm e=>any_stop hm e
 have HF:Hid (lB sh l S n k=qB sh l S n k n):=rfl
 have H0:Hid (qB sh l S n k 0=false):=rfl
 have hl8:=H.l8
 clear H
 generalize lB sh l S n k=R at *
 generalize hbt:qB sh l S n k=bt at *
 clear hbt
 go_enter Tryz.func272,Tryz.ntmps272
 go_wp2
 go_loopw [7,9] (fun _ i wr=>∃m:Nat,m≤n∧i=.int .i64 m∧Hid (bt m=false)∧Hid (Below w.heap.size w wr)) (fun _ i _=>n - (intOf i).toNat)
 case atStart=>exact⟨0,Nat.zero_le _,rfl,H0,Below.refl _ _⟩
 case round=>
  obtain⟨m,hm,rfl,hC,hB⟩:=hrel
  by_cases hlt:m<n
  ·have hml:m<l.length:=by omega
   have HT:Hid (bt (m+1)=(!aW sh l S m k && yT sh (gX l m) (gX l n) k)):=by show _=_;rw[HS.out,hC.out];rfl
   have HDm:Hid ((!aW sh l S m k && yT sh (gX l m) (gX l n) k)=true→R=true):=HD.out m hlt
   have CG:Hid (Calls Tryz.prog 211 #[.pointer (some ⟨h,0,none⟩),.int .i64 m,.int .i64 k] wr fun e w'=>e=.returned (.bool (aW sh l S m k))∧w'=wr):=gone_any (HH.out.below hB.out) hml hk
   have CC:Hid (Calls Tryz.prog 283 #[.pointer (some ⟨h,0,none⟩),.int .i64 m,.int .i64 n,.int .i64 k] wr fun e w'=>e=.returned (.bool (yT sh (gX l m) (gX l n) k))∧Below wr.heap.size wr w'):=clash_any (HH.out.below hB.out) hml hn hk
   generalize aW sh l S m k=g at *
   generalize yT sh (gX l m) (gX l n) k=c at *
   clear HS HD HF hC HH
   have i1:(m:Int)<(n:Int):=by omega
   cases g
   ·go_wp2_with fail
    refine CG.out.mono ?_
    rintro e w1 ⟨rfl,hw1⟩
    subst hw1
    clear CG
    go_wp2_with fail
    refine CC.out.mono ?_
    rintro e w1 ⟨rfl,hb1⟩
    have B1:Hid (Below w.heap.size w w1):=aC hB.out hb1
    clear CC hb1 hB
    cases c
    ·go_wp2
     go_roundw
     case rel=>exact⟨m+1,by omega,by go_num,HT.out,B1⟩
     case measure=>simp[intOf];omega
    ·have HR:Hid (R=true):=HDm.out rfl
     clear HDm HT
     go_wp2
     go_ret
     exact⟨by rw[HR.out];rfl,B1.out⟩
   ·go_wp2_with fail
    refine CG.out.mono ?_
    rintro e w1 ⟨rfl,hw1⟩
    subst hw1
    clear CG CC
    go_wp2
    go_roundw
    case rel=>exact⟨m+1,by omega,by go_num,HT.out,hB⟩
    case measure=>simp[intOf];omega
  ·have hmm:m=n:=by omega
   have HR:Hid (R=false):=by
    have:=hC.out
    rw[hmm]at this
    exact HF.out.trans this
   have i1:¬(m:Int)<(n:Int):=by omega
   clear HS HD HF hC HH
   go_wp2
   go_ret
   exact⟨by rw[HR.out];rfl,hB.out⟩
end
section
variable {w:World} {h sh:Nat} {l:List TxA} {S:SA} {A:HA}
theorem cI {a w:World} (hb:Below a.heap.size a w) (n:Nat):Below a.heap.size a (w.drewN n):=⟨hb.os,hb.tape,hb.output,hb.size,hb.block⟩
theorem belongs_out (H:Hall w h sh l S A) (kd n k:Int) (ho:n<0∨(l.length:Int)≤n∨k<0∨(sh:Int)≤k) :
  Calls Tryz.prog 237 #[.pointer (some ⟨h,0,none⟩),.agg #[.int .i64 kd,.int .i64 n,.int .i64 k]] w fun e w'=>e=.returned (.bool false)∧Below w.heap.size w w':=by
 have e1:Hid (Below w.heap.size w (w.alloc (.cells #[.int .i64 kd,.int .i64 n,.int .i64 k] 33))):=aA (Below.refl _ _) _
 have c1:(w.alloc (.cells #[.int .i64 kd,.int .i64 n,.int .i64 k] 33)).cell? ⟨w.heap.size,1,none⟩=some (.int .i64 n):=by simp
 have c2:(w.alloc (.cells #[.int .i64 kd,.int .i64 n,.int .i64 k] 33)).cell? ⟨w.heap.size,2,none⟩=some (.int .i64 k):=by simp
 have x0:=aB e1.out H.h0
 have p0:=aB e1.out H.p0
 have p1:=aB e1.out H.p1
 have HO:Hid (n<0∨(l.length:Int)≤n∨k<0∨(sh:Int)≤k):=ho
 clear H ho
 go_enter Tryz.func237,Tryz.ntmps237
 go_upto_region 1 with fail
 generalize (w.alloc (.cells #[.int .i64 kd,.int .i64 n,.int .i64 k] 33))=W at *
 have FIN:∀q,Hid (Below w.heap.size w (W.drewN q)):=fun q=>cI e1.out q
 by_cases h1:n<0
 ·go_quiet (fail)
  go_wp2
  go_ret
  exact⟨rfl,(FIN _).out⟩
 ·have d1:decide (n<0)=false:=decide_eq_false h1
  by_cases h2:(l.length:Int)≤n
  ·go_quiet (fail)
   go_wp2
   go_ret
   exact⟨rfl,(FIN _).out⟩
  ·have d2:decide ((l.length:Int)≤n)=false:=decide_eq_false h2
   by_cases h3:k<0
   ·go_quiet (fail)
    go_wp2
    go_ret
    exact⟨rfl,(FIN _).out⟩
   ·have d3:decide (k<0)=false:=decide_eq_false h3
    have h4:(sh:Int)≤k:=by have:=HO.out;omega
    go_quiet (fail)
    go_wp2
    go_ret
    exact⟨rfl,(FIN _).out⟩
theorem belongs_in (H:Hall w h sh l S A) (kd:Nat) (hkd:kd=1∨kd=2) {n k:Nat} (hn:n<l.length) (hk:k<sh) :
  Calls Tryz.prog 237 #[.pointer (some ⟨h,0,none⟩),.agg #[.int .i64 kd,.int .i64 n,.int .i64 k]] w fun e w'=>e=.returned (.bool (lN sh l kd n k))∧Below w.heap.size w w':=by
 have e1:Hid (Below w.heap.size w (w.alloc (.cells #[.int .i64 kd,.int .i64 n,.int .i64 k] 33))):=aA (Below.refl _ _) _
 have c0:(w.alloc (.cells #[.int .i64 kd,.int .i64 n,.int .i64 k] 33)).cell? ⟨w.heap.size,0,none⟩=some (.int .i64 kd):=by simp
 have c1:(w.alloc (.cells #[.int .i64 kd,.int .i64 n,.int .i64 k] 33)).cell? ⟨w.heap.size,1,none⟩=some (.int .i64 n):=by simp
 have c2:(w.alloc (.cells #[.int .i64 kd,.int .i64 n,.int .i64 k] 33)).cell? ⟨w.heap.size,2,none⟩=some (.int .i64 k):=by simp
 have HH:=H.below e1.out
 obtain⟨b1,o1,b1',o1',k1,x1,y1,z1⟩:=qA HH.h5 HH.pt hn hk
 obtain⟨b2,o2,b2',o2',k2,x2,y2,z2⟩:=qA HH.h6 HH.ac hn hk
 have x0:=HH.h0
 have p0:=HH.p0
 have p1:=HH.p1
 have HV1:Hid (lN sh l 1 n k=jS sh (gX l n) k):=rfl
 have HV2:Hid (lN sh l 2 n k=oL sh (gX l n) k):=rfl
 have hl8:=H.l8
 have hs4:=H.s4
 clear H HH
 generalize jS sh (gX l n) k=P at *
 generalize oL sh (gX l n) k=Q at *
 have d1:decide ((n:Int)<0)=false:=decide_eq_false (by omega)
 have d2:decide ((l.length:Int)≤(n:Int))=false:=decide_eq_false (by omega)
 have d3:decide ((k:Int)<0)=false:=decide_eq_false (by omega)
 have d4:decide ((sh:Int)≤(k:Int))=false:=decide_eq_false (by omega)
 have i1:(0:Int)≤(n:Int):=by omega
 have i2:(n:Int)<(l.length:Int):=by omega
 have i3:(0:Int)≤(k:Int):=by omega
 have i4:(k:Int)<(sh:Int):=by omega
 rcases hkd with rfl | rfl
 ·go_enter Tryz.func237,Tryz.ntmps237
  go_upto_region 1 with fail
  generalize (w.alloc (.cells #[.int .i64 ((1:Nat):Int),.int .i64 n,.int .i64 k] 33))=W at *
  have FIN:∀q r,Hid (Below w.heap.size w ((W.drewN q).drewN r)):=fun q r=>cI (cI e1.out q) r
  go_quiet (fail)
  go_upto_region 4 with fail
  go_quiet (fail)
  go_wp2
  go_ret
  exact⟨by rw[HV1.out];rfl,(FIN _ _).out⟩
 ·go_enter Tryz.func237,Tryz.ntmps237
  go_upto_region 1 with fail
  generalize (w.alloc (.cells #[.int .i64 ((2:Nat):Int),.int .i64 n,.int .i64 k] 33))=W at *
  have FIN:∀q r,Hid (Below w.heap.size w ((W.drewN q).drewN r)):=fun q r=>cI (cI e1.out q) r
  go_quiet (fail)
  go_upto_region 5 with fail
  go_quiet (fail)
  go_wp2
  go_ret
  exact⟨by rw[HV2.out];rfl,(FIN _ _).out⟩
theorem done_any (H:Hall w h sh l S A) (kd:Nat) (hkd:kd=1∨kd=2) {n k:Nat} (hn:n<l.length) (hk:k<sh) :
  Calls Tryz.prog 238 #[.pointer (some ⟨h,0,none⟩),.agg #[.int .i64 kd,.int .i64 n,.int .i64 k]] w fun e w'=>e=.returned (.bool (jP S kd n k))∧Below w.heap.size w w':=by
 have e1:Hid (Below w.heap.size w (w.alloc (.cells #[.int .i64 kd,.int .i64 n,.int .i64 k] 33))):=aA (Below.refl _ _) _
 have c0:(w.alloc (.cells #[.int .i64 kd,.int .i64 n,.int .i64 k] 33)).cell? ⟨w.heap.size,0,none⟩=some (.int .i64 kd):=by simp
 have c1:(w.alloc (.cells #[.int .i64 kd,.int .i64 n,.int .i64 k] 33)).cell? ⟨w.heap.size,1,none⟩=some (.int .i64 n):=by simp
 have c2:(w.alloc (.cells #[.int .i64 kd,.int .i64 n,.int .i64 k] 33)).cell? ⟨w.heap.size,2,none⟩=some (.int .i64 k):=by simp
 have HH:=H.below e1.out
 obtain⟨b1,o1,b1',o1',k1,x1,y1,z1⟩:=qA HH.h2 HH.rd hn hk
 obtain⟨b2,o2,b2',o2',k2,x2,y2,z2⟩:=qA HH.h3 HH.wr hn hk
 have HV1:Hid (jP S 1 n k=cM S.rd n k):=rfl
 have HV2:Hid (jP S 2 n k=cM S.wr n k):=rfl
 have hl8:=H.l8
 have hs4:=H.s4
 clear H HH
 generalize cM S.rd n k=P at *
 generalize cM S.wr n k=Q at *
 have i1:(0:Int)≤(n:Int):=by omega
 have i2:(n:Int)<(l.length:Int):=by omega
 have i3:(0:Int)≤(k:Int):=by omega
 have i4:(k:Int)<(sh:Int):=by omega
 rcases hkd with rfl | rfl
 ·go_enter Tryz.func238,Tryz.ntmps238
  go_upto_region 2 with fail
  generalize (w.alloc (.cells #[.int .i64 ((1:Nat):Int),.int .i64 n,.int .i64 k] 33))=W at *
  have FIN:∀q,Hid (Below w.heap.size w (W.drewN q)):=fun q=>cI e1.out q
  go_quiet (fail)
  go_wp2
  go_ret
  exact⟨by rw[HV1.out];rfl,(FIN _).out⟩
 ·go_enter Tryz.func238,Tryz.ntmps238
  go_upto_region 3 with fail
  generalize (w.alloc (.cells #[.int .i64 ((2:Nat):Int),.int .i64 n,.int .i64 k] 33))=W at *
  have FIN:∀q,Hid (Below w.heap.size w (W.drewN q)):=fun q=>cI e1.out q
  go_quiet (fail)
  go_wp2
  go_ret
  exact⟨by rw[HV2.out];rfl,(FIN _).out⟩
theorem may_any (H:Hall w h sh l S A) (kd:Nat) (hkd:kd=1∨kd=2) {n k:Nat} (hn:n<l.length) (hk:k<sh) :
  Calls Tryz.prog 239 #[.pointer (some ⟨h,0,none⟩),.agg #[.int .i64 kd,.int .i64 n,.int .i64 k]] w fun e w'=>e=.returned (.bool (dU sh l S kd n k))∧Below w.heap.size w w':=by
 have e1:Hid (Below w.heap.size w (w.alloc (.cells #[.int .i64 kd,.int .i64 n,.int .i64 k] 33))):=aA (Below.refl _ _) _
 have c0:(w.alloc (.cells #[.int .i64 kd,.int .i64 n,.int .i64 k] 33)).cell? ⟨w.heap.size,0,none⟩=some (.int .i64 kd):=by simp
 have c1:(w.alloc (.cells #[.int .i64 kd,.int .i64 n,.int .i64 k] 33)).cell? ⟨w.heap.size,1,none⟩=some (.int .i64 n):=by simp
 have c2:(w.alloc (.cells #[.int .i64 kd,.int .i64 n,.int .i64 k] 33)).cell? ⟨w.heap.size,2,none⟩=some (.int .i64 k):=by simp
 have CB:Hid (Calls Tryz.prog 272 #[.pointer (some ⟨h,0,none⟩),.int .i64 n,.int .i64 k] (w.alloc (.cells #[.int .i64 kd,.int .i64 n,.int .i64 k] 33)) fun e w'=>e=.returned (.bool (lB sh l S n k))∧Below (w.alloc (.cells #[.int .i64 kd,.int .i64 n,.int .i64 k] 33)).heap.size (w.alloc (.cells #[.int .i64 kd,.int .i64 n,.int .i64 k] 33)) w'):=blocked_any (H.below e1.out) hn hk
 have CR:Hid (Calls Tryz.prog 271 #[.pointer (some ⟨h,0,none⟩),.int .i64 n] (w.alloc (.cells #[.int .i64 kd,.int .i64 n,.int .i64 k] 33)) fun e w'=>e=.returned (.bool (dE sh l S n))∧w'=(w.alloc (.cells #[.int .i64 kd,.int .i64 n,.int .i64 k] 33))):=pK (H.below e1.out) hn
 have HV1:Hid (dU sh l S 1 n k = !lB sh l S n k):=rfl
 have HV2:Hid (dU sh l S 2 n k=dE sh l S n):=rfl
 clear H
 generalize lB sh l S n k=P at *
 generalize dE sh l S n=Q at *
 rcases hkd with rfl | rfl
 ·go_enter Tryz.func239,Tryz.ntmps239
  go_wp2_with fail
  refine CB.out.mono ?_
  rintro e w1 ⟨rfl,hb⟩
  have B1:Hid (Below w.heap.size w w1):=aC e1.out hb
  clear hb CB CR c0 c1 c2
  go_wp2
  go_ret
  exact⟨by rw[HV1.out];rfl,B1.out⟩
 ·go_enter Tryz.func239,Tryz.ntmps239
  go_wp2_with fail
  refine CR.out.mono ?_
  rintro e w1 ⟨rfl,hw1⟩
  have B1:Hid (Below w.heap.size w w1):=by rw[hw1];exact e1.out
  clear hw1 CB CR c0 c1 c2
  go_wp2
  go_ret
  exact⟨by rw[HV2.out];rfl,B1.out⟩
end
section
structure Hall0 (w:World) (h p sh:Nat) (l:List TxA) (S:SA) (la sa ra wa va:Option Addr) (lc sc rc wc vc:Nat):Prop where
 h0:w.cell? ⟨h,0,none⟩=some (.pointer (some ⟨p,0,none⟩))
 h1:w.cell? ⟨h,1,none⟩=some (.slice sa S.st.length sc)
 h2:w.cell? ⟨h,2,none⟩=some (.slice ra S.rd.length rc)
 h3:w.cell? ⟨h,3,none⟩=some (.slice wa S.wr.length wc)
 h4:w.cell? ⟨h,4,none⟩=some (.slice va S.vs.length vc)
 p0:w.cell? ⟨p,0,none⟩=some (.int .i64 sh)
 p1:w.cell? ⟨p,1,none⟩=some (.slice la l.length lc)
 tx:IsTxs w la l
 sta:Sta w sa ra wa va S
 l8:l.length≤8
 s4:sh≤4
def row1 (sh:Nat) (l:List TxA) (S:SA) (n:Nat):Prop:=(S.rd.getD n []).length=sh∧(S.wr.getD n []).length=sh∧(S.vs.getD n []).length=(gX l n).rs.length
theorem form_bad {sh:Nat} {l:List TxA} {S:SA} (h:¬Form sh l S):eB sh l S=false:=by
 cases e:eB sh l S with
 | false=>rfl
 | true=>exact absurd (eK.1 e) h
variable {w:World} {h p sh:Nat} {l:List TxA} {S:SA} {la sa ra wa va:Option Addr} {lc sc rc wc vc:Nat}
theorem lW (H:Hall0 w h p sh l S la sa ra wa va lc sc rc wc vc) (h8:S.st.length=8) :
  Calls Tryz.prog 230 #[.pointer (some ⟨h,0,none⟩)] w fun e w'=>e=.returned (.int .i64 (if eB sh l S then 0 else 1))∧Below w.heap.size w w':=by
 have HE1:Hid (Form sh l S→(if eB sh l S then (0:Int) else 1)=0):=fun e=>by rw[eK.2 e];rfl
 have HE0:Hid (¬Form sh l S→(if eB sh l S then (0:Int) else 1)=1):=fun e=>by rw[form_bad e];rfl
 generalize (if eB sh l S then (0:Int) else 1)=E at *
 have HH:Hid (Hall0 w h p sh l S la sa ra wa va lc sc rc wc vc):=H
 have H8:Hid (S.st.length=8):=h8
 have x0:=H.h0
 have x2:=H.h2
 have x3:=H.h3
 have x4:=H.h4
 have p0:=H.p0
 have p1:=H.p1
 have hl8:=H.l8
 have hs4:=H.s4
 clear H h8
 by_cases e1:S.rd.length=l.length
 rotate_left
 ·have HF:Hid (E=1):=HE0.out fun F=>e1 F.rd
  have d1:((S.rd.length:Int) != (l.length:Int))=true:=by rw[bne_iff_ne];omega
  clear HE0 HE1 HH H8
  go_enter Tryz.func230,Tryz.ntmps230
  go_wp2
  go_ret
  exact⟨by rw[HF.out];rfl,Below.refl _ _⟩
 by_cases e2:S.wr.length=l.length
 rotate_left
 ·have HF:Hid (E=1):=HE0.out fun F=>e2 F.wr
  have d1:((S.rd.length:Int) != (l.length:Int))=false:=by rw[bne_eq_false_iff_eq];omega
  have d2:((S.wr.length:Int) != (l.length:Int))=true:=by rw[bne_iff_ne];omega
  clear HE0 HE1 HH H8 e1
  go_enter Tryz.func230,Tryz.ntmps230
  go_wp2
  go_ret
  exact⟨by rw[HF.out];rfl,Below.refl _ _⟩
 by_cases e3:S.vs.length=l.length
 rotate_left
 ·have HF:Hid (E=1):=HE0.out fun F=>e3 F.vs
  have d1:((S.rd.length:Int) != (l.length:Int))=false:=by rw[bne_eq_false_iff_eq];omega
  have d2:((S.wr.length:Int) != (l.length:Int))=false:=by rw[bne_eq_false_iff_eq];omega
  have d3:((S.vs.length:Int) != (l.length:Int))=true:=by rw[bne_iff_ne];omega
  clear HE0 HE1 HH H8 e1 e2
  go_enter Tryz.func230,Tryz.ntmps230
  go_wp2
  go_ret
  exact⟨by rw[HF.out];rfl,Below.refl _ _⟩
 rw[e1]at x2
 rw[e2]at x3
 rw[e3]at x4
 have Q1:Hid (S.rd.length=l.length):=e1
 have Q2:Hid (S.wr.length=l.length):=e2
 have Q3:Hid (S.vs.length=l.length):=e3
 clear e1 e2 e3
 have d1:((l.length:Int) != (l.length:Int))=false:=by simp
 go_enter Tryz.func230,Tryz.ntmps230
 go_wp2
 go_loopw [50] (fun i wr=>∃n:Nat,n≤l.length∧i=.int .i64 n∧Hid (∀i,i<n→row1 sh l S i)∧Hid (Below w.heap.size w wr)) (fun i _=>l.length - (intOf i).toNat)
 case atStart=>exact⟨0,Nat.zero_le _,rfl,(fun i hi=>absurd hi (Nat.not_lt_zero _)),Below.refl _ _⟩
 case round=>
  obtain⟨n,hn',rfl,hall,hB⟩:=hrel
  by_cases hlt:n<l.length
  ·have i1:(n:Int)<(l.length:Int):=by omega
   have i0:(0:Int)≤(n:Int):=by omega
   obtain⟨bt,ot,ea,_,t0,t1,t2,_⟩:=HH.out.tx n hlt
   obtain⟨b1,o1,a1,c1,f1,_,y1,_,_⟩:=HH.out.sta.rd n (by rw[Q1.out];exact hlt)
   obtain⟨b2,o2,a2,c2,f2,_,y2,_,_⟩:=HH.out.sta.wr n (by rw[Q2.out];exact hlt)
   obtain⟨b3,o3,a3,c3,f3,_,y3,_,_⟩:=HH.out.sta.vs n (by rw[Q3.out];exact hlt)
   have z0:=aB hB.out x0
   have z2:wr.cell? ⟨h,2,none⟩=some (.slice (some ⟨b1,o1,none⟩) l.length rc):=by rw[←f1];exact aB hB.out x2
   have z3:wr.cell? ⟨h,3,none⟩=some (.slice (some ⟨b2,o2,none⟩) l.length wc):=by rw[←f2];exact aB hB.out x3
   have z4:wr.cell? ⟨h,4,none⟩=some (.slice (some ⟨b3,o3,none⟩) l.length vc):=by rw[←f3];exact aB hB.out x4
   have zp0:=aB hB.out p0
   have zt0:=aB hB.out t0
   have zt1:=aB hB.out t1
   have zt2:=aB hB.out t2
   have zy1:=aB hB.out y1
   have zy2:=aB hB.out y2
   have zy3:=aB hB.out y3
   subst ea
   have HG:Hid ((S.rd.getD n []).length=sh→(S.wr.getD n []).length=sh→(S.vs.getD n []).length=(l.getD n Go.Proofs.YtcgpkonfneofdaaGreatDoor.x0).rs.length→∀i,i<n+1→row1 sh l S i):=fun q1 q2 q3 i hi=>by
    by_cases e:i=n
    ·subst e;exact⟨q1,q2,q3⟩
    ·exact hall.out i (by omega)
   have HB:Hid (¬((S.rd.getD n []).length=sh∧(S.wr.getD n []).length=sh∧(S.vs.getD n []).length=(l.getD n Go.Proofs.YtcgpkonfneofdaaGreatDoor.x0).rs.length)→¬Form sh l S):=fun q F=>q ⟨F.rn n hlt,F.wn n hlt,F.vn n hlt⟩
   clear hall t0 t1 t2 y1 y2 y3
   generalize (S.rd.getD n []).length=L1 at *
   generalize (S.wr.getD n []).length=L2 at *
   generalize (S.vs.getD n []).length=L3 at *
   generalize l.getD n Go.Proofs.YtcgpkonfneofdaaGreatDoor.x0=x at *
   obtain⟨xa,xb,xc,xd,xe,xf,rs,gs,ss⟩:=x
   simp only at zt0 zt1 zt2 HG HB
   have UV:Hid (Below w.heap.size w (wr.alloc (.cells #[.slice xa rs.length xd,.slice xb gs.length xe,.slice xc ss.length xf] 95))):=aA hB.out _
   have bV:Below wr.heap.size wr (wr.alloc (.cells #[.slice xa rs.length xd,.slice xb gs.length xe,.slice xc ss.length xf] 95)):=aA (Below.refl _ _) _
   go_upto_region 7 with fail
   have z0:=aB bV z0
   have z2:=aB bV z2
   have z3:=aB bV z3
   have z4:=aB bV z4
   have zp0:=aB bV zp0
   have zy1:=aB bV zy1
   have zy2:=aB bV zy2
   have zy3:=aB bV zy3
   have zx:(wr.alloc (.cells #[.slice xa rs.length xd,.slice xb gs.length xe,.slice xc ss.length xf] 95)).cell? ⟨wr.heap.size,0,none⟩=some (.slice xa rs.length xd):=by simp
   clear bV zt0 zt1 zt2 hB
   generalize (wr.alloc (.cells #[.slice xa rs.length xd,.slice xb gs.length xe,.slice xc ss.length xf] 95))=V at *
   by_cases q1:L1=sh
   rotate_left
   ·have HF:Hid (E=1):=HE0.out (HB.out fun q=>q1 q.1)
    have g1:((L1:Int) != (sh:Int))=true:=by rw[bne_iff_ne];omega
    clear HE0 HE1 HB HG
    go_quiet (fail)
    go_wp2
    go_ret
    exact⟨by rw[HF.out];rfl,cI UV.out _⟩
   have g1:((L1:Int) != (sh:Int))=false:=by rw[bne_eq_false_iff_eq];omega
   by_cases q2:L2=sh
   rotate_left
   ·have HF:Hid (E=1):=HE0.out (HB.out fun q=>q2 q.2.1)
    have g2:((L2:Int) != (sh:Int))=true:=by rw[bne_iff_ne];omega
    clear HE0 HE1 HB HG q1
    go_quiet (fail)
    go_wp2
    go_ret
    exact⟨by rw[HF.out];rfl,cI UV.out _⟩
   have g2:((L2:Int) != (sh:Int))=false:=by rw[bne_eq_false_iff_eq];omega
   by_cases q3:L3=rs.length
   rotate_left
   ·have HF:Hid (E=1):=HE0.out (HB.out fun q=>q3 q.2.2)
    have g3:((L3:Int) != (rs.length:Int))=true:=by rw[bne_iff_ne];omega
    clear HE0 HE1 HB HG q1 q2
    go_quiet (fail)
    go_wp2
    go_ret
    exact⟨by rw[HF.out];rfl,cI UV.out _⟩
   have g3:((L3:Int) != (rs.length:Int))=false:=by rw[bne_eq_false_iff_eq];omega
   have HR:Hid (∀i,i<n+1→row1 sh l S i):=HG.out q1 q2 q3
   clear HB HG q1 q2 q3
   go_quiet (fail)
   have UQ:Hid (Below w.heap.size w (V.drewN nq)):=cI UV.out _
   clear UV z0 z2 z3 z4 zp0 zy1 zy2 zy3 zx
   go_wp2
   go_roundw
   case rel=>exact⟨n+1,by omega,by go_num,HR,UQ⟩
   case measure=>simp[intOf];omega
  ·have hnn:n=l.length:=by omega
   have HF:Hid (E=0):=HE1.out (by
    have:=hall.out
    rw[hnn]at this
    exact⟨H8.out,Q1.out,Q2.out,Q3.out,fun i hi=>(this i hi).1,fun i hi=>(this i hi).2.1,fun i hi=>(this i hi).2.2⟩)
   have i1:¬(n:Int)<(l.length:Int):=by omega
   clear hall
   go_wp2
   go_ret
   exact⟨by rw[HF.out];rfl,hB.out⟩
end
end Go.Proofs.YtcgpkonfneofdaaGreatDoor
