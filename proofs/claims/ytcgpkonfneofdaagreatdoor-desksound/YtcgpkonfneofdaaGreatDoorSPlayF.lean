/- Conditions: those that each theorem states. -/
import Derived.Test.YtcgpkonfneofdaaGreatDoorSBegC
import Derived.Laws.StructEq
set_option maxRecDepth 100000
set_option maxHeartbeats 8000000
namespace Go.Proofs.YtcgpkonfneofdaaGreatDoor
open Go.RowKit
def sMark (n:Int):St:=⟨7,1,1,n,1,0⟩
abbrev xMark (n:Int) (sa:Option Addr) (sc:Nat):TxA:=⟨none,none,sa,0,0,sc,[],[],[sMark n]⟩
def XAt (C:Nat) (ra ga sa:Option Addr):Prop:=(∀ad,ra=some ad→C≤ad.block)∧(∀ad,ga=some ad→C≤ad.block)∧(∀ad,sa=some ad→C≤ad.block)
theorem XAt.low {C C':Nat} {ra ga sa:Option Addr} (h:XAt C ra ga sa) (hc:C'≤C):XAt C' ra ga sa:=
 ⟨fun ad e=>Nat.le_trans hc (h.1 ad e),fun ad e=>Nat.le_trans hc (h.2.1 ad e),fun ad e=>Nat.le_trans hc (h.2.2 ad e)⟩
theorem far_ints {w:World} {a:Option Addr} {zs:List Int} (h:IsInts w a zs) (b j:Nat) (v:Value) (hne:∀ad,a=some ad→b<ad.block):IsInts (w.setCell ⟨b,j,none⟩ v) a zs:=fun i hi=>by
 obtain⟨b',off,ha,hlt,hc⟩:=h i hi
 have hn:b<b':=hne _ ha
 exact⟨b',off,ha,by simpa using hlt,by rw[World.cell?_setCell_far _ _ _ _ (by simp;omega)];exact hc⟩
theorem far_gs {w:World} {a:Option Addr} {zs:List Gd} (h:IsGs w a zs) (b j:Nat) (v:Value) (hne:∀ad,a=some ad→b<ad.block):IsGs (w.setCell ⟨b,j,none⟩ v) a zs:=fun i hi=>by
 obtain⟨b',off,ha,hlt,c0,c1,c2,c3,c4⟩:=h i hi
 have hn:b<b':=hne _ ha
 have far:∀k u,w.cell? ⟨b',k,none⟩=some u→(w.setCell ⟨b,j,none⟩ v).cell? ⟨b',k,none⟩=some u:=fun k u hc=>by rw[World.cell?_setCell_far _ _ _ _ (by simp;omega)];exact hc
 exact⟨b',off,ha,by simpa using hlt,far _ _ c0,far _ _ c1,far _ _ c2,far _ _ c3,far _ _ c4⟩
theorem far_ss {w:World} {a:Option Addr} {zs:List St} (h:IsSs w a zs) (b j:Nat) (v:Value) (hne:∀ad,a=some ad→b<ad.block):IsSs (w.setCell ⟨b,j,none⟩ v) a zs:=fun i hi=>by
 obtain⟨b',off,ha,hlt,c0,c1,c2,c3,c4,c5⟩:=h i hi
 have hn:b<b':=hne _ ha
 have far:∀k u,w.cell? ⟨b',k,none⟩=some u→(w.setCell ⟨b,j,none⟩ v).cell? ⟨b',k,none⟩=some u:=fun k u hc=>by rw[World.cell?_setCell_far _ _ _ _ (by simp;omega)];exact hc
 exact⟨b',off,ha,by simpa using hlt,far _ _ c0,far _ _ c1,far _ _ c2,far _ _ c3,far _ _ c4,far _ _ c5⟩
theorem vE {w:World} {x:TxA} (h:IsX w x) (b j:Nat) (v:Value) (hx:XAt (b+1) x.ra x.ga x.sa):IsX (w.setCell ⟨b,j,none⟩ v) x:=
 ⟨⟨far_ints h.t.r b j v (fun ad e=>hx.1 ad e),far_gs h.t.g b j v (fun ad e=>hx.2.1 ad e),far_ss h.t.s b j v (fun ad e=>hx.2.2 ad e),h.t.lr,h.t.lg,h.t.ls⟩,h.rn,h.gn,h.sn⟩
theorem note_at (w:World):Calls Tryz.prog 62 #[] w fun e w'=>∃ra sa rc sc,e=.returned (.agg #[.slice ra ([1]:List Int).length rc,.slice none ([]:List Gd).length 0,.slice sa [sNote].length sc])∧IsTx w' ra none sa [1] [] [sNote]∧XAt w.heap.size ra none sa∧Below w.heap.size w w':=by
 go_enter Tryz.func62,Tryz.ntmps62
 go_wp2_with fail
 refine(gO 0 _).mono ?_
 rintro e w' ⟨rfl,rfl⟩
 go_wp2_with fail
 refine(dG 0 _).mono ?_
 rintro e w' ⟨rfl,rfl⟩
 go_wp2
 refine bodyPost_ret (v:=.agg #[.slice (some ⟨w.heap.size+1,0,none⟩) 1 1,.slice none 0 0,.slice (some ⟨w.heap.size+1+1+1+1,0,none⟩) 1 1]) ?_ rfl ⟨_,_,_,_,rfl,⟨?_,?_,?_,by decide,by decide,by decide⟩,?_,?_⟩
 ·simp[results,Tryz.results62,go_sem]
 ·generalize Obj.cells #[_,_,_] 95=O0
  exact(isInts_one (w.alloc O0) (w.heap.size+1) 1 (by simp)).below (by repeat (first | assumption | exact Below.refl _ _ | refine aD ?_ | refine aA ?_ _ | refine aC ?_ (by assumption)))
 ·exact fun i hi=>absurd hi (by simp)
 ·exact isSs_one _ _ _ _ _ _ _ _ (by simp)
 ·exact⟨fun ad h=>by first | (cases h;done) | (injection h with h;subst h;first | (simp;done) | (simp;omega)),fun ad h=>by first | (cases h;done) | (injection h with h;subst h;first | (simp;done) | (simp;omega)),fun ad h=>by first | (cases h;done) | (injection h with h;subst h;first | (simp;done) | (simp;omega))⟩
 ·repeat (first | assumption | exact Below.refl _ _ | refine aD ?_ | refine aA ?_ _ | refine aC ?_ (by assumption))
theorem pay_at (n:Int) (w:World):Calls Tryz.prog 61 #[.int .i64 n] w fun e w'=>∃ra ga sa rc gc sc,e=.returned (.agg #[.slice ra ([0,1]:List Int).length rc,.slice ga [gPay n].length gc,.slice sa [zR n,zQ n].length sc])∧IsTx w' ra ga sa [0,1] [gPay n] [zR n,zQ n]∧XAt w.heap.size ra ga sa∧Below w.heap.size w w':=by
 go_enter Tryz.func61,Tryz.ntmps61
 go_wp2_with fail
 refine(dG n _).mono ?_
 rintro e w' ⟨rfl,rfl⟩
 go_wp2_with fail
 refine(gO 0 _).mono ?_
 rintro e w' ⟨rfl,rfl⟩
 go_wp2_with fail
 refine(gO 0 _).mono ?_
 rintro e w' ⟨rfl,rfl⟩
 go_wp2_with fail
 refine(dG n _).mono ?_
 rintro e w' ⟨rfl,rfl⟩
 go_wp2_with fail
 refine(gO 1 _).mono ?_
 rintro e w' ⟨rfl,rfl⟩
 go_wp2_with fail
 refine(dG n _).mono ?_
 rintro e w' ⟨rfl,rfl⟩
 go_wp2
 refine bodyPost_ret (v:=.agg #[.slice (some ⟨w.heap.size+1,0,none⟩) 2 2,.slice (some ⟨w.heap.size+1+1+1+1,0,none⟩) 1 1,.slice (some ⟨w.heap.size+1+1+1+1+1+1+1+1+1,0,none⟩) 2 2]) ?_ rfl ⟨_,_,_,_,_,_,rfl,⟨?_,?_,?_,by simp[maxLen],by simp[maxLen],by simp[maxLen]⟩,?_,?_⟩
 ·simp[results,Tryz.results61,go_sem]
 ·generalize Obj.cells #[_,_,_] 95=O0
  exact(isInts_two (w.alloc O0) (w.heap.size+1) 0 1 (by simp)).below (by repeat (first | assumption | exact Below.refl _ _ | refine aD ?_ | refine aA ?_ _ | refine aC ?_ (by assumption)))
 ·generalize Obj.cells #[_,_,_] 95=O0
  exact(isGs_one ((((w.alloc O0).alloc (.cells #[.int .i64 0,.int .i64 1] 3)).alloc (.cells #[.int .i64 1,.int .i64 n] 97)).alloc (.cells #[.int .i64 2,.int .i64 0] 97)) (w.heap.size+1+1+1+1) 4 1 n 2 0 (by simp)).below (by repeat (first | assumption | exact Below.refl _ _ | refine aD ?_ | refine aA ?_ _ | refine aC ?_ (by assumption)))
 ·exact isSs_two _ _ _ _ _ _ _ _ _ _ _ _ _ _ (by simp)
 ·exact⟨fun ad h=>by first | (cases h;done) | (injection h with h;subst h;first | (simp;done) | (simp;omega)),fun ad h=>by first | (cases h;done) | (injection h with h;subst h;first | (simp;done) | (simp;omega)),fun ad h=>by first | (cases h;done) | (injection h with h;subst h;first | (simp;done) | (simp;omega))⟩
 ·repeat (first | assumption | exact Below.refl _ _ | refine aD ?_ | refine aA ?_ _ | refine aC ?_ (by assumption))
theorem mark_at (n:Int) (w:World):Calls Tryz.prog 63 #[.int .i64 n] w fun e w'=>∃sa sc,e=.returned (.agg #[.slice none ([]:List Int).length 0,.slice none ([]:List Gd).length 0,.slice sa [sMark n].length sc])∧IsTx w' none none sa [] [] [sMark n]∧XAt w.heap.size none none sa∧Below w.heap.size w w':=by
 go_enter Tryz.func63,Tryz.ntmps63
 go_wp2_with fail
 refine(dG n _).mono ?_
 rintro e w' ⟨rfl,rfl⟩
 go_wp2_with fail
 refine(dG 0 _).mono ?_
 rintro e w' ⟨rfl,rfl⟩
 go_wp2
 refine bodyPost_ret (v:=.agg #[.slice none 0 0,.slice none 0 0,.slice (some ⟨w.heap.size+1+1+1,0,none⟩) 1 1]) ?_ rfl ⟨_,_,rfl,⟨?_,?_,?_,by simp[maxLen],by simp[maxLen],by simp[maxLen]⟩,?_,?_⟩
 ·simp[results,Tryz.results63,go_sem]
 ·exact fun i hi=>absurd hi (by simp)
 ·exact fun i hi=>absurd hi (by simp)
 ·exact isSs_one _ _ _ _ _ _ _ _ (by simp)
 ·exact⟨fun ad h=>by first | (cases h;done) | (injection h with h;subst h;first | (simp;done) | (simp;omega)),fun ad h=>by first | (cases h;done) | (injection h with h;subst h;first | (simp;done) | (simp;omega)),fun ad h=>by first | (cases h;done) | (injection h with h;subst h;first | (simp;done) | (simp;omega))⟩
 ·repeat (first | assumption | exact Below.refl _ _ | refine aD ?_ | refine aA ?_ _ | refine aC ?_ (by assumption))
theorem three_any (w:World):Calls Tryz.prog 26 #[] w fun e w'=>∃a ra ga sa rc gc sc ra2 sa2 rc2 sc2 sa3 sc3,e=.returned (.agg #[.int .i64 ((2:Nat):Int),.slice a [xPay ra ga sa rc gc sc,yV ra2 sa2 rc2 sc2,xMark 9 sa3 sc3].length 3])∧IsTxs w' a [xPay ra ga sa rc gc sc,yV ra2 sa2 rc2 sc2,xMark 9 sa3 sc3]∧Below w.heap.size w w':=by
 go_enter Tryz.func26,Tryz.ntmps26
 have q0:(w.alloc (.cells #[.int .i64 0,.slice none 0 0] 29)).cell? ⟨w.heap.size,0,none⟩=some (.int .i64 0):=by simp
 have q1:(w.alloc (.cells #[.int .i64 0,.slice none 0 0] 29)).cell? ⟨w.heap.size,1,none⟩=some (.slice none 0 0):=by simp
 have qf:∀j,(w.alloc (.cells #[.int .i64 0,.slice none 0 0] 29)).frozen? ⟨w.heap.size,j,none⟩=false:=fun j=>by simp
 have qs:w.heap.size<(w.alloc (.cells #[.int .i64 0,.slice none 0 0] 29)).heap.size:=by simp
 have B0:Hid (Below w.heap.size w (w.alloc (.cells #[.int .i64 0,.slice none 0 0] 29))):=aA (Below.refl _ _) _
 go_wp2_with fail
 generalize (w.alloc (.cells #[.int .i64 0,.slice none 0 0] 29))=W at *
 refine(pay_at 3 _).mono ?_
 rintro e w1 ⟨ra,ga,sa,rc,gc,sc,rfl,ht1,hq1,hb1⟩
 have hx1:Hid (IsX w1 (xPay ra ga sa rc gc sc)):=⟨ht1,mY ht1.r,some_of_gs ht1.g,mE ht1.s⟩
 clear ht1
 go_wp2_with fail
 refine(note_at _).mono ?_
 rintro e w2 ⟨ra2,sa2,rc2,sc2,rfl,ht2,hq2,hb2⟩
 have hx2:Hid (IsX w2 (yV ra2 sa2 rc2 sc2)):=⟨ht2,mY ht2.r,fun _=>rfl,mE ht2.s⟩
 clear ht2
 go_wp2_with fail
 refine(mark_at 9 _).mono ?_
 rintro e w3 ⟨sa3,sc3,rfl,ht3,hq3,hb3⟩
 have hx3:Hid (IsX w3 (xMark 9 sa3 sc3)):=⟨ht3,fun _=>rfl,fun _=>rfl,mE ht3.s⟩
 clear ht3
 have B3:Below W.heap.size W w3:=aC hb1 (aC hb2 hb3)
 have r0:=aB B3 q0
 have r1:=aB B3 q1
 have rf:∀j,w3.frozen? ⟨w.heap.size,j,none⟩=false:=fun j=>(B3.frozen (p:=⟨w.heap.size,j,none⟩) qs).trans (qf j)
 have y1:Hid (IsX w3 (xPay ra ga sa rc gc sc)):=hx1.out.below (aC hb2 hb3)
 have y2:Hid (IsX w3 (yV ra2 sa2 rc2 sc2)):=hx2.out.below hb3
 have BB:Hid (Below w.heap.size w w3):=aC B0.out B3
 have s1:=hb1.size
 have s2:=hb2.size
 have s3:=hb3.size
 have z1:Hid (XAt (w.heap.size+1) ra ga sa):=hq1.low (by omega)
 have z2:Hid (XAt (w.heap.size+1) ra2 none sa2):=hq2.low (by omega)
 have z3:Hid (XAt (w.heap.size+1) none none sa3):=hq3.low (by omega)
 have hws:w.heap.size<w3.heap.size:=by omega
 clear B3 hb1 hb2 hb3 hx1 hx2 q0 q1 qf B0 s1 s2 s3 hq1 hq2 hq3 qs
 go_wp2
 have t1:=vE (vE y1.out w.heap.size 0 (.int .i64 2) z1.out) w.heap.size 1 (.slice (some ⟨w3.heap.size,0,none⟩) 3 3) z1.out
 have t2:=vE (vE y2.out w.heap.size 0 (.int .i64 2) z2.out) w.heap.size 1 (.slice (some ⟨w3.heap.size,0,none⟩) 3 3) z2.out
 have t3:=vE (vE hx3.out w.heap.size 0 (.int .i64 2) z3.out) w.heap.size 1 (.slice (some ⟨w3.heap.size,0,none⟩) 3 3) z3.out
 refine bodyPost_ret (v:=.agg #[.int .i64 2,.slice (some ⟨w3.heap.size,0,none⟩) 3 3]) ?_ rfl ⟨some ⟨w3.heap.size,0,none⟩,ra,ga,sa,rc,gc,sc,ra2,sa2,rc2,sc2,sa3,sc3,rfl,?_,?_⟩
 ·have e0:=fun (o:Obj)=>(World.cell?_alloc_lt ((w3.setCell ⟨w.heap.size,0,none⟩ (.int .i64 2)).setCell ⟨w.heap.size,1,none⟩ (.slice (some ⟨w3.heap.size,0,none⟩) 3 3)) o ⟨w.heap.size,0,none⟩ (by simp;exact hws)).trans (show _=some (.int .i64 2) by simp[go_sem,r0])
  have e1:=fun (o:Obj)=>(World.cell?_alloc_lt ((w3.setCell ⟨w.heap.size,0,none⟩ (.int .i64 2)).setCell ⟨w.heap.size,1,none⟩ (.slice (some ⟨w3.heap.size,0,none⟩) 3 3)) o ⟨w.heap.size,1,none⟩ (by simp;exact hws)).trans (show _=some (.slice (some ⟨w3.heap.size,0,none⟩) 3 3) by simp[go_sem,r1])
  simp[results,Tryz.results26,go_sem,e0,e1]
 ·exact isTxs_three _ (xPay ra ga sa rc gc sc) (yV ra2 sa2 rc2 sc2) (xMark 9 sa3 sc3) _ (by simp) t1 t2 t3
 ·exact aA (aI (aI BB.out (Nat.le_refl _) _) (Nat.le_refl _) _) _
section
section
variable {l:List TxA} {a:Option Addr} {c:Nat} {m:Int} {S:SA} {q:Q4} {w:World}
theorem do_q (kd n k:Int) (hl:IsTxs w a l) (hq:StaQ S q w):Calls Tryz.prog 158 #[.agg #[.int .i64 m,.slice a l.length c],.agg #[.slice q.sa q.sn q.sc,.slice q.ra q.rn q.rc,.slice q.wa q.wn q.tc,.slice q.va q.vn q.vc],.agg #[.int .i64 kd,.int .i64 n,.int .i64 k]] w fun e w'=>∃q':Q4,e=.returned (.tuple #[.agg #[.slice q'.sa q'.sn q'.sc,.slice q'.ra q'.rn q'.rc,.slice q'.wa q'.wn q'.tc,.slice q'.va q'.vn q'.vc],.int .i64 (kX m l S kd n k)])∧StaF w.heap.size (pV m l S kd n k) q' w'∧Below w.heap.size w w':=by
 obtain⟨e1,e2,e3,e4,hs⟩:=hq
 rw[e1,e2,e3,e4]
 exact zD a c l q.sa q.ra q.wa q.va q.sc q.rc q.tc q.vc S m kd n k w hl hs
theorem can_q (hl:IsTxs w a l) (hq:StaQ S q w):Calls Tryz.prog 180 #[.agg #[.int .i64 m,.slice a l.length c],.agg #[.slice q.sa q.sn q.sc,.slice q.ra q.rn q.rc,.slice q.wa q.wn q.tc,.slice q.va q.vn q.vc]] w fun e w'=>∃a c,e=.returned (.tuple #[.slice a (bE m l S).length c,.int .i64 (dB m l S)])∧IsSteps w' a (bE m l S)∧Below w.heap.size w w':=by
 obtain⟨e1,e2,e3,e4,hs⟩:=hq
 rw[e1,e2,e3,e4]
 exact wF a c l q.sa q.ra q.wa q.va q.sc q.rc q.tc q.vc S m w hl hs
theorem over_q (hl:IsTxs w a l) (hq:StaQ S q w):Calls Tryz.prog 178 #[.agg #[.int .i64 m,.slice a l.length c],.agg #[.slice q.sa q.sn q.sc,.slice q.ra q.rn q.rc,.slice q.wa q.wn q.tc,.slice q.va q.vn q.vc]] w fun e w'=>e=.returned (.tuple #[.bool (jW m l S),.int .i64 (dB m l S)])∧Below w.heap.size w w':=by
 obtain⟨e1,e2,e3,e4,hs⟩:=hq
 rw[e1,e2,e3,e4]
 exact tR a c l q.sa q.ra q.wa q.va q.sc q.rc q.tc q.vc S m w hl hs
end
end
end Go.Proofs.YtcgpkonfneofdaaGreatDoor

set_option maxRecDepth 100000
set_option maxHeartbeats 8000000
namespace Go.Proofs.YtcgpkonfneofdaaGreatDoor
open Go.RowKit
section
theorem canL_len (sh:Nat) (l:List TxA) (S:SA) (h8:l.length≤8) (h4:sh≤4):(eE sh l S).length≤64:=by
 unfold eE gJ
 rw[List.length_append]
 have a:=jR sh l S 1 l.length
 have b:=jR sh l S 2 l.length
 have c:l.length*sh≤8*4:=Nat.mul_le_mul h8 h4
 omega
theorem can_any (sh:Nat) (l:List TxA) (S:SA) (kd n k:Int):(eE sh l S).any (fun x=>(x.1:Int)==kd && (x.2.1:Int)==n && (x.2.2:Int)==k)=decide (bW sh l S kd n k=0):=by
 rw[Bool.eq_iff_iff,List.any_eq_true,decide_eq_true_eq]
 constructor
 ·rintro ⟨⟨K,N,j⟩,hx,e⟩
  obtain⟨h1,h2,h3,h4⟩:=iH.1 hx
  simp only[Bool.and_eq_true,beq_iff_eq]at e
  obtain⟨⟨e1,e2⟩,e3⟩:=e
  subst e1 e2 e3
  have h1:K=1∨K=2:=h1
  have h2:N<l.length:=h2
  have h3:j<sh:=h3
  have h4:dW sh l S K N j=true:=h4
  unfold dW at h4
  simp only[Bool.and_eq_true,Bool.not_eq_true']at h4
  obtain⟨⟨a1,a2⟩,a3⟩:=h4
  unfold bW
  rw[if_pos (by omega),if_neg (by omega)]
  simp only[Int.toNat_natCast]
  rw[if_pos a1,if_neg (by rw[a2];simp),if_pos a3]
 ·intro h
  obtain⟨K,N,k',rfl,rfl,rfl,hK,hN,hk,a1,a2,a3⟩:=mC h
  refine⟨(K,N,k'),iH.2 ⟨hK,hN,hk,?_⟩,by simp⟩
  show dW sh l S K N k'=true
  unfold dW
  rw[a1,a2,a3];rfl
theorem can_over {m:Int} {l:List TxA} {S:SA} (h:dB m l S=0):jW m l S=decide ((bE m l S).length=0):=by
 have e1:jW m l S=eI m.toNat l S:=if_pos h
 have e2:bE m l S=eE m.toNat l S:=if_pos h
 obtain⟨sh,rfl,_,_,_,_,_,ht⟩:=cK h
 rw[e1,e2]
 show eI sh l S=decide ((eE sh l S).length=0)
 cases ho:eI sh l S with
 | true=>rw[over_none (rD.1 ht) ho];rfl
 | false=>
  have:=some_can ho
  symm
  rw[decide_eq_false_iff_not]
  exact fun e=>this (List.eq_nil_of_length_eq_zero e)
variable (la:Option Addr) (lc:Nat) (l:List TxA) (sa ra wa va:Option Addr) (sc rc tc vc:Nat) (S:SA)
end
theorem can_do0 {m:Int} {l:List TxA} {S:SA} (h:dB m l S=0) {x:Nat×Nat×Nat} (hx:x∈bE m l S):kX m l S x.1 x.2.1 x.2.2=0:=by
 have e1:kX m l S x.1 x.2.1 x.2.2=bW m.toNat l S x.1 x.2.1 x.2.2:=if_pos h
 have e2:bE m l S=eE m.toNat l S:=if_pos h
 rw[e2]at hx
 rw[e1]
 have:=can_any m.toNat l S x.1 x.2.1 x.2.2
 have ha:(eE m.toNat l S).any (fun y=>(y.1:Int)==x.1 && (y.2.1:Int)==x.2.1 && (y.2.2:Int)==x.2.2)=true:=List.any_eq_true.2 ⟨x,hx,by simp⟩
 rw[ha]at this
 exact of_decide_eq_true this.symm
theorem do_is {m:Int} {l:List TxA} {S:SA} {x:Nat×Nat×Nat} (h:kX m l S x.1 x.2.1 x.2.2=0):pV m l S x.1 x.2.1 x.2.2=vI m.toNat l S x.1 x.2.1 x.2.2:=by
 unfold pV
 rw[if_pos h]
 simp
theorem inv_st {m:Int} {l:List TxA} {S:SA} {s:List Int} (hp:aM m l=0) (I:Inv m.toNat l s S):dB m l S=0:=by
 unfold dB
 rw[if_pos hp,eK.2 I.f,rD.2 I.t]
 rfl
theorem beg_zero {m:Int} {l:List TxA} {s:List Int} (h:iI m l s=0):aM m l=0∧s.length=8:=by
 unfold iI bK at h
 by_cases h1:aM m l=0
 ·rw[h1]at h
  refine⟨h1,?_⟩
  apply Classical.byContradiction
  intro h8
  simp[aF,h8]at h
 ·simp[aF,h1]at h
theorem beg_inv {m:Int} {l:List TxA} {s:List Int} (h:iI m l s=0):Inv m.toNat l s (cA m l s):=by
 obtain⟨hp,h8⟩:=beg_zero h
 have e:cA m l s=jC m.toNat l s:=if_pos h
 rw[e]
 exact inv_beg _ _ _ h8 (fun n hn=>lL (fV (aY hp).2.2 n hn))
end Go.Proofs.YtcgpkonfneofdaaGreatDoor

set_option maxRecDepth 100000
set_option maxHeartbeats 8000000
namespace Go.Proofs.YtcgpkonfneofdaaGreatDoor
open Go.RowKit
section
def lQ (c:Int) (n:Nat):Nat:=if c<0 then ((-(c+1))%(n:Int)).toNat else (c%(n:Int)).toNat
theorem xR (c:Int) {n:Nat} (h:0<n):lQ c n<n:=by
 unfold lQ
 split
 ·have:=Int.emod_lt_of_pos (-(c+1)) (b:=(n:Int)) (by omega)
  have:=Int.emod_nonneg (-(c+1)) (b:=(n:Int)) (by omega)
  omega
 ·have:=Int.emod_lt_of_pos c (b:=(n:Int)) (by omega)
  have:=Int.emod_nonneg c (b:=(n:Int)) (by omega)
  omega
theorem vO (c:Int) (n:Nat) (w:World) (hc:(Lit.int .i64 c).wf=true) (hn:0<n) (hn':n≤100) :
  Calls Tryz.prog 10 #[.int .i64 c,.int .i64 n] w fun e w'=>e=.returned (.int .i64 (lQ c n:Nat))∧w'=w:=by
 obtain⟨c1,c2⟩:=wf_bounds hc
 clear hc
 by_cases h:c<0
 ·have h1:0≤(-(c+1))%(n:Int):=Int.emod_nonneg _ (by omega)
  have e0:lQ c n=((-(c+1))%(n:Int)).toNat:=if_pos h
  rw[e0]
  generalize hk:((-(c+1))%(n:Int)).toNat=K
  go_enter Tryz.func10,Tryz.ntmps10
  go_wp2
  go_ret
  refine⟨?_,rfl⟩
  show Ending.returned (Value.int .i64 (-(c+1).tmod ↑n))=_
  rw[←hk,Int.toNat_of_nonneg h1,←Int.neg_tmod,Int.tmod_eq_emod_of_nonneg (by omega)]
 ·have h1:0≤c%(n:Int):=Int.emod_nonneg _ (by omega)
  have e0:lQ c n=(c%(n:Int)).toNat:=if_neg h
  rw[e0]
  generalize hk:(c%(n:Int)).toNat=K
  go_enter Tryz.func10,Tryz.ntmps10
  go_wp2
  go_ret
  refine⟨?_,rfl⟩
  show Ending.returned (Value.int .i64 (c % ↑n))=_
  rw[←hk,Int.toNat_of_nonneg h1]
theorem put4 {w:World} {R:Nat} (q:Q4) {u0 u1 u2 u3:Value} (t0:w.cell? ⟨R,0,none⟩=some u0) (t1:w.cell? ⟨R,1,none⟩=some u1) (t2:w.cell? ⟨R,2,none⟩=some u2) (t3:w.cell? ⟨R,3,none⟩=some u3):((((w.setCell ⟨R,0,none⟩ (.slice q.sa q.sn q.sc)).setCell ⟨R,1,none⟩ (.slice q.ra q.rn q.rc)).setCell ⟨R,2,none⟩ (.slice q.wa q.wn q.tc)).setCell ⟨R,3,none⟩ (.slice q.va q.vn q.vc)).cell? ⟨R,0,none⟩=some (.slice q.sa q.sn q.sc)∧((((w.setCell ⟨R,0,none⟩ (.slice q.sa q.sn q.sc)).setCell ⟨R,1,none⟩ (.slice q.ra q.rn q.rc)).setCell ⟨R,2,none⟩ (.slice q.wa q.wn q.tc)).setCell ⟨R,3,none⟩ (.slice q.va q.vn q.vc)).cell? ⟨R,1,none⟩=some (.slice q.ra q.rn q.rc)∧((((w.setCell ⟨R,0,none⟩ (.slice q.sa q.sn q.sc)).setCell ⟨R,1,none⟩ (.slice q.ra q.rn q.rc)).setCell ⟨R,2,none⟩ (.slice q.wa q.wn q.tc)).setCell ⟨R,3,none⟩ (.slice q.va q.vn q.vc)).cell? ⟨R,2,none⟩=some (.slice q.wa q.wn q.tc)∧((((w.setCell ⟨R,0,none⟩ (.slice q.sa q.sn q.sc)).setCell ⟨R,1,none⟩ (.slice q.ra q.rn q.rc)).setCell ⟨R,2,none⟩ (.slice q.wa q.wn q.tc)).setCell ⟨R,3,none⟩ (.slice q.va q.vn q.vc)).cell? ⟨R,3,none⟩=some (.slice q.va q.vn q.vc):=⟨(aE (by decide) (aE (by decide) (aE (by decide) (aK t0)))),(aE (by decide) (aE (by decide) (aK (aE (by decide) t1)))),(aE (by decide) (aK (aE (by decide) (aE (by decide) t2)))),(aK (aE (by decide) (aE (by decide) (aE (by decide) t3))))⟩
variable (la:Option Addr) (lc:Nat) (l:List TxA) (sa:Option Addr) (sc:Nat) (s:List Int) (pa:Option Addr) (pc:Nat) (pk:List Int)
end
theorem gotSteps_ok (a:Option Addr) (k c:Nat) (w:World):Calls Tryz.prog 179 #[.slice a k c,.int .i64 0] w fun e' w'=>e'=.returned (.slice a k c)∧w'=w.alloc (.cells #[.int .i64 0] 22):=by
 go_enter Tryz.func179,Tryz.ntmps179
 go_wp2_with fail
 refine(aO [0] _ 1 _ (by simp) rfl (cD _ _ _ rfl)).mono ?_
 rintro e w' ⟨rfl,rfl⟩
 go_wp2
 go_ret
 exact⟨rfl,rfl⟩
theorem xH (b:Bool) (w:World):Calls Tryz.prog 177 #[.bool b,.int .i64 0] w fun e' w'=>e'=.returned (.bool b)∧w'=w.alloc (.cells #[.int .i64 0] 22):=by
 go_enter Tryz.func177,Tryz.ntmps177
 go_wp2_with fail
 refine(aO [0] _ 1 _ (by simp) rfl (cD _ _ _ rfl)).mono ?_
 rintro e w' ⟨rfl,rfl⟩
 go_wp2
 go_ret
 exact⟨rfl,rfl⟩
theorem pR (q:Q4) (w:World):Calls Tryz.prog 39 #[.agg #[.slice q.sa q.sn q.sc,.slice q.ra q.rn q.rc,.slice q.wa q.wn q.tc,.slice q.va q.vn q.vc],.int .i64 0] w fun e' w'=>e'=.returned (.agg #[.slice q.sa q.sn q.sc,.slice q.ra q.rn q.rc,.slice q.wa q.wn q.tc,.slice q.va q.vn q.vc])∧Below w.heap.size w w':=by
 obtain⟨W,hWe⟩:∃W:World,W=((w.alloc (.cells #[.slice q.sa q.sn q.sc,.slice q.ra q.rn q.rc,.slice q.wa q.wn q.tc,.slice q.va q.vn q.vc] 45)).alloc (.cells #[.slice none 0 0,.slice none 0 0,.slice none 0 0,.slice none 0 0] 45)):=⟨_,rfl⟩
 have hW:Hid (Below w.heap.size w W):=by subst hWe;exact aA (aA (Below.refl _ _) _) _
 have p0:W.cell? ⟨w.heap.size,0,none⟩=some (.slice q.sa q.sn q.sc):=by subst hWe;exact aB (aA (Below.refl _ _) _) (aG _ _ 45 _ 0 _ rfl rfl)
 have p1:W.cell? ⟨w.heap.size,1,none⟩=some (.slice q.ra q.rn q.rc):=by subst hWe;exact aB (aA (Below.refl _ _) _) (aG _ _ 45 _ 1 _ rfl rfl)
 have p2:W.cell? ⟨w.heap.size,2,none⟩=some (.slice q.wa q.wn q.tc):=by subst hWe;exact aB (aA (Below.refl _ _) _) (aG _ _ 45 _ 2 _ rfl rfl)
 have p3:W.cell? ⟨w.heap.size,3,none⟩=some (.slice q.va q.vn q.vc):=by subst hWe;exact aB (aA (Below.refl _ _) _) (aG _ _ 45 _ 3 _ rfl rfl)
 have r0:W.cell? ⟨w.heap.size+1,0,none⟩=some (.slice none 0 0):=by subst hWe;exact aG _ _ 45 _ 0 _ (by simp) rfl
 have r1:W.cell? ⟨w.heap.size+1,1,none⟩=some (.slice none 0 0):=by subst hWe;exact aG _ _ 45 _ 1 _ (by simp) rfl
 have r2:W.cell? ⟨w.heap.size+1,2,none⟩=some (.slice none 0 0):=by subst hWe;exact aG _ _ 45 _ 2 _ (by simp) rfl
 have r3:W.cell? ⟨w.heap.size+1,3,none⟩=some (.slice none 0 0):=by subst hWe;exact aG _ _ 45 _ 3 _ (by simp) rfl
 have rf:∀j,W.frozen? ⟨w.heap.size+1,j,none⟩=false:=by subst hWe;exact fun j=>cO _ _ 45 _ j (by simp)
 have sz:Hid (W.heap.size=w.heap.size+2):=by subst hWe;show _=_;simp
 have HWe:Hid (W=_):=hWe
 clear hWe
 go_enter Tryz.func39,Tryz.ntmps39
 go_upto_region 1 with fail
 rw[←HWe.out]
 clear HWe
 go_wp2_with fail
 refine(aO [0] _ 1 _ (by simp) rfl (cD _ _ _ rfl)).mono ?_
 rintro e w' ⟨rfl,rfl⟩
 have gA:Below W.heap.size W (W.alloc (.cells #[.int .i64 0] 22)):=aA (Below.refl _ _) _
 have p0:=aB gA p0
 have p1:=aB gA p1
 have p2:=aB gA p2
 have p3:=aB gA p3
 have r0:=aB gA r0
 have r1:=aB gA r1
 have r2:=aB gA r2
 have r3:=aB gA r3
 have rf:∀j,(W.alloc (.cells #[.int .i64 0] 22)).frozen? ⟨w.heap.size+1,j,none⟩=false:=fun j=>(gA.frozen (p:=⟨w.heap.size+1,j,none⟩) (by have:=sz.out;show w.heap.size+1<_;omega)).trans (rf j)
 have BF:Hid (Below w.heap.size w (W.alloc (.cells #[.int .i64 0] 22))):=aC hW.out gA
 clear gA
 generalize W.alloc (.cells #[.int .i64 0] 22)=V at *
 obtain⟨x0,x1,x2,x3⟩:=put4 q r0 r1 r2 r3
 have FB:Hid (Below w.heap.size w ((((V.setCell ⟨w.heap.size+1,0,none⟩ (.slice q.sa q.sn q.sc)).setCell ⟨w.heap.size+1,1,none⟩ (.slice q.ra q.rn q.rc)).setCell ⟨w.heap.size+1,2,none⟩ (.slice q.wa q.wn q.tc)).setCell ⟨w.heap.size+1,3,none⟩ (.slice q.va q.vn q.vc))):=aI (aI (aI (aI BF.out (by simp) _) (by simp) _) (by simp) _) (by simp) _
 go_wp2_with fail
 refine bodyPost_ret (v:=.agg #[.slice q.sa q.sn q.sc,.slice q.ra q.rn q.rc,.slice q.wa q.wn q.tc,.slice q.va q.vn q.vc]) (by simp[results,Tryz.results39,go_sem,x0,x1,x2,x3]) rfl ⟨rfl,FB.out⟩
end Go.Proofs.YtcgpkonfneofdaaGreatDoor

set_option maxRecDepth 100000
set_option maxHeartbeats 8000000
namespace Go.Proofs.YtcgpkonfneofdaaGreatDoor
open Go.RowKit
section
theorem xG (q:Q4) (x:Int) (hx:¬x=0) (w:World):Calls Tryz.prog 39 #[.agg #[.slice q.sa q.sn q.sc,.slice q.ra q.rn q.rc,.slice q.wa q.wn q.tc,.slice q.va q.vn q.vc],.int .i64 x] w fun e' w'=>e'=.panicked [{v:=.iface 22 (.int .i64 x),recovered:=false}]∧Below w.heap.size w w':=by
 have hW:Hid (Below w.heap.size w ((w.alloc (.cells #[.slice q.sa q.sn q.sc,.slice q.ra q.rn q.rc,.slice q.wa q.wn q.tc,.slice q.va q.vn q.vc] 45)).alloc (.cells #[.slice none 0 0,.slice none 0 0,.slice none 0 0,.slice none 0 0] 45))):=aA (aA (Below.refl _ _) _) _
 go_enter Tryz.func39,Tryz.ntmps39
 go_upto_region 1 with fail
 generalize ((w.alloc (.cells #[.slice q.sa q.sn q.sc,.slice q.ra q.rn q.rc,.slice q.wa q.wn q.tc,.slice q.va q.vn q.vc] 45)).alloc (.cells #[.slice none 0 0,.slice none 0 0,.slice none 0 0,.slice none 0 0] 45))=W at *
 go_wp2_with fail
 refine(cF [x] 0 x _ 1 _ (by simp) (by simp) (by simp) rfl hx (cD _ _ _ (by simp))).mono ?_
 rintro e w' ⟨rfl,rfl⟩
 go_wp2
 refine⟨rfl,rfl,aC hW.out (aA (Below.refl _ _) _)⟩
variable (la:Option Addr) (lc:Nat) (l:List TxA) (sa:Option Addr) (sc:Nat) (s:List Int) (pa:Option Addr) (pc:Nat) (pk:List Int)
end
section
def gL (l:List TxA) (S:SA) (m:Nat):List (Bool×List Int):=(List.range m).map (fun n=>(cW (S.vs.getD n []) (gX l n).gs,S.vs.getD n []))
theorem resL_len (l:List TxA) (S:SA) (m:Nat):(gL l S m).length=m:=by simp[gL]
theorem resL_step (l:List TxA) (S:SA) (m:Nat):gL l S (m+1)=gL l S m++[(cW (S.vs.getD m []) (gX l m).gs,S.vs.getD m [])]:=by
 unfold gL
 rw[List.range_succ,List.map_append]
 rfl
def mG (m:Int) (l:List TxA) (S:SA):Int:=if dB m l S=0 then (if jW m l S=true then 0 else 8) else dB m l S
def kN (m:Int) (l:List TxA) (S:SA):List (Bool×List Int):=if mG m l S=0 then gL l S l.length else []
theorem st_runE {m:Int} {l:List TxA} {S:SA} (h:dB m l S=0) {n:Nat} (hn:n<l.length):tV (gX l n).rs (gX l n).gs (gX l n).ss (S.vs.getD n [])=0∧S.vs.length=l.length:=by
 obtain⟨sh,rfl,_,_,hc,_,hf,_⟩:=cK h
 have f:=eK.1 hf
 have h1:bA (gX l n).rs (gX l n).gs (gX l n).ss=0:=fV hc n hn
 have h2:dX (gX l n).rs (S.vs.getD n [])=0:=if_pos (f.vn n hn)
 refine⟨?_,f.vs⟩
 unfold tV
 rw[h1,h2]
 rfl
theorem gotB_pan (b:Bool) (x:Int) (hx:¬x=0) (w:World):Calls Tryz.prog 177 #[.bool b,.int .i64 x] w fun e' w'=>e'=.panicked [{v:=.iface 22 (.int .i64 x),recovered:=false}]∧Below w.heap.size w w':=by
 go_enter Tryz.func177,Tryz.ntmps177
 go_wp2_with fail
 refine(cF [x] 0 x _ 1 _ (by simp) (by simp) (by simp) rfl hx (cD _ _ _ (by simp))).mono ?_
 rintro e w' ⟨rfl,rfl⟩
 go_wp2
 exact⟨rfl,rfl,aA (Below.refl _ _) _⟩
variable (la:Option Addr) (lc:Nat) (l:List TxA) (q:Q4) (S:SA)
theorem res1_ok (m:Int) (p z:Nat) (w:World) (p0:w.cell? ⟨p,0,none⟩=some (.int .i64 m)) (p1:w.cell? ⟨p,1,none⟩=some (.slice la l.length lc)) (z0:w.cell? ⟨z,0,none⟩=some (.slice q.sa q.sn q.sc)) (z1:w.cell? ⟨z,1,none⟩=some (.slice q.ra q.rn q.rc)) (z2:w.cell? ⟨z,2,none⟩=some (.slice q.wa q.wn q.tc)) (z3:w.cell? ⟨z,3,none⟩=some (.slice q.va q.vn q.vc)) (hl:IsTxs w la l) (hs:StaQ S q w) (hst:dB m l S=0) (hov:jW m l S=true) :
  Calls Tryz.prog 183 #[.pointer (some ⟨p,0,none⟩),.pointer (some ⟨z,0,none⟩)] w fun e w'=>∃v rl,e=.returned v∧ResRow w.heap.size w' v rl∧rl.map RsA.told=gL l S l.length∧Below w.heap.size w w':=by
 have hl8:l.length≤8:=by
  obtain⟨sh,_,_,_,hc,_⟩:=cK hst
  exact fE hc
 have CV:Hid (Calls Tryz.prog 178 #[.agg #[.int .i64 m,.slice la l.length lc],.agg #[.slice q.sa q.sn q.sc,.slice q.ra q.rn q.rc,.slice q.wa q.wn q.tc,.slice q.va q.vn q.vc]] w fun e w'=>e=.returned (.tuple #[.bool true,.int .i64 0])∧Below w.heap.size w w'):=by
  have h:=over_q (m:=m) (c:=lc) hl hs
  rw[hst,hov]at h
  exact h
 have HL:Hid (IsTxs w la l):=hl
 have HV:Hid (IsII w q.va S.vs):=hs.2.2.2.2.vs
 have HN:Hid (q.vn=S.vs.length):=hs.2.2.2.1
 have HST:Hid (dB m l S=0):=hst
 have Z3:Hid (w.cell? ⟨z,3,none⟩=some (.slice q.va q.vn q.vc)):=z3
 clear hl hs hst hov
 go_enter Tryz.func183,Tryz.ntmps183
 go_wp2_with fail
 refine CV.out.mono ?_
 rintro e w1 ⟨rfl,hb1⟩
 go_wp2_with fail
 refine(xH _ _).mono ?_
 rintro e w2 ⟨rfl,rfl⟩
 have gA:Below w.heap.size w (w1.alloc (.cells #[.int .i64 0] 22)):=aC hb1 (aA (Below.refl _ _) _)
 have p1:=aB gA p1
 have B2:Hid (Below w.heap.size w (w1.alloc (.cells #[.int .i64 0] 22))):=gA
 clear gA hb1 CV p0 z0 z1 z2 z3
 generalize w1.alloc (.cells #[.int .i64 0] 22)=W at *
 go_wp2
 clear p1
 go_loopw [3,21] (fun v i wr=>∃(k:Nat) (rl:List RsA),k≤l.length∧i=.int .i64 k∧Hid (ResRow w.heap.size wr v rl)∧Hid (rl.map RsA.told=gL l S k)∧Hid (Below w.heap.size w wr)) (fun _ i _=>l.length - (intOf i).toNat)
 case atStart=>exact⟨0,[],Nat.zero_le _,rfl,mH _ _,rfl,B2⟩
 case round=>
  clear B2
  obtain⟨k,rl,hk,rfl,hres,htold,hbl⟩:=hrel
  by_cases hlt:k<l.length
  ·obtain⟨b,off,rfl,hb,c0,c1,c2,hx⟩:=HL.out k hlt
   have d0:=aB hbl.out c0
   have d1:=aB hbl.out c1
   have d2:=aB hbl.out c2
   obtain⟨hrun,hvl⟩:=st_runE HST.out hlt
   obtain⟨vb,vo,za,zc,hva,hvb,r0,hz,hzn⟩:=HV.out k (by omega)
   have HX:Hid (IsX w (gX l k)):=hx
   have HT:Hid (gL l S (k+1)=gL l S k++[(cW (S.vs.getD k []) (gX l k).gs,S.vs.getD k [])]):=resL_step l S k
   have HR1:Hid ((gL l S k).length=k):=resL_len l S k
   have HZ:Hid (IsInts w za (S.vs.getD k [])):=hz
   have z3:=Z3.out
   have hvn:k<q.vn:=by rw[HN.out];omega
   rw[hva]at z3
   change wr.cell? ⟨b,off+k*3,none⟩=some (.slice (gX l k).ra (gX l k).rs.length (gX l k).rc) at d0
   change wr.cell? ⟨b,off+k*3+1,none⟩=some (.slice (gX l k).ga (gX l k).gs.length (gX l k).gc) at d1
   change wr.cell? ⟨b,off+k*3+2,none⟩=some (.slice (gX l k).sa (gX l k).ss.length (gX l k).sc) at d2
   generalize gX l k=x at *
   obtain⟨ra,ga,sa,rc,gc,sc,rs,gs,ss⟩:=x
   simp only at d0 d1 d2 hrun HT
   generalize S.vs.getD k []=Z at *
   have e1:runD rs gs ss Z=cW Z gs:=if_pos hrun
   have e2:zU rs gs ss Z=Z:=if_pos hrun
   generalize hD:cW Z gs=D at *
   obtain⟨M,hM⟩:∃M,M=(runM rs gs ss Z).length:=⟨_,rfl⟩
   have CX:Hid (∀w',Below w.heap.size w w'→Calls Tryz.prog 184 #[.agg #[.slice ra rs.length rc,.slice ga gs.length gc,.slice sa ss.length sc],.slice za Z.length zc] w' fun e w''=>∃va vc ma mc,e=.returned (.tuple #[.agg #[.bool D,.slice va Z.length vc],.slice ma M mc,.int .i64 0])∧IsAt w'.heap.size w''.heap.size w'' va Z∧Below w'.heap.size w' w''):=fun w' hb=>by
    have h:=mB ra ga sa rc gc sc rs gs ss za zc Z w' (HX.out.t.below hb) (HZ.out.below hb) hzn
    rw[e1,e2,hrun,←hM]at h
    refine h.mono ?_
    rintro e w'' ⟨va,vc,ma,mc,rfl,h1,_,h2⟩
    exact⟨va,vc,ma,mc,rfl,h1,h2⟩
   have hrl:rl.length≤100:=by
    have h:=congrArg List.length htold.out
    rw[List.length_map,HR1.out]at h
    omega
   have z3:=aB hbl.out z3
   have r0:=aB hbl.out r0
   clear c0 c1 c2 hx hz hrun e1 e2 hM HX HZ hb hvb hzn hva
   go_upto_region 7 with fail
   have gV:Below wr.heap.size wr (wr.alloc (.cells #[.slice ra rs.length rc,.slice ga gs.length gc,.slice sa ss.length sc] 95)):=aA (Below.refl _ _) _
   have x0':(wr.alloc (.cells #[.slice ra rs.length rc,.slice ga gs.length gc,.slice sa ss.length sc] 95)).cell? ⟨wr.heap.size,0,none⟩=some (.slice ra rs.length rc):=aG _ _ 95 _ 0 _ rfl rfl
   have x1':(wr.alloc (.cells #[.slice ra rs.length rc,.slice ga gs.length gc,.slice sa ss.length sc] 95)).cell? ⟨wr.heap.size,1,none⟩=some (.slice ga gs.length gc):=aG _ _ 95 _ 1 _ rfl rfl
   have x2':(wr.alloc (.cells #[.slice ra rs.length rc,.slice ga gs.length gc,.slice sa ss.length sc] 95)).cell? ⟨wr.heap.size,2,none⟩=some (.slice sa ss.length sc):=aG _ _ 95 _ 2 _ rfl rfl
   have z3:=aB gV z3
   have r0:=aB gV r0
   have hresV:Hid (ResRow w.heap.size (wr.alloc (.cells #[.slice ra rs.length rc,.slice ga gs.length gc,.slice sa ss.length sc] 95)) u3 rl):=hres.out.below gV
   have hblV:Hid (Below w.heap.size w (wr.alloc (.cells #[.slice ra rs.length rc,.slice ga gs.length gc,.slice sa ss.length sc] 95))):=aC hbl.out gV
   have hown:Hid (∀j,u3.ownBlock=some j→w.heap.size≤j∧j<(wr.alloc (.cells #[.slice ra rs.length rc,.slice ga gs.length gc,.slice sa ss.length sc] 95)).heap.size):=fun j hj=>hresV.out.1.lt j hj
   clear gV d0 d1 d2 hres hbl
   generalize (wr.alloc (.cells #[.slice ra rs.length rc,.slice ga gs.length gc,.slice sa ss.length sc] 95))=V at *
   generalize wr.heap.size=X at *
   have KS:Hid (∀w',Below V.heap.size V w'→w'.cell? ⟨X,0,none⟩=some (.slice ra rs.length rc)∧w'.cell? ⟨X,1,none⟩=some (.slice ga gs.length gc)∧w'.cell? ⟨X,2,none⟩=some (.slice sa ss.length sc)∧w'.cell? ⟨z,3,none⟩=some (.slice (some ⟨vb,vo,none⟩) q.vn q.vc)∧w'.cell? ⟨vb,vo+k,none⟩=some (.slice za Z.length zc)):=fun w' hb=>⟨aB hb x0',aB hb x1',aB hb x2',aB hb z3,aB hb r0⟩
   clear x0' x1' x2' z3 r0
   refine wp_region_held_drew (S:=(fun w'=>w'.cell? ⟨X,0,none⟩=some (.slice ra rs.length rc)∧w'.cell? ⟨X,1,none⟩=some (.slice ga gs.length gc)∧w'.cell? ⟨X,2,none⟩=some (.slice sa ss.length sc)∧w'.cell? ⟨z,3,none⟩=some (.slice (some ⟨vb,vo,none⟩) q.vn q.vc)∧w'.cell? ⟨vb,vo+k,none⟩=some (.slice za Z.length zc))) (by kernel_rfl) ?_ (fun hHeld=>?_)
   ·refine KS.out _ ?_
    exact aD (Below.refl _ _)
   refine tk 0 ?_
   refine tk 1 ?_
   refine tk 2 ?_
   refine tk 3 ?_
   refine tk 4 ?_
   refine tk 5 ?_
   refine wpAnyH_ready (rs:=[6,11]) (by kernel_rfl) (by simp) ?_
   refine Go.Proofs.YtcgpkonfneofdaaGreatDoor.rc (fun K hK=>?_) (Go.Proofs.YtcgpkonfneofdaaGreatDoor.rc (fun K hK=>?_) AllReadyH.nil)
   ·go_simp
    go_wp2_with (go_at_call 184;refine(CX.out _ (aC hblV.out (aD (Below.refl _ _)))).mono ?_;rintro e w3 ⟨va,vc,ma,mc,rfl,hva,hb3⟩)
    have B3:Hid (Below V.heap.size V w3):=aC (aD (Below.refl _ _)) hb3
    clear hHeld
    refine hK.out _ _ (KS.out _ B3.out) (fun hHeld=>?_)
    clear hK K
    refine tk 7 ?_
    refine tk 8 ?_
    refine tk 9 ?_
    refine tk 10 ?_
    refine r1 11 (fun K hK=>?_)
    go_simp
    skip
    clear hHeld
    refine hK.out _ _ (KS.out _ (aA B3.out _)) (fun hHeld=>?_)
    clear hK K
    refine r1 12 (fun K hK=>?_)
    go_simp
    have FB:Hid (Below V.heap.size V (w3.alloc (.cells #[.bool D,.slice va Z.length vc] 148))):=aA B3.out _
    clear hHeld
    refine hK.out _ _ (KS.out _ FB.out) (fun hHeld=>?_)
    clear hK K
    refine tk 13 ?_
    refine tk 14 ?_
    refine wpAnyH_done (by kernel_rfl) ?_ _
    have g0:(w3.alloc (.cells #[.bool D,.slice va Z.length vc] 148)).cell? ⟨w3.heap.size,0,none⟩=some (.bool D):=aG _ _ 148 _ 0 _ rfl rfl
    have g1:(w3.alloc (.cells #[.bool D,.slice va Z.length vc] 148)).cell? ⟨w3.heap.size,1,none⟩=some (.slice va Z.length vc):=aG _ _ 148 _ 1 _ rfl rfl
    have FI:Hid (IsAt V.heap.size (w3.alloc (.cells #[.bool D,.slice va Z.length vc] 148)).heap.size (w3.alloc (.cells #[.bool D,.slice va Z.length vc] 148)) va Z):=(hva.below (aA (Below.refl _ _) _)).widen (by simp) (by simp)
    clear hHeld hva hb3 B3 KS CX
    generalize (w3.alloc (.cells #[.bool D,.slice va Z.length vc] 148))=WF at *
    have hresW:Hid (ResRow w.heap.size WF u3 rl):=hresV.out.below FB.out
    have hblW:Hid (Below w.heap.size w WF):=aC hblV.out FB.out
    go_wp2_with fail
    refine(aO [0] _ 1 _ (by simp) rfl (cD _ _ _ (by simp))).mono ?_
    rintro e w4 ⟨rfl,rfl⟩
    have gU:Below WF.heap.size WF (WF.alloc (.cells #[.int .i64 0] 22)):=aA (Below.refl _ _) _
    have g0:=aB gU g0
    have g1:=aB gU g1
    have hresU:Hid (ResRow w.heap.size (WF.alloc (.cells #[.int .i64 0] 22)) u3 rl):=hresW.out.below gU
    have hblU:Hid (Below w.heap.size w (WF.alloc (.cells #[.int .i64 0] 22))):=aC hblW.out gU
    have FU:Hid (IsAt V.heap.size (WF.alloc (.cells #[.int .i64 0] 22)).heap.size (WF.alloc (.cells #[.int .i64 0] 22)) va Z):=(FI.out.below gU).widen (Nat.le_refl _) gU.size
    have hVw:Hid (w.heap.size≤V.heap.size):=hblV.out.size
    clear gU hresW hblW FI FB
    generalize (WF.alloc (.cells #[.int .i64 0] 22))=U at *
    have hfar:Hid (∀{zs:List Int} {q:Option Addr},IsAt V.heap.size U.heap.size U q zs→zs≠[]→∀ad,q=some ad→u3.ownBlock≠some ad.block):=fun h hne ad had e=>by
     obtain⟨b,off,ha',h1,_,_⟩:=h 0 (List.length_pos_iff.2 hne)
     rw[had]at ha'
     injection ha' with ha'
     subst ha'
     have:=(hown.out _ e).2
     simp at this
     omega
    go_wp2_with (first
     | (at_builtin;refine jG rfl _ _ rfl w.heap.size u3 rl ⟨va,vc,D,Z⟩ rfl (hresU.out.below (aA (Below.refl _ _) _)) ⟨U.heap.size,0,none⟩ 1 rfl (wX U D _ _ rfl) (((FU.out.below (aA (Below.refl _ _) _))).widen hVw.out (by simp)) (hfar.out FU.out) hrl (Nat.le_trans hblU.out.size (by simp)) ?_;intro v' w5 hres5 hg5)
     | go_in)
    have n2:Hid (ResRow w.heap.size w5 v' (rl++[⟨va,vc,D,Z⟩])):=hres5
    have n3:Hid ((rl++[(⟨va,vc,D,Z⟩:RsA)]).map RsA.told=gL l S (k+1)):=by show _=_;rw[HT.out,List.map_append,htold.out];rfl
    have n4:Hid (Below w.heap.size w w5):=(aA hblU.out _).grown hg5 (Nat.le_trans hblU.out.size (by simp)) (fun j e=>(hown.out j e).1)
    clear hres5 hg5 hresU hblU hfar g0 g1 FU
    go_wp2
    go_roundw
    case rel=>exact⟨k+1,rl++[⟨va,vc,D,Z⟩],by omega,by go_num,n2,n3,n4⟩
    case measure=>simp[intOf];omega
   ·go_simp
    clear hHeld
    refine hK.out _ _ (KS.out _ (aD (aA (Below.refl _ _) _))) (fun hHeld=>?_)
    clear hK K
    refine r1 6 (fun K hK=>?_)
    go_simp
    go_wp2_with (go_at_call 184;refine(CX.out _ (aC hblV.out (aD (aA (Below.refl _ _) _)))).mono ?_;rintro e w3 ⟨va,vc,ma,mc,rfl,hva,hb3⟩)
    have B3:Hid (Below V.heap.size V w3):=aC (aD (aA (Below.refl _ _) _)) hb3
    have f0:w3.cell? ⟨V.heap.size,0,none⟩=some (.bool false):=aB hb3 (aG V _ 148 _ 0 _ rfl rfl)
    have f1:w3.cell? ⟨V.heap.size,1,none⟩=some (.slice none 0 0):=aB hb3 (aG V _ 148 _ 1 _ rfl rfl)
    have ff:∀j,w3.frozen? ⟨V.heap.size,j,none⟩=false:=fun j=>(hb3.frozen (p:=⟨V.heap.size,j,none⟩) (by simp)).trans (cO V _ 148 _ j rfl)
    have FB:Hid (Below V.heap.size V ((w3.setCell ⟨V.heap.size,0,none⟩ (.bool D)).setCell ⟨V.heap.size,1,none⟩ (.slice va Z.length vc))):=aI (aI B3.out (Nat.le_refl _) _) (Nat.le_refl _) _
    clear hHeld
    refine hK.out _ _ (KS.out _ B3.out) (fun hHeld=>?_)
    clear hK K
    refine tk 7 ?_
    refine tk 8 ?_
    refine tk 9 ?_
    refine tk 10 ?_
    refine r1 12 (fun K hK=>?_)
    go_simp
    skip
    clear hHeld
    refine hK.out _ _ (KS.out _ FB.out) (fun hHeld=>?_)
    clear hK K
    refine tk 13 ?_
    refine tk 14 ?_
    refine wpAnyH_done (by kernel_rfl) ?_ _
    have g0:((w3.setCell ⟨V.heap.size,0,none⟩ (.bool D)).setCell ⟨V.heap.size,1,none⟩ (.slice va Z.length vc)).cell? ⟨V.heap.size,0,none⟩=some (.bool D):=aE (by decide) (aK f0)
    have g1:((w3.setCell ⟨V.heap.size,0,none⟩ (.bool D)).setCell ⟨V.heap.size,1,none⟩ (.slice va Z.length vc)).cell? ⟨V.heap.size,1,none⟩=some (.slice va Z.length vc):=aK (aE (by decide) f1)
    have FI:Hid (IsAt V.heap.size ((w3.setCell ⟨V.heap.size,0,none⟩ (.bool D)).setCell ⟨V.heap.size,1,none⟩ (.slice va Z.length vc)).heap.size ((w3.setCell ⟨V.heap.size,0,none⟩ (.bool D)).setCell ⟨V.heap.size,1,none⟩ (.slice va Z.length vc)) va Z):=((hva.set ⟨V.heap.size,0,none⟩ _ (.inl (by simp))).set ⟨V.heap.size,1,none⟩ _ (.inl (by simp))).widen (by simp) (by simp)
    clear hHeld f0 f1 ff hva hb3 B3 KS CX
    generalize ((w3.setCell ⟨V.heap.size,0,none⟩ (.bool D)).setCell ⟨V.heap.size,1,none⟩ (.slice va Z.length vc))=WF at *
    have hresW:Hid (ResRow w.heap.size WF u3 rl):=hresV.out.below FB.out
    have hblW:Hid (Below w.heap.size w WF):=aC hblV.out FB.out
    go_wp2_with fail
    refine(aO [0] _ 1 _ (by simp) rfl (cD _ _ _ (by simp))).mono ?_
    rintro e w4 ⟨rfl,rfl⟩
    have gU:Below WF.heap.size WF (WF.alloc (.cells #[.int .i64 0] 22)):=aA (Below.refl _ _) _
    have g0:=aB gU g0
    have g1:=aB gU g1
    have hresU:Hid (ResRow w.heap.size (WF.alloc (.cells #[.int .i64 0] 22)) u3 rl):=hresW.out.below gU
    have hblU:Hid (Below w.heap.size w (WF.alloc (.cells #[.int .i64 0] 22))):=aC hblW.out gU
    have FU:Hid (IsAt V.heap.size (WF.alloc (.cells #[.int .i64 0] 22)).heap.size (WF.alloc (.cells #[.int .i64 0] 22)) va Z):=(FI.out.below gU).widen (Nat.le_refl _) gU.size
    have hVw:Hid (w.heap.size≤V.heap.size):=hblV.out.size
    clear gU hresW hblW FI FB
    generalize (WF.alloc (.cells #[.int .i64 0] 22))=U at *
    have hfar:Hid (∀{zs:List Int} {q:Option Addr},IsAt V.heap.size U.heap.size U q zs→zs≠[]→∀ad,q=some ad→u3.ownBlock≠some ad.block):=fun h hne ad had e=>by
     obtain⟨b,off,ha',h1,_,_⟩:=h 0 (List.length_pos_iff.2 hne)
     rw[had]at ha'
     injection ha' with ha'
     subst ha'
     have:=(hown.out _ e).2
     simp at this
     omega
    go_wp2_with (first
     | (at_builtin;refine jG rfl _ _ rfl w.heap.size u3 rl ⟨va,vc,D,Z⟩ rfl (hresU.out.below (aA (Below.refl _ _) _)) ⟨U.heap.size,0,none⟩ 1 rfl (wX U D _ _ rfl) (((FU.out.below (aA (Below.refl _ _) _))).widen hVw.out (by simp)) (hfar.out FU.out) hrl (Nat.le_trans hblU.out.size (by simp)) ?_;intro v' w5 hres5 hg5)
     | go_in)
    have n2:Hid (ResRow w.heap.size w5 v' (rl++[⟨va,vc,D,Z⟩])):=hres5
    have n3:Hid ((rl++[(⟨va,vc,D,Z⟩:RsA)]).map RsA.told=gL l S (k+1)):=by show _=_;rw[HT.out,List.map_append,htold.out];rfl
    have n4:Hid (Below w.heap.size w w5):=(aA hblU.out _).grown hg5 (Nat.le_trans hblU.out.size (by simp)) (fun j e=>(hown.out j e).1)
    clear hres5 hg5 hresU hblU hfar g0 g1 FU
    go_wp2
    go_roundw
    case rel=>exact⟨k+1,rl++[⟨va,vc,D,Z⟩],by omega,by go_num,n2,n3,n4⟩
    case measure=>simp[intOf];omega
  ·have hkk:k=l.length:=by omega
   have n3:Hid (rl.map RsA.told=gL l S l.length):=by
    have h:=htold.out
    rw[hkk]at h
    exact h
   have hlt':¬k<l.length:=hlt
   clear htold
   go_wp2
   go_ret
   exact⟨_,rl,rfl,hres.out,n3.out,hbl.out⟩
theorem res1_pan (m:Int) (p z:Nat) (w:World) (p0:w.cell? ⟨p,0,none⟩=some (.int .i64 m)) (p1:w.cell? ⟨p,1,none⟩=some (.slice la l.length lc)) (z0:w.cell? ⟨z,0,none⟩=some (.slice q.sa q.sn q.sc)) (z1:w.cell? ⟨z,1,none⟩=some (.slice q.ra q.rn q.rc)) (z2:w.cell? ⟨z,2,none⟩=some (.slice q.wa q.wn q.tc)) (z3:w.cell? ⟨z,3,none⟩=some (.slice q.va q.vn q.vc)) (hl:IsTxs w la l) (hs:StaQ S q w) (hE:¬mG m l S=0) :
  Calls Tryz.prog 183 #[.pointer (some ⟨p,0,none⟩),.pointer (some ⟨z,0,none⟩)] w fun e w'=>e=.panicked [{v:=.iface 22 (.int .i64 (mG m l S)),recovered:=false}]∧Below w.heap.size w w':=by
 have CV:Hid (Calls Tryz.prog 178 #[.agg #[.int .i64 m,.slice la l.length lc],.agg #[.slice q.sa q.sn q.sc,.slice q.ra q.rn q.rc,.slice q.wa q.wn q.tc,.slice q.va q.vn q.vc]] w fun e w'=>e=.returned (.tuple #[.bool (jW m l S),.int .i64 (dB m l S)])∧Below w.heap.size w w'):=over_q (m:=m) (c:=lc) hl hs
 clear hl hs
 by_cases hst:dB m l S=0
 ·have e0:jW m l S=false:=by
   cases c:jW m l S with
   | false=>rfl
   | true=>exact absurd (by unfold mG;rw[if_pos hst,c];rfl) hE
  have e1:mG m l S=8:=by unfold mG;rw[if_pos hst,e0];rfl
  rw[hst,e0]at CV
  rw[e1]
  clear e0 e1 hst hE
  go_enter Tryz.func183,Tryz.ntmps183
  go_wp2_with fail
  refine CV.out.mono ?_
  rintro e w1 ⟨rfl,hb1⟩
  go_wp2_with fail
  refine(xH _ _).mono ?_
  rintro e w2 ⟨rfl,rfl⟩
  have gA:Hid (Below w.heap.size w (w1.alloc (.cells #[.int .i64 0] 22))):=aC hb1 (aA (Below.refl _ _) _)
  clear hb1
  generalize w1.alloc (.cells #[.int .i64 0] 22)=W at *
  go_wp2_with fail
  refine(cF [8] 0 8 _ 1 _ (by simp) (by simp) (by simp) rfl (by decide) (cD _ _ _ (by simp))).mono ?_
  rintro e w3 ⟨rfl,rfl⟩
  go_wp2
  exact⟨rfl,rfl,aA gA.out _⟩
 ·have e1:mG m l S=dB m l S:=if_neg hst
  rw[e1]
  have HE:Hid (¬dB m l S=0):=hst
  clear e1 hst hE
  generalize hx:dB m l S=x at *
  go_enter Tryz.func183,Tryz.ntmps183
  go_wp2_with fail
  refine CV.out.mono ?_
  rintro e w1 ⟨rfl,hb1⟩
  go_wp2_with fail
  refine(gotB_pan _ x HE.out _).mono ?_
  rintro e w2 ⟨rfl,hb2⟩
  go_wp2
  exact⟨rfl,rfl,aC hb1 hb2⟩
theorem pI (m:Int) (w:World) (hl:IsTxs w la l) (hs:StaQ S q w) :
  Calls Tryz.prog 154 #[.agg #[.int .i64 m,.slice la l.length lc],.agg #[.slice q.sa q.sn q.sc,.slice q.ra q.rn q.rc,.slice q.wa q.wn q.tc,.slice q.va q.vn q.vc]] w fun e w'=>∃xa xc,e=.returned (.tuple #[.slice xa (kN m l S).length xc,.int .i64 (mG m l S)])∧IsRes w' xa (kN m l S)∧Below w.heap.size w w':=by
 have hmf:∀(fn:Fn) (first cap:Array Value) (w:World),(Instr.makeFunc fn first cap).run Tryz.prog w=.ok (.func fn first cap) w:=fun _ _ _ _=>rfl
 obtain⟨W,hWe⟩:∃W:World,W=((w.alloc (.cells #[.int .i64 m,.slice la l.length lc] 29)).alloc (.cells #[.slice q.sa q.sn q.sc,.slice q.ra q.rn q.rc,.slice q.wa q.wn q.tc,.slice q.va q.vn q.vc] 45)):=⟨_,rfl⟩
 have hU:Hid (Below w.heap.size w W):=by subst hWe;exact(aA (aA (Below.refl _ _) _) _)
 have p0:W.cell? ⟨w.heap.size,0,none⟩=some (.int .i64 m):=by subst hWe;exact aB (aA (Below.refl _ _) _) (aG _ _ 29 _ 0 _ rfl rfl)
 have p1:W.cell? ⟨w.heap.size,1,none⟩=some (.slice la l.length lc):=by subst hWe;exact aB (aA (Below.refl _ _) _) (aG _ _ 29 _ 1 _ rfl rfl)
 have z0:W.cell? ⟨w.heap.size+1,0,none⟩=some (.slice q.sa q.sn q.sc):=by subst hWe;exact aG _ _ 45 _ 0 _ (by simp) rfl
 have z1:W.cell? ⟨w.heap.size+1,1,none⟩=some (.slice q.ra q.rn q.rc):=by subst hWe;exact aG _ _ 45 _ 1 _ (by simp) rfl
 have z2:W.cell? ⟨w.heap.size+1,2,none⟩=some (.slice q.wa q.wn q.tc):=by subst hWe;exact aG _ _ 45 _ 2 _ (by simp) rfl
 have z3:W.cell? ⟨w.heap.size+1,3,none⟩=some (.slice q.va q.vn q.vc):=by subst hWe;exact aG _ _ 45 _ 3 _ (by simp) rfl
 have CC:Hid (Calls Tryz.prog 182 #[.func (.func 183) #[] #[.pointer (some ⟨w.heap.size,0,none⟩),.pointer (some ⟨w.heap.size+1,0,none⟩)]] W fun e w'=>∃xa xc,e=.returned (.tuple #[.slice xa (kN m l S).length xc,.int .i64 (mG m l S)])∧IsRes w' xa (kN m l S)∧Below W.heap.size W w'):=by
  have g:Below W.heap.size W (W.alloc (.cells #[.int .i64 0] 22)):=aA (Below.refl _ _) _
  have p0:=aB g p0
  have p1:=aB g p1
  have z0:=aB g z0
  have z1:=aB g z1
  have z2:=aB g z2
  have z3:=aB g z3
  have hl':=hl.below (aC hU.out g)
  have hs':=hs.below (aC hU.out g)
  by_cases hE:mG m l S=0
  ·have e1:kN m l S=gL l S l.length:=if_pos hE
   have hst:dB m l S=0:=by
    by_cases c:dB m l S=0
    ·exact c
    ·have:mG m l S=dB m l S:=if_neg c
     omega
   have hov:jW m l S=true:=by
    cases c:jW m l S with
    | true=>rfl
    | false=>
     have:mG m l S=8:=by unfold mG;rw[if_pos hst,c];rfl
     omega
   rw[e1,hE]
   refine(yB 183 _ (fun _=>rfl) (fun v w'=>∃rl,ResRow (W.heap.size+1) w' v rl∧rl.map RsA.told=gL l S l.length) W (fun v w' h=>?_) ((res1_ok la lc l q S m _ _ _ p0 p1 z0 z1 z2 z3 hl' hs' hst hov).mono ?_)).mono ?_
   ·obtain⟨rl,h1,h2⟩:=h
    exact⟨rl,h1.kept (aP w' _ 0 _) (fun j e=>by injection e with e;omega),h2⟩
   ·rintro e w' ⟨v,rl,rfl,h1,h2,hb⟩
    exact⟨v,rfl,⟨rl,by simpa using h1,h2⟩,oI hb⟩
   ·rintro e w' ⟨v,rfl,⟨rl,h1,h2⟩,hb⟩
    obtain⟨xa,xc,rfl,h⟩:=h1.res
    rw[h2]at h ⊢
    exact⟨xa,xc,rfl,h,hb⟩
  ·have e1:kN m l S=[]:=if_neg hE
   rw[e1]
   refine(yC 183 _ (fun _=>rfl) _ W (pan_up (res1_pan la lc l q S m _ _ _ p0 p1 z0 z1 z2 z3 hl' hs' hE))).mono ?_
   rintro e w' ⟨rfl,hb⟩
   exact⟨none,0,rfl,fun _ hi=>absurd hi (Nat.not_lt_zero _),hb⟩
 have HWe:Hid (W=_):=hWe
 clear p0 p1 z0 z1 z2 z3 hl hs hWe
 go_enter Tryz.func154,Tryz.ntmps154
 go_upto_region 1 with fail
 rw[←HWe.out]
 clear HWe
 go_wp2_with fail
 refine CC.out.mono ?_
 clear CC
 rintro e w1 ⟨xa,xc,rfl,h,hb⟩
 have B1:Hid (Below w.heap.size w w1):=aC hU.out hb
 have H1:Hid (IsRes w1 xa (kN m l S)):=h
 clear hb h
 go_wp2
 go_ret2
 exact⟨xa,xc,rfl,H1.out,B1.out⟩
end
end Go.Proofs.YtcgpkonfneofdaaGreatDoor
