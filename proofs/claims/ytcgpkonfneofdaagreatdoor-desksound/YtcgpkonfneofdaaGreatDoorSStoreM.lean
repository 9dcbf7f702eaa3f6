/- Conditions: those that each theorem states. -/
import Derived.Test.YtcgpkonfneofdaaGreatDoorSHallJ
set_option maxRecDepth 100000
set_option maxHeartbeats 8000000
namespace Go.Proofs.YtcgpkonfneofdaaGreatDoor
open Go.RowKit
section
def SO (C:Nat) (w:World) (ea:Option Addr) (ec:Nat) (xa:Option Addr) (xc:Nat) (E:List Int) (R:List (Bool×List Int)):Prop:=
 IsAt C w.heap.size w ea E∧(ea=none→ec=0)∧∃rl,ResRow C w (.slice xa R.length xc) rl∧rl.map RsA.told=R
theorem SO.set {C:Nat} {w:World} {ea xa:Option Addr} {ec xc:Nat} {E:List Int} {R:List (Bool×List Int)} (h:SO C w ea ec xa xc E R) (b i:Nat) (v:Value) (hb:b<C):SO C (w.setCell ⟨b,i,none⟩ v) ea ec xa xc E R:=by
 obtain⟨h1,h2,rl,h3,h4⟩:=h
 exact⟨(h1.set ⟨b,i,none⟩ v (.inl hb)).widen (Nat.le_refl _) (by simp),h2,rl,h3.kept (aP w b i v) (fun j e=>by injection e with e;omega),h4⟩
theorem SO.below {C:Nat} {w w':World} {ea xa:Option Addr} {ec xc:Nat} {E:List Int} {R:List (Bool×List Int)} (h:SO C w ea ec xa xc E R) (hb:Below w.heap.size w w'):SO C w' ea ec xa xc E R:=by
 obtain⟨h1,h2,rl,h3,h4⟩:=h
 exact⟨(h1.below hb).widen (Nat.le_refl _) hb.size,h2,rl,h3.below hb,h4⟩
theorem SO.mono {C C':Nat} {w:World} {ea xa:Option Addr} {ec xc:Nat} {E:List Int} {R:List (Bool×List Int)} (h:SO C w ea ec xa xc E R) (hc:C'≤C):SO C' w ea ec xa xc E R:=by
 obtain⟨h1,h2,rl,h3,h4⟩:=h
 exact⟨h1.widen hc (Nat.le_refl _),h2,rl,pJ h3 hc,h4⟩
theorem SO.ints {C:Nat} {w:World} {ea xa:Option Addr} {ec xc:Nat} {E:List Int} {R:List (Bool×List Int)} (h:SO C w ea ec xa xc E R):IsInts w ea E:=h.1.ints (Nat.le_refl _)
theorem SO.res {C:Nat} {w:World} {ea xa:Option Addr} {ec xc:Nat} {E:List Int} {R:List (Bool×List Int)} (h:SO C w ea ec xa xc E R):IsRes w xa R:=by
 obtain⟨h1,h2,rl,h3,h4⟩:=h
 obtain⟨a,cap,he,hr⟩:=h3.res
 injection he with e1 e2 e3
 subst e1
 rw[h4]at hr
 exact hr
theorem so_none (C:Nat) (w:World):SO C w none 0 none 0 [] []:=⟨fun i hi=>absurd hi (by simp),fun _=>rfl,[],mH _ _,rfl⟩
def bK (s:List Int):Int:=if s.length=8 then 0 else 1
theorem cC (s:List Int) (sa:Option Addr) (sc:Nat) (w:World) :
  Calls Tryz.prog 78 #[.slice sa s.length sc] w fun e w'=>e=.returned (.int .i64 (bK s))∧w'=w:=rG s sa sc w
def fZ (s:List Int) (l:List TxA):Int:=aF [bK s,dD l]
theorem jI {s:List Int} {l:List TxA} (h:fZ s l=0):s.length=8∧dD l=0:=by
 have h':=aR _ h
 have h0:bK s=0:=by simpa using h' 0
 unfold bK at h0
 refine⟨?_,by simpa using h' 1⟩
 by_cases c:s.length=8
 ·exact c
 ·rw[if_neg c]at h0;omega
theorem ext2 {W w':World} {p1 p2:Addr} {v1 v2:Value} (hb:Below W.heap.size W w') (q1:W.cell? p1=some v1) (q2:W.cell? p2=some v2) :
  Below W.heap.size W w'∧w'.cell? p1=some v1∧w'.cell? p2=some v2:=⟨hb,aB hb q1,aB hb q2⟩
variable (sa la:Option Addr) (sc lc:Nat) (s:List Int) (l:List TxA)
theorem ser1_pan (p q:Nat) (w:World) (h0:w.cell? ⟨p,0,none⟩=some (.slice sa s.length sc)) (h1:w.cell? ⟨q,0,none⟩=some (.slice la l.length lc)) (hl:IsTxs w la l) (he:¬fZ s l=0) :
  Calls Tryz.prog 223 #[.pointer (some ⟨p,0,none⟩),.pointer (some ⟨q,0,none⟩)] w fun e w'=>e=.panicked [{v:=.iface 22 (.int .i64 (fZ s l)),recovered:=false}]∧Below w.heap.size w w':=by
 have HE:Hid (¬aF [bK s,dD l]=0):=he
 have HV:Hid (fZ s l=aF [bK s,dD l]):=rfl
 clear he
 have hW:Hid (Below w.heap.size w (w.alloc (.cells #[.slice none 0 0,.slice none 0 0] 250))):=aA (Below.refl _ _) _
 have HLW:Hid (IsTxs (w.alloc (.cells #[.slice none 0 0,.slice none 0 0] 250)) la l):=hl.below hW.out
 have y0:=aB hW.out h0
 have y1:=aB hW.out h1
 clear hl h0 h1
 go_enter Tryz.func223,Tryz.ntmps223
 go_wp2_with fail
 generalize w.alloc (.cells #[.slice none 0 0,.slice none 0 0] 250)=W at *
 go_region_held (fun w'=>Below W.heap.size W w'∧w'.cell? ⟨p,0,none⟩=some (.slice sa s.length sc)∧w'.cell? ⟨q,0,none⟩=some (.slice la l.length lc)) ((go_split_ands;refine ext2 ?_ y0 y1;repeat (first | assumption | exact Below.refl _ _ | refine aD ?_ | refine aA ?_ _ | refine aC ?_ (by assumption))))
  (first
   | (go_at_call 78;refine(cC s sa sc _).mono ?_;rintro e w' ⟨rfl,rfl⟩)
   | (go_at_call 64;refine(iD la lc l _ ?_).mono ?_;(refine HLW.out.below ?_;go_split_ands;repeat (first | assumption | exact Below.refl _ _ | refine aD ?_ | refine aA ?_ _ | refine aC ?_ (by assumption)));rintro e w' ⟨rfl,hbx⟩)
   | (go_at_call 15;refine(dM (cH [bK s,dD l] _ 2 _ (by simp) HE.out ?_) (.tuple #[])).mono ?_;(exact iU _ _ _ _ (by simp));rintro e w' (⟨rfl,rfl⟩ | ⟨hF,rfl,rfl⟩);(refine⟨rfl,by rw[HV.out],aC hW.out ?_⟩;go_split_ands;repeat (first | assumption | exact Below.refl _ _ | refine aD ?_ | refine aA ?_ _ | refine aC ?_ (by assumption)))))
 exact(‹Hid False› : Hid False).out.elim
theorem ser1_ok (p q:Nat) (w:World) (h0:w.cell? ⟨p,0,none⟩=some (.slice sa s.length sc)) (h1:w.cell? ⟨q,0,none⟩=some (.slice la l.length lc)) (hs:IsInts w sa s) (hl:IsTxs w la l) (he:fZ s l=0) :
  Calls Tryz.prog 223 #[.pointer (some ⟨p,0,none⟩),.pointer (some ⟨q,0,none⟩)] w fun e w'=>∃ea ec xa xc,e=.returned (.agg #[.slice ea (aU s l).length ec,.slice xa (aT s l).length xc])∧SO w.heap.size w' ea ec xa xc (aU s l) (aT s l)∧Below w.heap.size w w':=by
 have H8:Hid (s.length=8):=(jI he).1
 have HC:Hid (dD l=0):=(jI he).2
 have HE:Hid (aF [bK s,dD l]=0):=he
 have HLN:Hid ((aU s l).length=s.length):=fM _ _
 clear he
 have hW:Hid (Below w.heap.size w (w.alloc (.cells #[.slice none 0 0,.slice none 0 0] 250))):=aA (Below.refl _ _) _
 have HLW:Hid (IsTxs (w.alloc (.cells #[.slice none 0 0,.slice none 0 0] 250)) la l):=hl.below hW.out
 have HSW:Hid (IsInts (w.alloc (.cells #[.slice none 0 0,.slice none 0 0] 250)) sa s):=hs.below hW.out
 have y0:=aB hW.out h0
 have y1:=aB hW.out h1
 have v0:(w.alloc (.cells #[.slice none 0 0,.slice none 0 0] 250)).cell? ⟨w.heap.size,0,none⟩=some (.slice none 0 0):=by simp
 have v1:(w.alloc (.cells #[.slice none 0 0,.slice none 0 0] 250)).cell? ⟨w.heap.size,1,none⟩=some (.slice none 0 0):=by simp
 have vf:∀j,(w.alloc (.cells #[.slice none 0 0,.slice none 0 0] 250)).frozen? ⟨w.heap.size,j,none⟩=false:=fun j=>by simp
 have hqW:w.heap.size<(w.alloc (.cells #[.slice none 0 0,.slice none 0 0] 250)).heap.size:=by simp
 clear hl hs h0 h1
 go_enter Tryz.func223,Tryz.ntmps223
 go_wp2_with fail
 generalize w.alloc (.cells #[.slice none 0 0,.slice none 0 0] 250)=W at *
 go_region_held3 (fun w'=>Below W.heap.size W w'∧w'.cell? ⟨p,0,none⟩=some (.slice sa s.length sc)∧w'.cell? ⟨q,0,none⟩=some (.slice la l.length lc)) ((go_split_ands;refine ext2 ?_ y0 y1;repeat (first | assumption | exact Below.refl _ _ | refine aD ?_ | refine aA ?_ _ | refine aC ?_ (by assumption))))
  (first
   | (go_at_call 78;refine(cC s sa sc _).mono ?_;rintro e w' ⟨rfl,rfl⟩)
   | (go_at_call 64;refine(iD la lc l _ ?_).mono ?_;(refine HLW.out.below ?_;go_split_ands;repeat (first | assumption | exact Below.refl _ _ | refine aD ?_ | refine aA ?_ _ | refine aC ?_ (by assumption)));rintro e w' ⟨rfl,hbx⟩)
   | (go_at_call 15;refine(aO [bK s,dD l] _ 2 _ (by simp) HE.out ?_).mono ?_;(exact iU _ _ _ _ (by simp));rintro e w' ⟨rfl,rfl⟩))
 all_goals (
  go_split_ands
  go_wp2_with fail
  refine(tW sa la sc lc s l _ (HSW.out.below ?_) H8.out (HLW.out.below ?_) HC.out).mono ?_
  ·assumption
  ·assumption
  rintro e w2 ⟨g,cap,xv,rl,rfl,hst,hres,htl,hb2⟩
  obtain⟨xa,xc,hv⟩:∃xa xc,xv=.slice xa rl.length xc:=by
   rcases hres.1.2 with ⟨h,h0⟩ | ⟨g2,cap2,cur,h,_⟩
   ·exact⟨none,0,by rw[h,h0]⟩
   ·exact⟨_,_,h⟩
  subst hv
  have hrl:rl.length=(aT s l).length:=by rw[←htl,List.length_map]
  rw[hrl]at hres ⊢
  rw[←HLN.out]at hst ⊢
  have hb3:Below W.heap.size W w2:=by
   refine aC ?_ hb2
   assumption
  have hso:Hid (SO (w.heap.size+1) w2 (some ⟨g,0,none⟩) cap xa xc (aU s l) (aT s l)):=by
   obtain⟨a',c',he',hi'⟩:=mS hst
   injection he' with e1 e2 e3
   subst e1
   exact SO.mono ⟨hi',(fun h=>by cases h),rl,hres,htl⟩ (Nat.le_trans hqW (Below.size (B:=W.heap.size) (by assumption)))
  have x0:=aB hb3 v0
  have x1:=aB hb3 v1
  have xf:∀j,w2.frozen? ⟨w.heap.size,j,none⟩=false:=fun j=>(hb3.frozen (p:=⟨w.heap.size,j,none⟩) hqW).trans (vf j)
  have B3:Hid (Below w.heap.size w w2):=aC hW.out hb3
  clear hst hres htl hb2 hb3 v0 v1 vf HLW HSW HLN hrl
  go_wp2
  refine bodyPost_ret (v:=.agg #[.slice (some ⟨g,0,none⟩) (aU s l).length cap,.slice xa (aT s l).length xc]) (by simp[results,Tryz.results223,go_sem,x0,x1]) rfl ⟨_,cap,xa,xc,rfl,?_,?_⟩
  ·exact((hso.out.set _ 0 _ (Nat.lt_succ_self _)).set _ 1 _ (Nat.lt_succ_self _)).mono (by omega)
  ·exact aI (aI B3.out (Nat.le_refl _) _) (Nat.le_refl _) _)
theorem oX (p:Addr) (x y:Int) (older:List PanicEntry) (w:World) (hc:w.cell? p=some (.int .i64 y)) (hz:w.frozen? p=false) :
  CallsD Tryz.prog 260 #[.pointer (some p)] (.panicking ({v:=.iface 22 (.int .i64 x),recovered:=false}::older)) w fun e u' w'=>
   e=.returned (.tuple #[])∧u'=.panicking ({v:=.iface 22 (.int .i64 x),recovered:=true}::older)∧w'=w.setCell p (.int .i64 x):=by
 refine callsD_of_wpS Tryz.func260 rfl fun c₀ cs hu=>?_
 apply wpS_seq
 apply wpS_region
 simp[wpOpsS,go_sem,recoverD,hu,Tryz.ntmps260,Exit.thenS]
 apply wpS_seq
 apply wpS_region
 simp[wpOpsS,go_sem,Exit.thenS]
 refine wpS_cond (t:=true) (by simp[Act.eval,Array.replicate]) ?_
 simp only[if_true]
 apply wpS_region
 simp[wpOpsS,go_sem,bG,hc,hz,bodyPostS,results,Tryz.results260]
theorem catchS_idle (p:Addr) (w:World) :
  CallsD Tryz.prog 260 #[.pointer (some p)] .returning w fun e u' w'=>e=.returned (.tuple #[])∧u'=.returning∧w'=w:=by
 refine callsD_of_wpS Tryz.func260 rfl fun c₀ cs hu=>?_
 apply wpS_seq
 apply wpS_region
 simp[wpOpsS,go_sem,recoverD,hu,Tryz.ntmps260,Exit.thenS]
 apply wpS_seq
 apply wpS_region
 simp[wpOpsS,go_sem,Exit.thenS]
 refine wpS_cond (t:=false) (by simp[Act.eval,Array.replicate]) ?_
 simp only[Bool.false_eq_true,if_false]
 refine wpS_of_wp (wp_skip ?_)
 cases c₀
 simp_all [bodyPostS,results,Tryz.results260]
theorem xS (cap:Array Value) (E:List Int) (R:List (Bool×List Int)) (w:World)
  (h:Calls Tryz.prog 223 cap ((w.alloc (.cells #[.slice none 0 0,.slice none 0 0] 250)).alloc (.cells #[.int .i64 0] 22)) fun e w'=>∃ea ec xa xc,e=.returned (.agg #[.slice ea E.length ec,.slice xa R.length xc])∧SO ((w.alloc (.cells #[.slice none 0 0,.slice none 0 0] 250)).alloc (.cells #[.int .i64 0] 22)).heap.size w' ea ec xa xc E R∧Below ((w.alloc (.cells #[.slice none 0 0,.slice none 0 0] 250)).alloc (.cells #[.int .i64 0] 22)).heap.size ((w.alloc (.cells #[.slice none 0 0,.slice none 0 0] 250)).alloc (.cells #[.int .i64 0] 22)) w') :
  Calls Tryz.prog 222 #[.func (.func 223) #[] cap] w fun e w'=>∃ea ec xa xc,e=.returned (.tuple #[.agg #[.slice ea E.length ec,.slice xa R.length xc],.int .i64 0])∧SO w.heap.size w' ea ec xa xc E R∧Below w.heap.size w w':=by
 have hmf:∀(fn:Fn) (first cap:Array Value) (w:World),(Instr.makeFunc fn first cap).run Tryz.prog w=.ok (.func fn first cap) w:=fun _ _ _ _=>rfl
 have H:Hid (Calls Tryz.prog 223 cap ((w.alloc (.cells #[.slice none 0 0,.slice none 0 0] 250)).alloc (.cells #[.int .i64 0] 22)) fun e w'=>∃ea ec xa xc,e=.returned (.agg #[.slice ea E.length ec,.slice xa R.length xc])∧SO ((w.alloc (.cells #[.slice none 0 0,.slice none 0 0] 250)).alloc (.cells #[.int .i64 0] 22)).heap.size w' ea ec xa xc E R∧Below ((w.alloc (.cells #[.slice none 0 0,.slice none 0 0] 250)).alloc (.cells #[.int .i64 0] 22)).heap.size ((w.alloc (.cells #[.slice none 0 0,.slice none 0 0] 250)).alloc (.cells #[.int .i64 0] 22)) w'):=h
 clear h
 go_enter_defers Tryz.func222,Tryz.ntmps222
 go_wp2_with fail
 refine H.out.mono ?_
 clear H
 rintro e w1 ⟨ea,ec,xa,xc,rfl,hso,hb⟩
 have e0:w1.cell? ⟨w.heap.size+1,0,none⟩=some (.int .i64 0):=(hb.cell (by simp)).trans (by simp)
 have ef:∀j,w1.frozen? ⟨w.heap.size+1,j,none⟩=false:=fun j=>(hb.frozen (p:=⟨w.heap.size+1,j,none⟩) (by simp)).trans (by simp)
 have c0:w1.cell? ⟨w.heap.size,0,none⟩=some (.slice none 0 0):=(hb.cell (by simp;omega)).trans ((World.cell?_alloc_lt _ _ _ (by simp)).trans (by simp))
 have c1:w1.cell? ⟨w.heap.size,1,none⟩=some (.slice none 0 0):=(hb.cell (by simp;omega)).trans ((World.cell?_alloc_lt _ _ _ (by simp)).trans (by simp))
 have cf:∀j,w1.frozen? ⟨w.heap.size,j,none⟩=false:=fun j=>(hb.frozen (p:=⟨w.heap.size,j,none⟩) (by simp;omega)).trans (((aA (Below.refl (w.alloc (.cells #[.slice none 0 0,.slice none 0 0] 250)).heap.size (w.alloc (.cells #[.slice none 0 0,.slice none 0 0] 250))) (.cells #[.int .i64 0] 22)).frozen (p:=⟨w.heap.size,j,none⟩) (by simp)).trans (by simp))
 have hso':Hid (SO (w.heap.size+2) w1 ea ec xa xc E R):=hso.mono (by simp)
 have B1:Hid (Below w.heap.size w w1):=aC (aA (aA (Below.refl _ _) _) _) hb
 clear hb hso
 go_wp2
 refine leaves_cons (f:=260) (args:=#[.pointer (some ⟨w.heap.size+1,0,none⟩)]) (by simp) (by simp[go_sem]) ?_
 refine(catchS_idle ⟨w.heap.size+1,0,none⟩ _).mono ?_
 rintro e u' w'' ⟨rfl,rfl,rfl⟩
 simp[Leaves,settle,results,Tryz.results222,go_sem,e0,c0,c1]
 refine⟨ea,ec,xa,xc,⟨⟨rfl,rfl⟩,rfl,rfl⟩,?_,?_⟩
 ·exact(((hso'.out.set _ 0 _ (by omega)).set _ 1 _ (by omega)).set _ 0 _ (by omega)).mono (by omega)
 ·exact aI (aI (aI B1.out (Nat.le_refl _) _) (Nat.le_refl _) _) (by simp) _
theorem xT (cap:Array Value) (x:Int) (w:World)
  (h:Calls Tryz.prog 223 cap ((w.alloc (.cells #[.slice none 0 0,.slice none 0 0] 250)).alloc (.cells #[.int .i64 0] 22)) fun e w'=>e=.panicked [{v:=.iface 22 (.int .i64 x),recovered:=false}]∧Below ((w.alloc (.cells #[.slice none 0 0,.slice none 0 0] 250)).alloc (.cells #[.int .i64 0] 22)).heap.size ((w.alloc (.cells #[.slice none 0 0,.slice none 0 0] 250)).alloc (.cells #[.int .i64 0] 22)) w') :
  Calls Tryz.prog 222 #[.func (.func 223) #[] cap] w fun e w'=>e=.returned (.tuple #[.agg #[.slice none 0 0,.slice none 0 0],.int .i64 x])∧Below w.heap.size w w':=by
 have hmf:∀(fn:Fn) (first cap:Array Value) (w:World),(Instr.makeFunc fn first cap).run Tryz.prog w=.ok (.func fn first cap) w:=fun _ _ _ _=>rfl
 have H:Hid (Calls Tryz.prog 223 cap ((w.alloc (.cells #[.slice none 0 0,.slice none 0 0] 250)).alloc (.cells #[.int .i64 0] 22)) fun e w'=>e=.panicked [{v:=.iface 22 (.int .i64 x),recovered:=false}]∧Below ((w.alloc (.cells #[.slice none 0 0,.slice none 0 0] 250)).alloc (.cells #[.int .i64 0] 22)).heap.size ((w.alloc (.cells #[.slice none 0 0,.slice none 0 0] 250)).alloc (.cells #[.int .i64 0] 22)) w'):=h
 clear h
 go_enter_defers Tryz.func222,Tryz.ntmps222
 go_wp2_with fail
 refine H.out.mono ?_
 clear H
 rintro e w1 ⟨rfl,hb⟩
 have e0:w1.cell? ⟨w.heap.size+1,0,none⟩=some (.int .i64 0):=(hb.cell (by simp)).trans (by simp)
 have ef:w1.frozen? ⟨w.heap.size+1,0,none⟩=false:=(hb.frozen (p:=⟨w.heap.size+1,0,none⟩) (by simp)).trans (by simp)
 have c0:w1.cell? ⟨w.heap.size,0,none⟩=some (.slice none 0 0):=(hb.cell (by simp;omega)).trans ((World.cell?_alloc_lt _ _ _ (by simp)).trans (by simp))
 have c1:w1.cell? ⟨w.heap.size,1,none⟩=some (.slice none 0 0):=(hb.cell (by simp;omega)).trans ((World.cell?_alloc_lt _ _ _ (by simp)).trans (by simp))
 have B1:Below w.heap.size w w1:=aC (aA (aA (Below.refl _ _) _) _) hb
 clear hb
 refine leaves_cons (f:=260) (args:=#[.pointer (some ⟨w.heap.size+1,0,none⟩)]) (by simp) (by simp[go_sem]) ?_
 refine(oX ⟨w.heap.size+1,0,none⟩ x 0 [] _ e0 ef).mono ?_
 rintro e u' w'' ⟨rfl,rfl,rfl⟩
 simp[Leaves,settle,results,Tryz.results222,go_sem,e0,c0,c1]
 exact aI B1 (by simp) _
def kM (s:List Int) (l:List TxA):List Int:=if fZ s l=0 then aU s l else []
def bO (s:List Int) (l:List TxA):List (Bool×List Int):=if fZ s l=0 then aT s l else []
theorem uH (E:List Int) (R:List (Bool×List Int)) (x:Int) (w:World)
  (h:Calls Tryz.prog 222 #[.func (.func 223) #[] #[.pointer (some ⟨w.heap.size,0,none⟩),.pointer (some ⟨w.heap.size+1,0,none⟩)]] ((w.alloc (.cells #[.slice sa s.length sc] 41)).alloc (.cells #[.slice la l.length lc] 27)) fun e w'=>∃ea ec xa xc,e=.returned (.tuple #[.agg #[.slice ea E.length ec,.slice xa R.length xc],.int .i64 x])∧SO ((w.alloc (.cells #[.slice sa s.length sc] 41)).alloc (.cells #[.slice la l.length lc] 27)).heap.size w' ea ec xa xc E R∧Below ((w.alloc (.cells #[.slice sa s.length sc] 41)).alloc (.cells #[.slice la l.length lc] 27)).heap.size ((w.alloc (.cells #[.slice sa s.length sc] 41)).alloc (.cells #[.slice la l.length lc] 27)) w') :
  Calls Tryz.prog 187 #[.slice sa s.length sc,.slice la l.length lc] w fun e w'=>∃ea ec xa xc,e=.returned (.tuple #[.slice ea E.length ec,.slice xa R.length xc,.int .i64 x])∧SO w.heap.size w' ea ec xa xc E R∧Below w.heap.size w w':=by
 have hmf:∀(fn:Fn) (first cap:Array Value) (w:World),(Instr.makeFunc fn first cap).run Tryz.prog w=.ok (.func fn first cap) w:=fun _ _ _ _=>rfl
 have H:=h
 have H':Hid (Calls Tryz.prog 222 #[.func (.func 223) #[] #[.pointer (some ⟨w.heap.size,0,none⟩),.pointer (some ⟨w.heap.size+1,0,none⟩)]] ((w.alloc (.cells #[.slice sa s.length sc] 41)).alloc (.cells #[.slice la l.length lc] 27)) fun e w'=>∃ea ec xa xc,e=.returned (.tuple #[.agg #[.slice ea E.length ec,.slice xa R.length xc],.int .i64 x])∧SO ((w.alloc (.cells #[.slice sa s.length sc] 41)).alloc (.cells #[.slice la l.length lc] 27)).heap.size w' ea ec xa xc E R∧Below ((w.alloc (.cells #[.slice sa s.length sc] 41)).alloc (.cells #[.slice la l.length lc] 27)).heap.size ((w.alloc (.cells #[.slice sa s.length sc] 41)).alloc (.cells #[.slice la l.length lc] 27)) w'):=H
 clear h H
 go_enter Tryz.func187,Tryz.ntmps187
 go_wp2_with fail
 refine H'.out.mono ?_
 clear H'
 rintro e w1 ⟨ea,ec,xa,xc,rfl,hso,hb⟩
 have hso':Hid (SO w.heap.size w1 ea ec xa xc E R):=hso.mono (by simp;omega)
 have B1:Hid (Below w.heap.size w w1):=aC (aA (aA (Below.refl _ _) _) _) hb
 clear hso hb
 go_wp2
 go_region
 go_wp2
 go_ret3
 exact⟨ea,ec,xa,xc,rfl,hso'.out.below (aD (aA (Below.refl _ _) _)),aD (aA B1.out _)⟩
theorem rO (w:World) (hs:IsInts w sa s) (hl:IsTxs w la l) :
  Calls Tryz.prog 187 #[.slice sa s.length sc,.slice la l.length lc] w fun e w'=>∃ea ec xa xc,e=.returned (.tuple #[.slice ea (kM s l).length ec,.slice xa (bO s l).length xc,.int .i64 (fZ s l)])∧SO w.heap.size w' ea ec xa xc (kM s l) (bO s l)∧Below w.heap.size w w':=by
 have hg:Below w.heap.size w ((((w.alloc (.cells #[.slice sa s.length sc] 41)).alloc (.cells #[.slice la l.length lc] 27)).alloc (.cells #[.slice none 0 0,.slice none 0 0] 250)).alloc (.cells #[.int .i64 0] 22)):=aA (aA (aA (aA (Below.refl _ _) _) _) _) _
 have h0:((((w.alloc (.cells #[.slice sa s.length sc] 41)).alloc (.cells #[.slice la l.length lc] 27)).alloc (.cells #[.slice none 0 0,.slice none 0 0] 250)).alloc (.cells #[.int .i64 0] 22)).cell? ⟨w.heap.size,0,none⟩=some (.slice sa s.length sc):=by
  rw[World.cell?_alloc_lt _ _ _ (by simp;omega),World.cell?_alloc_lt _ _ _ (by simp;omega),World.cell?_alloc_lt _ _ _ (by simp)];simp
 have h1:((((w.alloc (.cells #[.slice sa s.length sc] 41)).alloc (.cells #[.slice la l.length lc] 27)).alloc (.cells #[.slice none 0 0,.slice none 0 0] 250)).alloc (.cells #[.int .i64 0] 22)).cell? ⟨w.heap.size+1,0,none⟩=some (.slice la l.length lc):=by
  rw[World.cell?_alloc_lt _ _ _ (by simp),World.cell?_alloc_lt _ _ _ (by simp)];simp
 by_cases he:fZ s l=0
 ·have e1:kM s l=aU s l:=if_pos he
  have e2:bO s l=aT s l:=if_pos he
  rw[e1,e2,he]
  exact uH sa la sc lc s l _ _ _ w (xS _ _ _ _ (ser1_ok sa la sc lc s l _ _ _ h0 h1 (hs.below hg) (hl.below hg) he))
 ·have e1:kM s l=[]:=if_neg he
  have e2:bO s l=[]:=if_neg he
  rw[e1,e2]
  refine uH sa la sc lc s l _ _ _ w ((xT _ _ _ (ser1_pan sa la sc lc s l _ _ _ h0 h1 (hl.below hg) he)).mono ?_)
  exact fun _ _ ⟨q1,q2⟩=>⟨none,0,none,0,q1,so_none _ _,q2⟩
end
section
theorem mY {w:World} {a:Option Addr} {z:Int} {t:List Int} {c:Nat} (h:IsInts w a (z::t)):a=none→c=0:=fun e=>by
 obtain⟨b,off,ha,_⟩:=h 0 (by simp)
 rw[e]at ha
 cases ha
theorem some_of_gs {w:World} {a:Option Addr} {z:Gd} {t:List Gd} {c:Nat} (h:IsGs w a (z::t)):a=none→c=0:=fun e=>by
 obtain⟨b,off,ha,_⟩:=h 0 (by simp)
 rw[e]at ha
 cases ha
theorem mE {w:World} {a:Option Addr} {z:St} {t:List St} {c:Nat} (h:IsSs w a (z::t)):a=none→c=0:=fun e=>by
 obtain⟨b,off,ha,_⟩:=h 0 (by simp)
 rw[e]at ha
 cases ha
theorem isTxs_three (w:World) (x y z:TxA) (n:Nat) (hn:n=w.heap.size) (hx:IsX w x) (hy:IsX w y) (hz:IsX w z):IsTxs (w.alloc (.cells #[.slice x.ra x.rs.length x.rc,.slice x.ga x.gs.length x.gc,.slice x.sa x.ss.length x.sc,.slice y.ra y.rs.length y.rc,.slice y.ga y.gs.length y.gc,.slice y.sa y.ss.length y.sc,.slice z.ra z.rs.length z.rc,.slice z.ga z.gs.length z.gc,.slice z.sa z.ss.length z.sc] 95)) (some ⟨n,0,none⟩) [x,y,z]:=by
 subst hn
 intro i hi
 have hi3:i<3:=by simpa using hi
 match i,hi3 with
 | 0,_=>exact⟨w.heap.size,0,rfl,by simp,by simp,by simp,by simp,hx.below (aA (Below.refl _ _) _)⟩
 | 1,_=>exact⟨w.heap.size,0,rfl,by simp,by simp,by simp,by simp,hy.below (aA (Below.refl _ _) _)⟩
 | 2,_=>exact⟨w.heap.size,0,rfl,by simp,by simp,by simp,by simp,hz.below (aA (Below.refl _ _) _)⟩
def S0:List Int:=[5,1,0,0,0,0,0,0]
abbrev xPay (ra ga sa:Option Addr) (rc gc sc:Nat):TxA:=⟨ra,ga,sa,rc,gc,sc,[0,1],[gPay 3],[zR 3,zQ 3]⟩
abbrev yV (ra sa:Option Addr) (rc sc:Nat):TxA:=⟨ra,none,sa,rc,0,sc,[1],[],[sNote]⟩
section
variable (ra ga sa ra' ga' sa' ra2 sa2:Option Addr) (rc gc sc rc' gc' sc' rc2 sc2:Nat)
end
end
section
open Go.ChangeShapes Go.WideShapes Go.ChangeAt Go.RowKit Go.Deep
section
variable {H:Type} {enc:TypeId×Value→H} {w:World} {base:Nat} {held:Bool}
end
theorem wf_bounds {c:Int} (h:(Lit.int .i64 c).wf=true) : -9223372036854775808≤c∧c≤9223372036854775807:=by
 simp only[Lit.wf,Bool.and_eq_true,decide_eq_true_eq]at h
 have e1:IntKind.i64.min = -9223372036854775808:=by decide
 have e2:IntKind.i64.max=9223372036854775807:=by decide
 rw[e1,e2]at h
 exact h
end
end Go.Proofs.YtcgpkonfneofdaaGreatDoor
