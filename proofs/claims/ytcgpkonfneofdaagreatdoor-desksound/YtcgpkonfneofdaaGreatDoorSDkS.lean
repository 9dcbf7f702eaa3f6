/- Conditions: those that each theorem states. -/
import Derived.Test.YtcgpkonfneofdaaGreatDoorSDkR
set_option maxRecDepth 100000
set_option maxHeartbeats 8000000
namespace Go.Proofs.YtcgpkonfneofdaaGreatDoor
open Go.RowKit
theorem nW (p:Addr) (x y:Int) (older:List PanicEntry) (w:World) (hc:w.cell? p=some (.int .i64 y)) (hz:w.frozen? p=false) :
  CallsD Tryz.prog 30 #[.pointer (some p)] (.panicking ({v:=.iface 22 (.int .i64 x),recovered:=false}::older)) w fun e u' w'=>
   e=.returned (.tuple #[])∧u'=.panicking ({v:=.iface 22 (.int .i64 x),recovered:=true}::older)∧w'=w.setCell p (.int .i64 x):=by
 refine callsD_of_wpS Tryz.func30 rfl fun c₀ cs hu=>?_
 apply wpS_seq
 apply wpS_region
 simp[wpOpsS,go_sem,recoverD,hu,Tryz.ntmps30,Exit.thenS]
 apply wpS_seq
 apply wpS_region
 simp[wpOpsS,go_sem,Exit.thenS]
 refine wpS_cond (t:=true) (by simp[Act.eval,Array.replicate]) ?_
 simp only[if_true]
 apply wpS_region
 simp[wpOpsS,go_sem,bG,hc,hz,bodyPostS,results,Tryz.results30]
theorem nX (p:Addr) (w:World) :
  CallsD Tryz.prog 30 #[.pointer (some p)] .returning w fun e u' w'=>e=.returned (.tuple #[])∧u'=.returning∧w'=w:=by
 refine callsD_of_wpS Tryz.func30 rfl fun c₀ cs hu=>?_
 apply wpS_seq
 apply wpS_region
 simp[wpOpsS,go_sem,recoverD,hu,Tryz.ntmps30,Exit.thenS]
 apply wpS_seq
 apply wpS_region
 simp[wpOpsS,go_sem,Exit.thenS]
 refine wpS_cond (t:=false) (by simp[Act.eval,Array.replicate]) ?_
 simp only[Bool.false_eq_true,if_false]
 refine wpS_of_wp (wp_skip ?_)
 cases c₀
 simp_all [bodyPostS,results,Tryz.results30]
theorem nT (F:FuncId) (cap:Array Value) (hF:∀w,Sem.run Tryz.prog (callFunc F cap) w=.ok (.enter F cap) w) (P:Value→World→Prop) (w:World) (hP:∀v w',P v w'→P v (w'.setCell ⟨w.heap.size,0,none⟩ (.int .i64 0)))
  (h:Calls Tryz.prog F cap (w.alloc (.cells #[.int .i64 0] 22)) fun e w'=>∃v,e=.returned v∧P v w'∧Below (w.heap.size+1) (w.alloc (.cells #[.int .i64 0] 22)) w') :
  Calls Tryz.prog 11 #[.func (.func F) #[] cap] w fun e w'=>∃v,e=.returned (.tuple #[v,.int .i64 0])∧P v w'∧Below w.heap.size w w':=by
 have hmf:∀(fn:Fn) (first cap:Array Value) (w:World),(Instr.makeFunc fn first cap).run Tryz.prog w=.ok (.func fn first cap) w:=fun _ _ _ _=>rfl
 have H:Hid (Calls Tryz.prog F cap (w.alloc (.cells #[.int .i64 0] 22)) fun e w'=>∃v,e=.returned v∧P v w'∧Below (w.heap.size+1) (w.alloc (.cells #[.int .i64 0] 22)) w'):=h
 have HP:Hid (∀v w',P v w'→P v (w'.setCell ⟨w.heap.size,0,none⟩ (.int .i64 0))):=hP
 have HF:Hid (∀w,Sem.run Tryz.prog (callFunc F cap) w=.ok (.enter F cap) w):=hF
 clear h hP hF
 go_enter_defers Tryz.func11,Tryz.ntmps11
 go_wp2_with fail
 rw[HF.out,Oper.upon_enter]
 refine H.out.mono ?_
 clear H
 rintro e w1 ⟨v,rfl,hv,hb⟩
 have hc:w1.cell? ⟨w.heap.size,0,none⟩=some (.int .i64 0):=by rw[hb.cell (by simp)];simp
 have hf:w1.frozen? ⟨w.heap.size,0,none⟩=false:=by rw[hb.frozen (by simp)];simp
 have Hb:Hid (Below (w.heap.size+1) (w.alloc (.cells #[.int .i64 0] 22)) w1):=hb
 have HV:Hid (P v (w1.setCell ⟨w.heap.size,0,none⟩ (.int .i64 0))):=HP.out v w1 hv
 clear hb hv HP
 go_wp2
 refine leaves_cons (f:=30) (args:=#[.pointer (some ⟨w.heap.size,0,none⟩)]) (by simp) (by simp[go_sem]) ?_
 refine(nX ⟨w.heap.size,0,none⟩ _).mono ?_
 rintro e u' w'' ⟨rfl,rfl,rfl⟩
 simp[Leaves,settle,results,Tryz.results11,go_sem,hc]
 have hb:=Hb.out
 exact⟨HV.out,((Below.refl _ _).alloc (Nat.le_refl _) _ |>.trans (hb.mono (by omega))).setCell (by simp) _⟩
theorem kG (F:FuncId) (cap:Array Value) (hF:∀w,Sem.run Tryz.prog (callFunc F cap) w=.ok (.enter F cap) w) (x:Int) (w:World)
  (h:Calls Tryz.prog F cap (w.alloc (.cells #[.int .i64 0] 22)) fun e w'=>e=.panicked [{v:=.iface 22 (.int .i64 x),recovered:=false}]∧Below (w.heap.size+1) (w.alloc (.cells #[.int .i64 0] 22)) w') :
  Calls Tryz.prog 11 #[.func (.func F) #[] cap] w fun e w'=>e=.returned (.tuple #[.string {data:=#[]},.int .i64 x])∧Below w.heap.size w w':=by
 have hmf:∀(fn:Fn) (first cap:Array Value) (w:World),(Instr.makeFunc fn first cap).run Tryz.prog w=.ok (.func fn first cap) w:=fun _ _ _ _=>rfl
 have H:Hid (Calls Tryz.prog F cap (w.alloc (.cells #[.int .i64 0] 22)) fun e w'=>e=.panicked [{v:=.iface 22 (.int .i64 x),recovered:=false}]∧Below (w.heap.size+1) (w.alloc (.cells #[.int .i64 0] 22)) w'):=h
 have HF:Hid (∀w,Sem.run Tryz.prog (callFunc F cap) w=.ok (.enter F cap) w):=hF
 clear h hF
 go_enter_defers Tryz.func11,Tryz.ntmps11
 go_wp2_with fail
 rw[HF.out,Oper.upon_enter]
 refine H.out.mono ?_
 clear H
 rintro e w1 ⟨rfl,hb⟩
 have hc:w1.cell? ⟨w.heap.size,0,none⟩=some (.int .i64 0):=by rw[hb.cell (by simp)];simp
 have hf:w1.frozen? ⟨w.heap.size,0,none⟩=false:=by rw[hb.frozen (by simp)];simp
 refine leaves_cons (f:=30) (args:=#[.pointer (some ⟨w.heap.size,0,none⟩)]) (by simp) (by simp[go_sem]) ?_
 refine(nW ⟨w.heap.size,0,none⟩ x 0 [] _ hc hf).mono ?_
 rintro e u' w'' ⟨rfl,rfl,rfl⟩
 simp[Leaves,settle,results,Tryz.results11,go_sem,hc]
 exact((Below.refl _ _).alloc (Nat.le_refl _) _ |>.trans (hb.mono (by omega))).setCell (by simp) _
theorem oA (p:Addr) (x y:Int) (older:List PanicEntry) (w:World) (hc:w.cell? p=some (.int .i64 y)) (hz:w.frozen? p=false) :
  CallsD Tryz.prog 68 #[.pointer (some p)] (.panicking ({v:=.iface 22 (.int .i64 x),recovered:=false}::older)) w fun e u' w'=>
   e=.returned (.tuple #[])∧u'=.panicking ({v:=.iface 22 (.int .i64 x),recovered:=true}::older)∧w'=w.setCell p (.int .i64 x):=by
 refine callsD_of_wpS Tryz.func68 rfl fun c₀ cs hu=>?_
 apply wpS_seq
 apply wpS_region
 simp[wpOpsS,go_sem,recoverD,hu,Tryz.ntmps68,Exit.thenS]
 apply wpS_seq
 apply wpS_region
 simp[wpOpsS,go_sem,Exit.thenS]
 refine wpS_cond (t:=true) (by simp[Act.eval,Array.replicate]) ?_
 simp only[if_true]
 apply wpS_region
 simp[wpOpsS,go_sem,bG,hc,hz,bodyPostS,results,Tryz.results68]
theorem yM (p:Addr) (w:World) :
  CallsD Tryz.prog 68 #[.pointer (some p)] .returning w fun e u' w'=>e=.returned (.tuple #[])∧u'=.returning∧w'=w:=by
 refine callsD_of_wpS Tryz.func68 rfl fun c₀ cs hu=>?_
 apply wpS_seq
 apply wpS_region
 simp[wpOpsS,go_sem,recoverD,hu,Tryz.ntmps68,Exit.thenS]
 apply wpS_seq
 apply wpS_region
 simp[wpOpsS,go_sem,Exit.thenS]
 refine wpS_cond (t:=false) (by simp[Act.eval,Array.replicate]) ?_
 simp only[Bool.false_eq_true,if_false]
 refine wpS_of_wp (wp_skip ?_)
 cases c₀
 simp_all [bodyPostS,results,Tryz.results68]
theorem yD (F:FuncId) (cap:Array Value) (hF:∀w,Sem.run Tryz.prog (callFunc F cap) w=.ok (.enter F cap) w) (P:Int→Option Addr→Nat→Nat→World→Prop) (w:World) (hP:∀m a n c w' i u j,(j=w.heap.size∨j=w.heap.size+1)→P m a n c w'→P m a n c (w'.setCell ⟨j,i,none⟩ u))
  (h:Calls Tryz.prog F cap ((w.alloc (.cells #[.int .i64 0,.slice none 0 0] 29)).alloc (.cells #[.int .i64 0] 22)) fun e w'=>∃m a n c,e=.returned (.agg #[.int .i64 m,.slice a n c])∧P m a n c w'∧Below ((w.alloc (.cells #[.int .i64 0,.slice none 0 0] 29)).alloc (.cells #[.int .i64 0] 22)).heap.size ((w.alloc (.cells #[.int .i64 0,.slice none 0 0] 29)).alloc (.cells #[.int .i64 0] 22)) w') :
  Calls Tryz.prog 31 #[.func (.func F) #[] cap] w fun e w'=>∃m a n c,e=.returned (.tuple #[.agg #[.int .i64 m,.slice a n c],.int .i64 0])∧P m a n c w'∧Below w.heap.size w w':=by
 have hmf:∀(fn:Fn) (first cap:Array Value) (w:World),(Instr.makeFunc fn first cap).run Tryz.prog w=.ok (.func fn first cap) w:=fun _ _ _ _=>rfl
 have H:Hid (Calls Tryz.prog F cap ((w.alloc (.cells #[.int .i64 0,.slice none 0 0] 29)).alloc (.cells #[.int .i64 0] 22)) fun e w'=>∃m a n c,e=.returned (.agg #[.int .i64 m,.slice a n c])∧P m a n c w'∧Below ((w.alloc (.cells #[.int .i64 0,.slice none 0 0] 29)).alloc (.cells #[.int .i64 0] 22)).heap.size ((w.alloc (.cells #[.int .i64 0,.slice none 0 0] 29)).alloc (.cells #[.int .i64 0] 22)) w'):=h
 have HP:Hid (∀m a n c w' i u j,(j=w.heap.size∨j=w.heap.size+1)→P m a n c w'→P m a n c (w'.setCell ⟨j,i,none⟩ u)):=hP
 have HF:Hid (∀w,Sem.run Tryz.prog (callFunc F cap) w=.ok (.enter F cap) w):=hF
 clear h hP hF
 go_enter_defers Tryz.func31,Tryz.ntmps31
 go_wp2_with fail
 rw[HF.out,Oper.upon_enter]
 refine H.out.mono ?_
 clear H
 rintro e w1 ⟨m,a,n,c,rfl,hq,hb⟩
 have e0:w1.cell? ⟨w.heap.size+1,0,none⟩=some (.int .i64 0):=aB hb (aG _ _ 22 _ 0 _ (by simp) rfl)
 have ef:∀j,w1.frozen? ⟨w.heap.size+1,j,none⟩=false:=fun j=>(hb.frozen (p:=⟨w.heap.size+1,j,none⟩) (by simp)).trans (by simp)
 have c0:w1.cell? ⟨w.heap.size,0,none⟩=some (.int .i64 0):=aB hb (aB (aA (Below.refl _ _) _) (aG w _ 29 _ 0 _ rfl rfl))
 have c1:w1.cell? ⟨w.heap.size,1,none⟩=some (.slice none 0 0):=aB hb (aB (aA (Below.refl _ _) _) (aG w _ 29 _ 1 _ rfl rfl))
 have cf:∀j,w1.frozen? ⟨w.heap.size,j,none⟩=false:=fun j=>(hb.frozen (p:=⟨w.heap.size,j,none⟩) (by simp;omega)).trans (((aA (Below.refl (w.alloc (.cells #[.int .i64 0,.slice none 0 0] 29)).heap.size (w.alloc (.cells #[.int .i64 0,.slice none 0 0] 29))) (.cells #[.int .i64 0] 22)).frozen (p:=⟨w.heap.size,j,none⟩) (by simp)).trans (by simp))
 have HV:Hid (P m a n c w1):=hq
 have B1:Hid (Below w.heap.size w w1):=aC (aA (aA (Below.refl _ _) _) _) hb
 clear hb hq
 go_wp2
 refine leaves_cons (f:=68) (args:=#[.pointer (some ⟨w.heap.size+1,0,none⟩)]) (by simp) (by simp[go_sem]) ?_
 refine(yM ⟨w.heap.size+1,0,none⟩ _).mono ?_
 rintro e u' w'' ⟨rfl,rfl,rfl⟩
 simp[Leaves,settle,results,Tryz.results31,go_sem,e0,c0,c1]
 refine⟨_,_,_,_,⟨rfl,rfl,rfl,rfl⟩,?_,?_⟩
 ·exact HP.out _ _ _ _ _ 0 _ _ (.inr rfl) (HP.out _ _ _ _ _ 1 _ _ (.inl rfl) (HP.out _ _ _ _ _ 0 _ _ (.inl rfl) HV.out))
 ·exact aI (aI (aI B1.out (Nat.le_refl _) _) (Nat.le_refl _) _) (by simp) _
theorem yE (F:FuncId) (cap:Array Value) (hF:∀w,Sem.run Tryz.prog (callFunc F cap) w=.ok (.enter F cap) w) (x:Int) (w:World)
  (h:Calls Tryz.prog F cap ((w.alloc (.cells #[.int .i64 0,.slice none 0 0] 29)).alloc (.cells #[.int .i64 0] 22)) fun e w'=>e=.panicked [{v:=.iface 22 (.int .i64 x),recovered:=false}]∧Below ((w.alloc (.cells #[.int .i64 0,.slice none 0 0] 29)).alloc (.cells #[.int .i64 0] 22)).heap.size ((w.alloc (.cells #[.int .i64 0,.slice none 0 0] 29)).alloc (.cells #[.int .i64 0] 22)) w') :
  Calls Tryz.prog 31 #[.func (.func F) #[] cap] w fun e w'=>e=.returned (.tuple #[.agg #[.int .i64 0,.slice none 0 0],.int .i64 x])∧Below w.heap.size w w':=by
 have hmf:∀(fn:Fn) (first cap:Array Value) (w:World),(Instr.makeFunc fn first cap).run Tryz.prog w=.ok (.func fn first cap) w:=fun _ _ _ _=>rfl
 have H:Hid (Calls Tryz.prog F cap ((w.alloc (.cells #[.int .i64 0,.slice none 0 0] 29)).alloc (.cells #[.int .i64 0] 22)) fun e w'=>e=.panicked [{v:=.iface 22 (.int .i64 x),recovered:=false}]∧Below ((w.alloc (.cells #[.int .i64 0,.slice none 0 0] 29)).alloc (.cells #[.int .i64 0] 22)).heap.size ((w.alloc (.cells #[.int .i64 0,.slice none 0 0] 29)).alloc (.cells #[.int .i64 0] 22)) w'):=h
 have HF:Hid (∀w,Sem.run Tryz.prog (callFunc F cap) w=.ok (.enter F cap) w):=hF
 clear h hF
 go_enter_defers Tryz.func31,Tryz.ntmps31
 go_wp2_with fail
 rw[HF.out,Oper.upon_enter]
 refine H.out.mono ?_
 clear H
 rintro e w1 ⟨rfl,hb⟩
 have e0:w1.cell? ⟨w.heap.size+1,0,none⟩=some (.int .i64 0):=aB hb (aG _ _ 22 _ 0 _ (by simp) rfl)
 have ef:w1.frozen? ⟨w.heap.size+1,0,none⟩=false:=(hb.frozen (p:=⟨w.heap.size+1,0,none⟩) (by simp)).trans (by simp)
 have c0:w1.cell? ⟨w.heap.size,0,none⟩=some (.int .i64 0):=aB hb (aB (aA (Below.refl _ _) _) (aG w _ 29 _ 0 _ rfl rfl))
 have c1:w1.cell? ⟨w.heap.size,1,none⟩=some (.slice none 0 0):=aB hb (aB (aA (Below.refl _ _) _) (aG w _ 29 _ 1 _ rfl rfl))
 have B1:Below w.heap.size w w1:=aC (aA (aA (Below.refl _ _) _) _) hb
 clear hb
 refine leaves_cons (f:=68) (args:=#[.pointer (some ⟨w.heap.size+1,0,none⟩)]) (by simp) (by simp[go_sem]) ?_
 refine(oA ⟨w.heap.size+1,0,none⟩ x 0 [] _ e0 ef).mono ?_
 rintro e u' w'' ⟨rfl,rfl,rfl⟩
 simp[Leaves,settle,results,Tryz.results31,go_sem,e0,c0,c1]
 exact aI B1 (by simp) _
section
theorem slc1 (sb n:Nat) (w:World):(Instr.slice 55 (.slice (some ⟨sb,0,none⟩) (n+1) (n+1)) (some (.int .i64 1)) none none).run Tryz.prog w=.ok (.slice (if n=0 then some ⟨sb,0,none⟩ else some ⟨sb,1,none⟩) n n) w:=by
 have i:(1:Int)≤(n:Int)+1:=by omega
 by_cases h:n=0
 ·subst h
  go_simp
 ·rw[if_neg h]
  go_simp
section
variable (P:Nat) (D:Nat→Prop) (m:Int) (la:Option Addr) (lc:Nat) (l:List TxA) (ba:Option Addr) (bc:Nat) (bg:List Int) (q:Q4) (S:SA) (w:World)
theorem clkObey (x:List UInt8) (xs:List (List UInt8)) (na:Option Addr) (nc:Nat) (hn:IsStrs w na xs) (hP:∀ad,na=some ad→ad.block≠P) (hl:∀y∈xs,y.length≤4096) (h:Clk P D m la lc l ba bc bg q S w) (hk:OkDesk m l bg S) (hs:Std w) (hs2:∀w',Below P w w'→Std w'):Calls Tryz.prog 44 #[.pointer (some ⟨P,0,none⟩),aL x,.slice na xs.length nc] w fun e w'=>AnsP P D m la lc l w (qH m l bg S x xs) e w':=by
 match xs,hn,hl with
 | [],_,_=>exact clkObey0 P D m la lc l ba bc bg q S w x na nc h hk hs hs2
 | [a],_,_=>exact(clkObeyX P w x na 1 nc (by decide) (by decide)).mono fun e w' ⟨he,hb⟩=>⟨he,by decide,hb⟩
 | [a,b],hn,hl=>
  obtain⟨nb,no,rfl,hlt,c0⟩:=hn 0 (by simp)
  obtain⟨nb',no',e',_,c1⟩:=hn 1 (by simp)
  injection e' with e'
  injection e' with e1 e2
  subst e1 e2
  exact clkObey2 P D m la lc l ba bc bg q S w x a b (hl a (by simp)) (hl b (by simp)) nb no nc hlt (hP _ rfl) c0 c1 h hk hs
 | a::b::c::r,_,_=>exact(clkObeyX P w x na (r.length+3) nc (by omega) (by omega)).mono fun e w' ⟨he,hb⟩=>⟨he,by decide,hb⟩
theorem clkAns1 (x:List UInt8) (xs:List (List UInt8)) (cb wb sb:Nat) (h1:cb<w.heap.size∧cb≠P) (h2:wb<w.heap.size∧wb≠P) (h3:sb<w.heap.size∧sb≠P) (c0:w.cell? ⟨cb,0,none⟩=some (.pointer (some ⟨P,0,none⟩))) (c1:w.cell? ⟨wb,0,none⟩=some (.slice (some ⟨sb,0,none⟩) (xs.length+1) (xs.length+1))) (c2:w.cell? ⟨sb,0,none⟩=some (aL x)) (na:Option Addr) (hsl:∀w:World,(Instr.slice 55 (.slice (some ⟨sb,0,none⟩) (xs.length+1) (xs.length+1)) (some (.int .i64 1)) none none).run Tryz.prog w=.ok (.slice na xs.length xs.length) w) (hnP:∀ad,na=some ad→ad.block≠P) (hn:IsStrs w na xs) (hl:∀y∈xs,y.length≤4096) (h:Clk P D m la lc l ba bc bg q S w) (hk:OkDesk m l bg S) (hs:Std w) (hs2:∀w',Below P w w'→Std w'):Calls Tryz.prog 43 #[.pointer (some ⟨cb,0,none⟩),.pointer (some ⟨wb,0,none⟩)] w fun e w'=>AnsP P D m la lc l w (qH m l bg S x xs) e w':=by
 have KS:Hid (∀w',w.grownBy w' (some P)→w'.cell? ⟨cb,0,none⟩=some (.pointer (some ⟨P,0,none⟩))∧w'.cell? ⟨wb,0,none⟩=some (.slice (some ⟨sb,0,none⟩) (xs.length+1) (xs.length+1))∧w'.cell? ⟨sb,0,none⟩=some (aL x)):=fun w' hg=>by
  have e:∀b,b<w.heap.size∧b≠P→w'.heap[b]?=w.heap[b]?:=fun b hb=>hg.block b hb.1 (fun e=>by injection e with e;exact hb.2 e)
  exact⟨(World.cell?_of_block (a:=⟨cb,0,none⟩) (e cb h1)).trans c0,(World.cell?_of_block (a:=⟨wb,0,none⟩) (e wb h2)).trans c1,(World.cell?_of_block (a:=⟨sb,0,none⟩) (e sb h3)).trans c2⟩
 have CT:∀w',Below w.heap.size w w'→Calls Tryz.prog 44 #[.pointer (some ⟨P,0,none⟩),aL x,.slice na xs.length xs.length] w' fun e w''=>AnsP P D m la lc l w' (qH m l bg S x xs) e w'':=fun w' hb'=>clkObey P D m la lc l ba bc bg q S w' x xs _ _ (hn.below hb') hnP hl (h.on hb') hk (hs.on hb') (fun w2 h2=>hs2 w2 ((hb'.mono (Nat.le_of_lt h.pl)).trans h2))
 cases hr:qH m l bg S x xs with
 | ok p=>
  rw[hr]at CT
  have CX:Hid (∀w',Below w.heap.size w w'→Calls Tryz.prog 44 #[.pointer (some ⟨P,0,none⟩),aL x,.slice na xs.length xs.length] w' fun e w''=>e=.returned (aL p.1)∧∃(ba:Option Addr) (bc:Nat) (q2:Q4) (D2:Nat→Prop),Clk P D2 m la lc l ba bc p.2.1 q2 p.2.2 w''∧(∀b,D2 b→D b∨w.heap.size≤b)∧w.grownBy w'' (some P)):=fun w' hb'=>(CT w' hb').mono fun e w'' ⟨he,ba,bc,q2,D2,hc,hd,hg⟩=>⟨he,ba,bc,q2,D2,hc,fun b h=>(hd b h).elim .inl (fun h=>.inr (Nat.le_trans hb'.size h)),cR (aX hb') hg⟩
  clear CT hr h hk hs hs2 hn hl c0 c1 c2 h1 h2 h3 hnP
  generalize xs.length=n at *
  unfold aL at *
  go_enter Tryz.func43,Tryz.ntmps43
  go_upto_region 1 with fail
  refine wp_region_held_drew (S:=(fun w'=>w'.cell? ⟨cb,0,none⟩=some (.pointer (some ⟨P,0,none⟩))∧w'.cell? ⟨wb,0,none⟩=some (.slice (some ⟨sb,0,none⟩) (n+1) (n+1))∧w'.cell? ⟨sb,0,none⟩=some (.string ⟨x.toArray⟩))) (by kernel_rfl) ?_ (fun hHeld=>?_)
  ·exact KS.out _ (aX (aD (Below.refl _ _)))
  refine tk 0 ?_
  refine tk 1 ?_
  refine tk 2 ?_
  refine tk 3 ?_
  refine tk 4 ?_
  refine tk 5 ?_
  refine r1 6 (fun K hK=>?_)
  go_simp
  go_wp2_with (go_at_call 44;refine(CX.out _ (aD (Below.refl _ _))).mono ?_;rintro e w1 ⟨rfl,hq⟩)
  have HQ:=aJ hq
  clear hq
  clear hHeld
  refine hK.out _ _ (KS.out _ HQ.out.choose_spec.choose_spec.choose_spec.choose_spec.2.2) (fun hHeld=>?_)
  clear hK K
  refine tk 7 ?_
  refine wpAnyH_done (by kernel_rfl) ?_ _
  clear hHeld
  go_wp2
  go_ret
  exact⟨rfl,HQ.out⟩
 | error z=>
  rw[hr]at CT
  have CX:Hid (∀w',Below w.heap.size w w'→Calls Tryz.prog 44 #[.pointer (some ⟨P,0,none⟩),aL x,.slice na xs.length xs.length] w' fun e w''=>e=.panicked [{v:=.iface 22 (.int .i64 z),recovered:=false}]∧¬z=0∧Below w.heap.size w w''):=fun w' hb'=>(CT w' hb').mono fun e w'' ⟨he,hz,hg⟩=>⟨he,hz,aC hb' hg⟩
  clear CT hr h hk hs hs2 hn hl c0 c1 c2 h1 h2 h3 hnP
  generalize xs.length=n at *
  unfold aL at *
  go_enter Tryz.func43,Tryz.ntmps43
  go_upto_region 1 with fail
  refine wp_region_held_drew (S:=(fun w'=>w'.cell? ⟨cb,0,none⟩=some (.pointer (some ⟨P,0,none⟩))∧w'.cell? ⟨wb,0,none⟩=some (.slice (some ⟨sb,0,none⟩) (n+1) (n+1))∧w'.cell? ⟨sb,0,none⟩=some (.string ⟨x.toArray⟩))) (by kernel_rfl) ?_ (fun hHeld=>?_)
  ·exact KS.out _ (aX (aD (Below.refl _ _)))
  refine tk 0 ?_
  refine tk 1 ?_
  refine tk 2 ?_
  refine tk 3 ?_
  refine tk 4 ?_
  refine tk 5 ?_
  refine r1 6 (fun K hK=>?_)
  go_simp
  go_wp2_with (go_at_call 44;refine(CX.out _ (aD (Below.refl _ _))).mono ?_;rintro e w1 ⟨rfl,hn1,hb1⟩)
  exact⟨rfl,rfl,hn1,hb1⟩
end
theorem caughtW_ret (F:FuncId) (cap:Array Value) (hF:∀w,Sem.run Tryz.prog (callFunc F cap) w=.ok (.enter F cap) w) (P:Value→World→Prop) (B:Nat) (w:World) (hB:B<w.heap.size) (hP:∀v w',P v w'→(w.alloc (.cells #[.int .i64 0] 22)).grownBy w' (some B)→P v (w'.setCell ⟨w.heap.size,0,none⟩ (.int .i64 0)))
  (h:Calls Tryz.prog F cap (w.alloc (.cells #[.int .i64 0] 22)) fun e w'=>∃v,e=.returned v∧P v w'∧(w.alloc (.cells #[.int .i64 0] 22)).grownBy w' (some B)) :
  Calls Tryz.prog 11 #[.func (.func F) #[] cap] w fun e w'=>∃v,e=.returned (.tuple #[v,.int .i64 0])∧P v w'∧w.grownBy w' (some B):=by
 have hmf:∀(fn:Fn) (first cap:Array Value) (w:World),(Instr.makeFunc fn first cap).run Tryz.prog w=.ok (.func fn first cap) w:=fun _ _ _ _=>rfl
 have H:=aJ h
 have HP:=aJ hP
 have HF:=aJ hF
 clear h hP hF
 go_enter_defers Tryz.func11,Tryz.ntmps11
 go_wp2_with fail
 rw[HF.out,Oper.upon_enter]
 refine H.out.mono ?_
 clear H
 rintro e w1 ⟨v,rfl,hv,hb⟩
 have hbk:w1.heap[w.heap.size]?=(w.alloc (.cells #[.int .i64 0] 22)).heap[w.heap.size]?:=hb.block _ (by simp) (fun e=>by injection e with e;omega)
 have hc:w1.cell? ⟨w.heap.size,0,none⟩=some (.int .i64 0):=by rw[World.cell?_of_block (a:=⟨w.heap.size,0,none⟩) hbk];simp
 have hf:w1.frozen? ⟨w.heap.size,0,none⟩=false:=by rw[World.frozen?_of_block (a:=⟨w.heap.size,0,none⟩) hbk];simp
 have Hb:=aJ hb
 have HV:=aJ (HP.out v w1 hv hb)
 clear hb hv HP hbk
 go_wp2
 refine leaves_cons (f:=30) (args:=#[.pointer (some ⟨w.heap.size,0,none⟩)]) (by simp) (by simp[go_sem]) ?_
 refine(nX ⟨w.heap.size,0,none⟩ _).mono ?_
 rintro e u' w'' ⟨rfl,rfl,rfl⟩
 simp[Leaves,settle,results,Tryz.results11,go_sem,hc]
 have hb:=Hb.out
 refine⟨HV.out,hb.os,hb.tape,hb.output,?_,fun k hk hne=>?_⟩
 ·rw[World.size_setCell]
  have:=hb.size
  simp at this
  omega
 ·rw[iL _ _ _ _ _ (by omega),hb.block k (by simp;omega) hne]
  exact(aA (Below.refl _ _) _).block k hk
end
end Go.Proofs.YtcgpkonfneofdaaGreatDoor
