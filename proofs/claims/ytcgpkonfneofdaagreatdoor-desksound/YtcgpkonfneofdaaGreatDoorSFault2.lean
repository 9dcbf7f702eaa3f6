/- Conditions: those that each theorem states. -/
import Derived.Test.YtcgpkonfneofdaaGreatDoorSHallC
set_option maxRecDepth 100000
set_option maxHeartbeats 8000000
namespace Go.Proofs.YtcgpkonfneofdaaGreatDoor
open Go.RowKit
theorem oD (p:Addr) (x y:Int) (older:List PanicEntry) (w:World) (hc:w.cell? p=some (.int .i64 y)) (hz:w.frozen? p=false) :
  CallsD Tryz.prog 164 #[.pointer (some p)] (.panicking ({v:=.iface 22 (.int .i64 x),recovered:=false}::older)) w fun e u' w'=>
   e=.returned (.tuple #[])∧u'=.panicking ({v:=.iface 22 (.int .i64 x),recovered:=true}::older)∧w'=w.setCell p (.int .i64 x):=by
 refine callsD_of_wpS Tryz.func164 rfl fun c₀ cs hu=>?_
 apply wpS_seq
 apply wpS_region
 simp[wpOpsS,go_sem,recoverD,hu,Tryz.ntmps164,Exit.thenS]
 apply wpS_seq
 apply wpS_region
 simp[wpOpsS,go_sem,Exit.thenS]
 refine wpS_cond (t:=true) (by simp[Act.eval,Array.replicate]) ?_
 simp only[if_true]
 apply wpS_region
 simp[wpOpsS,go_sem,bG,hc,hz,bodyPostS,results,Tryz.results164]
theorem yO (p:Addr) (w:World) :
  CallsD Tryz.prog 164 #[.pointer (some p)] .returning w fun e u' w'=>e=.returned (.tuple #[])∧u'=.returning∧w'=w:=by
 refine callsD_of_wpS Tryz.func164 rfl fun c₀ cs hu=>?_
 apply wpS_seq
 apply wpS_region
 simp[wpOpsS,go_sem,recoverD,hu,Tryz.ntmps164,Exit.thenS]
 apply wpS_seq
 apply wpS_region
 simp[wpOpsS,go_sem,Exit.thenS]
 refine wpS_cond (t:=false) (by simp[Act.eval,Array.replicate]) ?_
 simp only[Bool.false_eq_true,if_false]
 refine wpS_of_wp (wp_skip ?_)
 cases c₀
 simp_all [bodyPostS,results,Tryz.results164]
theorem yH (F:FuncId) (cap:Array Value) (hF:∀w,Sem.run Tryz.prog (callFunc F cap) w=.ok (.enter F cap) w) (P:Value→World→Prop) (w:World) (hP:∀v w',P v w'→P v (w'.setCell ⟨w.heap.size,0,none⟩ (.int .i64 0)))
  (h:Calls Tryz.prog F cap (w.alloc (.cells #[.int .i64 0] 22)) fun e w'=>∃v,e=.returned v∧P v w'∧Below (w.heap.size+1) (w.alloc (.cells #[.int .i64 0] 22)) w') :
  Calls Tryz.prog 137 #[.func (.func F) #[] cap] w fun e w'=>∃v,e=.returned (.tuple #[v,.int .i64 0])∧P v w'∧Below w.heap.size w w':=by
 have hmf:∀(fn:Fn) (first cap:Array Value) (w:World),(Instr.makeFunc fn first cap).run Tryz.prog w=.ok (.func fn first cap) w:=fun _ _ _ _=>rfl
 have H:Hid (Calls Tryz.prog F cap (w.alloc (.cells #[.int .i64 0] 22)) fun e w'=>∃v,e=.returned v∧P v w'∧Below (w.heap.size+1) (w.alloc (.cells #[.int .i64 0] 22)) w'):=h
 have HP:Hid (∀v w',P v w'→P v (w'.setCell ⟨w.heap.size,0,none⟩ (.int .i64 0))):=hP
 have HF:Hid (∀w,Sem.run Tryz.prog (callFunc F cap) w=.ok (.enter F cap) w):=hF
 clear h hP hF
 go_enter_defers Tryz.func137,Tryz.ntmps137
 go_wp2_with fail
 rw[HF.out,Oper.upon_enter]
 refine H.out.mono ?_
 clear H
 rintro e w1 ⟨v,rfl,hv,hb⟩
 have hc:w1.cell? ⟨w.heap.size,0,none⟩=some (.int .i64 0):=by rw[hb.cell (by simp)];simp
 have hf:w1.frozen? ⟨w.heap.size,0,none⟩=false:=by rw[hb.frozen (by simp)];simp
 have Hb:Hid (Below (w.heap.size+1) (w.alloc (.cells #[.int .i64 0] 22)) w1):=hb
 have HV:Hid (P v (w1.setCell ⟨w.heap.size,0,none⟩ (.int .i64 0))):=HP.out v w1 hv
 clear hb hv HP
 go_wp2
 refine leaves_cons (f:=164) (args:=#[.pointer (some ⟨w.heap.size,0,none⟩)]) (by simp) (by simp[go_sem]) ?_
 refine(yO ⟨w.heap.size,0,none⟩ _).mono ?_
 rintro e u' w'' ⟨rfl,rfl,rfl⟩
 simp[Leaves,settle,results,Tryz.results137,go_sem,hc]
 have hb:=Hb.out
 exact⟨HV.out,((Below.refl _ _).alloc (Nat.le_refl _) _ |>.trans (hb.mono (by omega))).setCell (by simp) _⟩
theorem yI (F:FuncId) (cap:Array Value) (hF:∀w,Sem.run Tryz.prog (callFunc F cap) w=.ok (.enter F cap) w) (x:Int) (w:World)
  (h:Calls Tryz.prog F cap (w.alloc (.cells #[.int .i64 0] 22)) fun e w'=>e=.panicked [{v:=.iface 22 (.int .i64 x),recovered:=false}]∧Below (w.heap.size+1) (w.alloc (.cells #[.int .i64 0] 22)) w') :
  Calls Tryz.prog 137 #[.func (.func F) #[] cap] w fun e w'=>e=.returned (.tuple #[.bool false,.int .i64 x])∧Below w.heap.size w w':=by
 have hmf:∀(fn:Fn) (first cap:Array Value) (w:World),(Instr.makeFunc fn first cap).run Tryz.prog w=.ok (.func fn first cap) w:=fun _ _ _ _=>rfl
 have H:Hid (Calls Tryz.prog F cap (w.alloc (.cells #[.int .i64 0] 22)) fun e w'=>e=.panicked [{v:=.iface 22 (.int .i64 x),recovered:=false}]∧Below (w.heap.size+1) (w.alloc (.cells #[.int .i64 0] 22)) w'):=h
 have HF:Hid (∀w,Sem.run Tryz.prog (callFunc F cap) w=.ok (.enter F cap) w):=hF
 clear h hF
 go_enter_defers Tryz.func137,Tryz.ntmps137
 go_wp2_with fail
 rw[HF.out,Oper.upon_enter]
 refine H.out.mono ?_
 clear H
 rintro e w1 ⟨rfl,hb⟩
 have hc:w1.cell? ⟨w.heap.size,0,none⟩=some (.int .i64 0):=by rw[hb.cell (by simp)];simp
 have hf:w1.frozen? ⟨w.heap.size,0,none⟩=false:=by rw[hb.frozen (by simp)];simp
 refine leaves_cons (f:=164) (args:=#[.pointer (some ⟨w.heap.size,0,none⟩)]) (by simp) (by simp[go_sem]) ?_
 refine(oD ⟨w.heap.size,0,none⟩ x 0 [] _ hc hf).mono ?_
 rintro e u' w'' ⟨rfl,rfl,rfl⟩
 simp[Leaves,settle,results,Tryz.results137,go_sem,hc]
 exact((Below.refl _ _).alloc (Nat.le_refl _) _ |>.trans (hb.mono (by omega))).setCell (by simp) _
structure Q4 where
 sa:Option Addr
 ra:Option Addr
 wa:Option Addr
 va:Option Addr
 sn:Nat
 rn:Nat
 wn:Nat
 vn:Nat
 sc:Nat
 rc:Nat
 tc:Nat
 vc:Nat
theorem nV (p:Addr) (x y:Int) (older:List PanicEntry) (w:World) (hc:w.cell? p=some (.int .i64 y)) (hz:w.frozen? p=false) :
  CallsD Tryz.prog 255 #[.pointer (some p)] (.panicking ({v:=.iface 22 (.int .i64 x),recovered:=false}::older)) w fun e u' w'=>
   e=.returned (.tuple #[])∧u'=.panicking ({v:=.iface 22 (.int .i64 x),recovered:=true}::older)∧w'=w.setCell p (.int .i64 x):=by
 refine callsD_of_wpS Tryz.func255 rfl fun c₀ cs hu=>?_
 apply wpS_seq
 apply wpS_region
 simp[wpOpsS,go_sem,recoverD,hu,Tryz.ntmps255,Exit.thenS]
 apply wpS_seq
 apply wpS_region
 simp[wpOpsS,go_sem,Exit.thenS]
 refine wpS_cond (t:=true) (by simp[Act.eval,Array.replicate]) ?_
 simp only[if_true]
 apply wpS_region
 simp[wpOpsS,go_sem,bG,hc,hz,bodyPostS,results,Tryz.results255]
theorem yJ (p:Addr) (w:World) :
  CallsD Tryz.prog 255 #[.pointer (some p)] .returning w fun e u' w'=>e=.returned (.tuple #[])∧u'=.returning∧w'=w:=by
 refine callsD_of_wpS Tryz.func255 rfl fun c₀ cs hu=>?_
 apply wpS_seq
 apply wpS_region
 simp[wpOpsS,go_sem,recoverD,hu,Tryz.ntmps255,Exit.thenS]
 apply wpS_seq
 apply wpS_region
 simp[wpOpsS,go_sem,Exit.thenS]
 refine wpS_cond (t:=false) (by simp[Act.eval,Array.replicate]) ?_
 simp only[Bool.false_eq_true,if_false]
 refine wpS_of_wp (wp_skip ?_)
 cases c₀
 simp_all [bodyPostS,results,Tryz.results255]
theorem xZ (F:FuncId) (cap:Array Value) (hF:∀w,Sem.run Tryz.prog (callFunc F cap) w=.ok (.enter F cap) w) (P:Value→World→Prop) (w:World) (hP:∀v w',P v w'→P v (w'.setCell ⟨w.heap.size,0,none⟩ (.int .i64 0)))
  (h:Calls Tryz.prog F cap (w.alloc (.cells #[.int .i64 0] 22)) fun e w'=>∃v,e=.returned v∧P v w'∧Below (w.heap.size+1) (w.alloc (.cells #[.int .i64 0] 22)) w') :
  Calls Tryz.prog 212 #[.func (.func F) #[] cap] w fun e w'=>∃v,e=.returned (.tuple #[v,.int .i64 0])∧P v w'∧Below w.heap.size w w':=by
 have hmf:∀(fn:Fn) (first cap:Array Value) (w:World),(Instr.makeFunc fn first cap).run Tryz.prog w=.ok (.func fn first cap) w:=fun _ _ _ _=>rfl
 have H:Hid (Calls Tryz.prog F cap (w.alloc (.cells #[.int .i64 0] 22)) fun e w'=>∃v,e=.returned v∧P v w'∧Below (w.heap.size+1) (w.alloc (.cells #[.int .i64 0] 22)) w'):=h
 have HP:Hid (∀v w',P v w'→P v (w'.setCell ⟨w.heap.size,0,none⟩ (.int .i64 0))):=hP
 have HF:Hid (∀w,Sem.run Tryz.prog (callFunc F cap) w=.ok (.enter F cap) w):=hF
 clear h hP hF
 go_enter_defers Tryz.func212,Tryz.ntmps212
 go_wp2_with fail
 rw[HF.out,Oper.upon_enter]
 refine H.out.mono ?_
 clear H
 rintro e w1 ⟨v,rfl,hv,hb⟩
 have hc:w1.cell? ⟨w.heap.size,0,none⟩=some (.int .i64 0):=by rw[hb.cell (by simp)];simp
 have hf:w1.frozen? ⟨w.heap.size,0,none⟩=false:=by rw[hb.frozen (by simp)];simp
 have Hb:Hid (Below (w.heap.size+1) (w.alloc (.cells #[.int .i64 0] 22)) w1):=hb
 have HV:Hid (P v (w1.setCell ⟨w.heap.size,0,none⟩ (.int .i64 0))):=HP.out v w1 hv
 clear hb hv HP
 go_wp2
 refine leaves_cons (f:=255) (args:=#[.pointer (some ⟨w.heap.size,0,none⟩)]) (by simp) (by simp[go_sem]) ?_
 refine(yJ ⟨w.heap.size,0,none⟩ _).mono ?_
 rintro e u' w'' ⟨rfl,rfl,rfl⟩
 simp[Leaves,settle,results,Tryz.results212,go_sem,hc]
 have hb:=Hb.out
 exact⟨HV.out,((Below.refl _ _).alloc (Nat.le_refl _) _ |>.trans (hb.mono (by omega))).setCell (by simp) _⟩
theorem yA (F:FuncId) (cap:Array Value) (hF:∀w,Sem.run Tryz.prog (callFunc F cap) w=.ok (.enter F cap) w) (x:Int) (w:World)
  (h:Calls Tryz.prog F cap (w.alloc (.cells #[.int .i64 0] 22)) fun e w'=>e=.panicked [{v:=.iface 22 (.int .i64 x),recovered:=false}]∧Below (w.heap.size+1) (w.alloc (.cells #[.int .i64 0] 22)) w') :
  Calls Tryz.prog 212 #[.func (.func F) #[] cap] w fun e w'=>e=.returned (.tuple #[.slice none 0 0,.int .i64 x])∧Below w.heap.size w w':=by
 have hmf:∀(fn:Fn) (first cap:Array Value) (w:World),(Instr.makeFunc fn first cap).run Tryz.prog w=.ok (.func fn first cap) w:=fun _ _ _ _=>rfl
 have H:Hid (Calls Tryz.prog F cap (w.alloc (.cells #[.int .i64 0] 22)) fun e w'=>e=.panicked [{v:=.iface 22 (.int .i64 x),recovered:=false}]∧Below (w.heap.size+1) (w.alloc (.cells #[.int .i64 0] 22)) w'):=h
 have HF:Hid (∀w,Sem.run Tryz.prog (callFunc F cap) w=.ok (.enter F cap) w):=hF
 clear h hF
 go_enter_defers Tryz.func212,Tryz.ntmps212
 go_wp2_with fail
 rw[HF.out,Oper.upon_enter]
 refine H.out.mono ?_
 clear H
 rintro e w1 ⟨rfl,hb⟩
 have hc:w1.cell? ⟨w.heap.size,0,none⟩=some (.int .i64 0):=by rw[hb.cell (by simp)];simp
 have hf:w1.frozen? ⟨w.heap.size,0,none⟩=false:=by rw[hb.frozen (by simp)];simp
 refine leaves_cons (f:=255) (args:=#[.pointer (some ⟨w.heap.size,0,none⟩)]) (by simp) (by simp[go_sem]) ?_
 refine(nV ⟨w.heap.size,0,none⟩ x 0 [] _ hc hf).mono ?_
 rintro e u' w'' ⟨rfl,rfl,rfl⟩
 simp[Leaves,settle,results,Tryz.results212,go_sem,hc]
 exact((Below.refl _ _).alloc (Nat.le_refl _) _ |>.trans (hb.mono (by omega))).setCell (by simp) _
theorem nZ (p:Addr) (x y:Int) (older:List PanicEntry) (w:World) (hc:w.cell? p=some (.int .i64 y)) (hz:w.frozen? p=false) :
  CallsD Tryz.prog 216 #[.pointer (some p)] (.panicking ({v:=.iface 22 (.int .i64 x),recovered:=false}::older)) w fun e u' w'=>
   e=.returned (.tuple #[])∧u'=.panicking ({v:=.iface 22 (.int .i64 x),recovered:=true}::older)∧w'=w.setCell p (.int .i64 x):=by
 refine callsD_of_wpS Tryz.func216 rfl fun c₀ cs hu=>?_
 apply wpS_seq
 apply wpS_region
 simp[wpOpsS,go_sem,recoverD,hu,Tryz.ntmps216,Exit.thenS]
 apply wpS_seq
 apply wpS_region
 simp[wpOpsS,go_sem,Exit.thenS]
 refine wpS_cond (t:=true) (by simp[Act.eval,Array.replicate]) ?_
 simp only[if_true]
 apply wpS_region
 simp[wpOpsS,go_sem,bG,hc,hz,bodyPostS,results,Tryz.results216]
theorem yL (p:Addr) (w:World) :
  CallsD Tryz.prog 216 #[.pointer (some p)] .returning w fun e u' w'=>e=.returned (.tuple #[])∧u'=.returning∧w'=w:=by
 refine callsD_of_wpS Tryz.func216 rfl fun c₀ cs hu=>?_
 apply wpS_seq
 apply wpS_region
 simp[wpOpsS,go_sem,recoverD,hu,Tryz.ntmps216,Exit.thenS]
 apply wpS_seq
 apply wpS_region
 simp[wpOpsS,go_sem,Exit.thenS]
 refine wpS_cond (t:=false) (by simp[Act.eval,Array.replicate]) ?_
 simp only[Bool.false_eq_true,if_false]
 refine wpS_of_wp (wp_skip ?_)
 cases c₀
 simp_all [bodyPostS,results,Tryz.results216]
theorem yB (F:FuncId) (cap:Array Value) (hF:∀w,Sem.run Tryz.prog (callFunc F cap) w=.ok (.enter F cap) w) (P:Value→World→Prop) (w:World) (hP:∀v w',P v w'→P v (w'.setCell ⟨w.heap.size,0,none⟩ (.int .i64 0)))
  (h:Calls Tryz.prog F cap (w.alloc (.cells #[.int .i64 0] 22)) fun e w'=>∃v,e=.returned v∧P v w'∧Below (w.heap.size+1) (w.alloc (.cells #[.int .i64 0] 22)) w') :
  Calls Tryz.prog 182 #[.func (.func F) #[] cap] w fun e w'=>∃v,e=.returned (.tuple #[v,.int .i64 0])∧P v w'∧Below w.heap.size w w':=by
 have hmf:∀(fn:Fn) (first cap:Array Value) (w:World),(Instr.makeFunc fn first cap).run Tryz.prog w=.ok (.func fn first cap) w:=fun _ _ _ _=>rfl
 have H:Hid (Calls Tryz.prog F cap (w.alloc (.cells #[.int .i64 0] 22)) fun e w'=>∃v,e=.returned v∧P v w'∧Below (w.heap.size+1) (w.alloc (.cells #[.int .i64 0] 22)) w'):=h
 have HP:Hid (∀v w',P v w'→P v (w'.setCell ⟨w.heap.size,0,none⟩ (.int .i64 0))):=hP
 have HF:Hid (∀w,Sem.run Tryz.prog (callFunc F cap) w=.ok (.enter F cap) w):=hF
 clear h hP hF
 go_enter_defers Tryz.func182,Tryz.ntmps182
 go_wp2_with fail
 rw[HF.out,Oper.upon_enter]
 refine H.out.mono ?_
 clear H
 rintro e w1 ⟨v,rfl,hv,hb⟩
 have hc:w1.cell? ⟨w.heap.size,0,none⟩=some (.int .i64 0):=by rw[hb.cell (by simp)];simp
 have hf:w1.frozen? ⟨w.heap.size,0,none⟩=false:=by rw[hb.frozen (by simp)];simp
 have Hb:Hid (Below (w.heap.size+1) (w.alloc (.cells #[.int .i64 0] 22)) w1):=hb
 have HV:Hid (P v (w1.setCell ⟨w.heap.size,0,none⟩ (.int .i64 0))):=HP.out v w1 hv
 clear hb hv HP
 go_wp2
 refine leaves_cons (f:=216) (args:=#[.pointer (some ⟨w.heap.size,0,none⟩)]) (by simp) (by simp[go_sem]) ?_
 refine(yL ⟨w.heap.size,0,none⟩ _).mono ?_
 rintro e u' w'' ⟨rfl,rfl,rfl⟩
 simp[Leaves,settle,results,Tryz.results182,go_sem,hc]
 have hb:=Hb.out
 exact⟨HV.out,((Below.refl _ _).alloc (Nat.le_refl _) _ |>.trans (hb.mono (by omega))).setCell (by simp) _⟩
theorem yC (F:FuncId) (cap:Array Value) (hF:∀w,Sem.run Tryz.prog (callFunc F cap) w=.ok (.enter F cap) w) (x:Int) (w:World)
  (h:Calls Tryz.prog F cap (w.alloc (.cells #[.int .i64 0] 22)) fun e w'=>e=.panicked [{v:=.iface 22 (.int .i64 x),recovered:=false}]∧Below (w.heap.size+1) (w.alloc (.cells #[.int .i64 0] 22)) w') :
  Calls Tryz.prog 182 #[.func (.func F) #[] cap] w fun e w'=>e=.returned (.tuple #[.slice none 0 0,.int .i64 x])∧Below w.heap.size w w':=by
 have hmf:∀(fn:Fn) (first cap:Array Value) (w:World),(Instr.makeFunc fn first cap).run Tryz.prog w=.ok (.func fn first cap) w:=fun _ _ _ _=>rfl
 have H:Hid (Calls Tryz.prog F cap (w.alloc (.cells #[.int .i64 0] 22)) fun e w'=>e=.panicked [{v:=.iface 22 (.int .i64 x),recovered:=false}]∧Below (w.heap.size+1) (w.alloc (.cells #[.int .i64 0] 22)) w'):=h
 have HF:Hid (∀w,Sem.run Tryz.prog (callFunc F cap) w=.ok (.enter F cap) w):=hF
 clear h hF
 go_enter_defers Tryz.func182,Tryz.ntmps182
 go_wp2_with fail
 rw[HF.out,Oper.upon_enter]
 refine H.out.mono ?_
 clear H
 rintro e w1 ⟨rfl,hb⟩
 have hc:w1.cell? ⟨w.heap.size,0,none⟩=some (.int .i64 0):=by rw[hb.cell (by simp)];simp
 have hf:w1.frozen? ⟨w.heap.size,0,none⟩=false:=by rw[hb.frozen (by simp)];simp
 refine leaves_cons (f:=216) (args:=#[.pointer (some ⟨w.heap.size,0,none⟩)]) (by simp) (by simp[go_sem]) ?_
 refine(nZ ⟨w.heap.size,0,none⟩ x 0 [] _ hc hf).mono ?_
 rintro e u' w'' ⟨rfl,rfl,rfl⟩
 simp[Leaves,settle,results,Tryz.results182,go_sem,hc]
 exact((Below.refl _ _).alloc (Nat.le_refl _) _ |>.trans (hb.mono (by omega))).setCell (by simp) _
theorem nY (p:Addr) (x y:Int) (older:List PanicEntry) (w:World) (hc:w.cell? p=some (.int .i64 y)) (hz:w.frozen? p=false) :
  CallsD Tryz.prog 114 #[.pointer (some p)] (.panicking ({v:=.iface 22 (.int .i64 x),recovered:=false}::older)) w fun e u' w'=>
   e=.returned (.tuple #[])∧u'=.panicking ({v:=.iface 22 (.int .i64 x),recovered:=true}::older)∧w'=w.setCell p (.int .i64 x):=by
 refine callsD_of_wpS Tryz.func114 rfl fun c₀ cs hu=>?_
 apply wpS_seq
 apply wpS_region
 simp[wpOpsS,go_sem,recoverD,hu,Tryz.ntmps114,Exit.thenS]
 apply wpS_seq
 apply wpS_region
 simp[wpOpsS,go_sem,Exit.thenS]
 refine wpS_cond (t:=true) (by simp[Act.eval,Array.replicate]) ?_
 simp only[if_true]
 apply wpS_region
 simp[wpOpsS,go_sem,bG,hc,hz,bodyPostS,results,Tryz.results114]
theorem yK (p:Addr) (w:World) :
  CallsD Tryz.prog 114 #[.pointer (some p)] .returning w fun e u' w'=>e=.returned (.tuple #[])∧u'=.returning∧w'=w:=by
 refine callsD_of_wpS Tryz.func114 rfl fun c₀ cs hu=>?_
 apply wpS_seq
 apply wpS_region
 simp[wpOpsS,go_sem,recoverD,hu,Tryz.ntmps114,Exit.thenS]
 apply wpS_seq
 apply wpS_region
 simp[wpOpsS,go_sem,Exit.thenS]
 refine wpS_cond (t:=false) (by simp[Act.eval,Array.replicate]) ?_
 simp only[Bool.false_eq_true,if_false]
 refine wpS_of_wp (wp_skip ?_)
 cases c₀
 simp_all [bodyPostS,results,Tryz.results114]
theorem nU (F:FuncId) (cap:Array Value) (hF:∀w,Sem.run Tryz.prog (callFunc F cap) w=.ok (.enter F cap) w) (P:Q4→World→Prop) (w:World) (hP:∀q w' i u j,(j=w.heap.size∨j=w.heap.size+1)→P q w'→P q (w'.setCell ⟨j,i,none⟩ u))
  (h:Calls Tryz.prog F cap ((w.alloc (.cells #[.slice none 0 0,.slice none 0 0,.slice none 0 0,.slice none 0 0] 45)).alloc (.cells #[.int .i64 0] 22)) fun e w'=>∃q:Q4,e=.returned (.agg #[.slice q.sa q.sn q.sc,.slice q.ra q.rn q.rc,.slice q.wa q.wn q.tc,.slice q.va q.vn q.vc])∧P q w'∧Below ((w.alloc (.cells #[.slice none 0 0,.slice none 0 0,.slice none 0 0,.slice none 0 0] 45)).alloc (.cells #[.int .i64 0] 22)).heap.size ((w.alloc (.cells #[.slice none 0 0,.slice none 0 0,.slice none 0 0,.slice none 0 0] 45)).alloc (.cells #[.int .i64 0] 22)) w') :
  Calls Tryz.prog 76 #[.func (.func F) #[] cap] w fun e w'=>∃q:Q4,e=.returned (.tuple #[.agg #[.slice q.sa q.sn q.sc,.slice q.ra q.rn q.rc,.slice q.wa q.wn q.tc,.slice q.va q.vn q.vc],.int .i64 0])∧P q w'∧Below w.heap.size w w':=by
 have hmf:∀(fn:Fn) (first cap:Array Value) (w:World),(Instr.makeFunc fn first cap).run Tryz.prog w=.ok (.func fn first cap) w:=fun _ _ _ _=>rfl
 have H:Hid (Calls Tryz.prog F cap ((w.alloc (.cells #[.slice none 0 0,.slice none 0 0,.slice none 0 0,.slice none 0 0] 45)).alloc (.cells #[.int .i64 0] 22)) fun e w'=>∃q:Q4,e=.returned (.agg #[.slice q.sa q.sn q.sc,.slice q.ra q.rn q.rc,.slice q.wa q.wn q.tc,.slice q.va q.vn q.vc])∧P q w'∧Below ((w.alloc (.cells #[.slice none 0 0,.slice none 0 0,.slice none 0 0,.slice none 0 0] 45)).alloc (.cells #[.int .i64 0] 22)).heap.size ((w.alloc (.cells #[.slice none 0 0,.slice none 0 0,.slice none 0 0,.slice none 0 0] 45)).alloc (.cells #[.int .i64 0] 22)) w'):=h
 have HP:Hid (∀q w' i u j,(j=w.heap.size∨j=w.heap.size+1)→P q w'→P q (w'.setCell ⟨j,i,none⟩ u)):=hP
 have HF:Hid (∀w,Sem.run Tryz.prog (callFunc F cap) w=.ok (.enter F cap) w):=hF
 clear h hP hF
 go_enter_defers Tryz.func76,Tryz.ntmps76
 go_wp2_with fail
 rw[HF.out,Oper.upon_enter]
 refine H.out.mono ?_
 clear H
 rintro e w1 ⟨q,rfl,hq,hb⟩
 have e0:w1.cell? ⟨w.heap.size+1,0,none⟩=some (.int .i64 0):=aB hb (aG _ _ 22 _ 0 _ (by simp) rfl)
 have ef:∀j,w1.frozen? ⟨w.heap.size+1,j,none⟩=false:=fun j=>(hb.frozen (p:=⟨w.heap.size+1,j,none⟩) (by simp)).trans (by simp)
 have c0:w1.cell? ⟨w.heap.size,0,none⟩=some (.slice none 0 0):=aB hb (aB (aA (Below.refl _ _) _) (aG w _ 45 _ 0 _ rfl rfl))
 have c1:w1.cell? ⟨w.heap.size,1,none⟩=some (.slice none 0 0):=aB hb (aB (aA (Below.refl _ _) _) (aG w _ 45 _ 1 _ rfl rfl))
 have c2:w1.cell? ⟨w.heap.size,2,none⟩=some (.slice none 0 0):=aB hb (aB (aA (Below.refl _ _) _) (aG w _ 45 _ 2 _ rfl rfl))
 have c3:w1.cell? ⟨w.heap.size,3,none⟩=some (.slice none 0 0):=aB hb (aB (aA (Below.refl _ _) _) (aG w _ 45 _ 3 _ rfl rfl))
 have cf:∀j,w1.frozen? ⟨w.heap.size,j,none⟩=false:=fun j=>(hb.frozen (p:=⟨w.heap.size,j,none⟩) (by simp;omega)).trans (((aA (Below.refl (w.alloc (.cells #[.slice none 0 0,.slice none 0 0,.slice none 0 0,.slice none 0 0] 45)).heap.size (w.alloc (.cells #[.slice none 0 0,.slice none 0 0,.slice none 0 0,.slice none 0 0] 45))) (.cells #[.int .i64 0] 22)).frozen (p:=⟨w.heap.size,j,none⟩) (by simp)).trans (by simp))
 have HV:Hid (P q w1):=hq
 have B1:Hid (Below w.heap.size w w1):=aC (aA (aA (Below.refl _ _) _) _) hb
 clear hb hq
 go_wp2
 refine leaves_cons (f:=114) (args:=#[.pointer (some ⟨w.heap.size+1,0,none⟩)]) (by simp) (by simp[go_sem]) ?_
 refine(yK ⟨w.heap.size+1,0,none⟩ _).mono ?_
 rintro e u' w'' ⟨rfl,rfl,rfl⟩
 simp[Leaves,settle,results,Tryz.results76,go_sem,e0,c0,c1,c2,c3]
 refine⟨q,by simp,?_,?_⟩
 ·exact HP.out _ _ 0 _ _ (.inr rfl) (HP.out _ _ 3 _ _ (.inl rfl) (HP.out _ _ 2 _ _ (.inl rfl) (HP.out _ _ 1 _ _ (.inl rfl) (HP.out _ _ 0 _ _ (.inl rfl) HV.out))))
 ·exact aI (aI (aI (aI (aI B1.out (Nat.le_refl _) _) (Nat.le_refl _) _) (Nat.le_refl _) _) (Nat.le_refl _) _) (by simp) _
theorem kH (F:FuncId) (cap:Array Value) (hF:∀w,Sem.run Tryz.prog (callFunc F cap) w=.ok (.enter F cap) w) (x:Int) (w:World)
  (h:Calls Tryz.prog F cap ((w.alloc (.cells #[.slice none 0 0,.slice none 0 0,.slice none 0 0,.slice none 0 0] 45)).alloc (.cells #[.int .i64 0] 22)) fun e w'=>e=.panicked [{v:=.iface 22 (.int .i64 x),recovered:=false}]∧Below ((w.alloc (.cells #[.slice none 0 0,.slice none 0 0,.slice none 0 0,.slice none 0 0] 45)).alloc (.cells #[.int .i64 0] 22)).heap.size ((w.alloc (.cells #[.slice none 0 0,.slice none 0 0,.slice none 0 0,.slice none 0 0] 45)).alloc (.cells #[.int .i64 0] 22)) w') :
  Calls Tryz.prog 76 #[.func (.func F) #[] cap] w fun e w'=>e=.returned (.tuple #[.agg #[.slice none 0 0,.slice none 0 0,.slice none 0 0,.slice none 0 0],.int .i64 x])∧Below w.heap.size w w':=by
 have hmf:∀(fn:Fn) (first cap:Array Value) (w:World),(Instr.makeFunc fn first cap).run Tryz.prog w=.ok (.func fn first cap) w:=fun _ _ _ _=>rfl
 have H:Hid (Calls Tryz.prog F cap ((w.alloc (.cells #[.slice none 0 0,.slice none 0 0,.slice none 0 0,.slice none 0 0] 45)).alloc (.cells #[.int .i64 0] 22)) fun e w'=>e=.panicked [{v:=.iface 22 (.int .i64 x),recovered:=false}]∧Below ((w.alloc (.cells #[.slice none 0 0,.slice none 0 0,.slice none 0 0,.slice none 0 0] 45)).alloc (.cells #[.int .i64 0] 22)).heap.size ((w.alloc (.cells #[.slice none 0 0,.slice none 0 0,.slice none 0 0,.slice none 0 0] 45)).alloc (.cells #[.int .i64 0] 22)) w'):=h
 have HF:Hid (∀w,Sem.run Tryz.prog (callFunc F cap) w=.ok (.enter F cap) w):=hF
 clear h hF
 go_enter_defers Tryz.func76,Tryz.ntmps76
 go_wp2_with fail
 rw[HF.out,Oper.upon_enter]
 refine H.out.mono ?_
 clear H
 rintro e w1 ⟨rfl,hb⟩
 have e0:w1.cell? ⟨w.heap.size+1,0,none⟩=some (.int .i64 0):=aB hb (aG _ _ 22 _ 0 _ (by simp) rfl)
 have ef:w1.frozen? ⟨w.heap.size+1,0,none⟩=false:=(hb.frozen (p:=⟨w.heap.size+1,0,none⟩) (by simp)).trans (by simp)
 have c0:w1.cell? ⟨w.heap.size,0,none⟩=some (.slice none 0 0):=aB hb (aB (aA (Below.refl _ _) _) (aG w _ 45 _ 0 _ rfl rfl))
 have c1:w1.cell? ⟨w.heap.size,1,none⟩=some (.slice none 0 0):=aB hb (aB (aA (Below.refl _ _) _) (aG w _ 45 _ 1 _ rfl rfl))
 have c2:w1.cell? ⟨w.heap.size,2,none⟩=some (.slice none 0 0):=aB hb (aB (aA (Below.refl _ _) _) (aG w _ 45 _ 2 _ rfl rfl))
 have c3:w1.cell? ⟨w.heap.size,3,none⟩=some (.slice none 0 0):=aB hb (aB (aA (Below.refl _ _) _) (aG w _ 45 _ 3 _ rfl rfl))
 have B1:Below w.heap.size w w1:=aC (aA (aA (Below.refl _ _) _) _) hb
 clear hb
 refine leaves_cons (f:=114) (args:=#[.pointer (some ⟨w.heap.size+1,0,none⟩)]) (by simp) (by simp[go_sem]) ?_
 refine(nY ⟨w.heap.size+1,0,none⟩ x 0 [] _ e0 ef).mono ?_
 rintro e u' w'' ⟨rfl,rfl,rfl⟩
 simp[Leaves,settle,results,Tryz.results76,go_sem,e0,c0,c1,c2,c3]
 exact aI B1 (by simp) _
end Go.Proofs.YtcgpkonfneofdaaGreatDoor
