/- Conditions: those that each theorem states. -/
import Derived.Test.YtcgpkonfneofdaaGreatDoorSWireW
set_option maxRecDepth 100000
set_option maxHeartbeats 8000000
namespace Go.Proofs.YtcgpkonfneofdaaGreatDoor
open Go.RowKit
section
theorem few_of {m:Int} {l:List TxA} (h:aM m l=0):l.length≤8∧Few l:=by
 obtain⟨_,_,h3⟩:=aY h
 refine⟨eD h3,fun k hk=>?_⟩
 have hx:=nR h3 k hk
 generalize l.getD k x0=x at *
 have hmany:bF x.rs.length x.gs.length x.ss.length=0:=by
  by_cases hm:bF x.rs.length x.gs.length x.ss.length=0
  ·exact hm
  ·have h1:=tH x.rs x.gs x.ss hm
   have h2:bA x.rs x.gs x.ss=0:=hx
   omega
 obtain⟨m1,m2,m3,_⟩:=bL _ _ _ hmany
 exact⟨by omega,by omega,by omega⟩
theorem plB_byt (m:Int) (l:List TxA):Byt (plB m l):=by
 have hm:∀x:Int,0≤x%256∧x%256<256:=fun x=>⟨Int.emod_nonneg _ (by decide),Int.emod_lt_of_pos _ (by decide)⟩
 have hv:∀n:Int,Byt (iY n):=valL_byt
 have ho:∀k n:Int,Byt (opB k n):=fun k n b hb=>by
  rcases List.mem_cons.1 hb with rfl | hb
  ·exact hm _
  ·exact hv n b hb
 have hg:∀x:Gd,Byt (gdB x.k x.ak x.an x.bk x.bn):=fun x b hb=>by
  rcases List.mem_cons.1 hb with rfl | hb
  ·exact hm _
  ·rcases List.mem_append.1 hb with hb | hb
   ·exact ho _ _ b hb
   ·exact ho _ _ b hb
 have hs:∀x:St,Byt (stB x.key x.op x.ak x.an x.bk x.bn):=fun x b hb=>by
  rcases List.mem_cons.1 hb with rfl | hb
  ·exact hm _
  ·rcases List.mem_cons.1 hb with rfl | hb
   ·exact hm _
   ·rcases List.mem_append.1 hb with hb | hb
    ·exact ho _ _ b hb
    ·exact ho _ _ b hb
 have hx:∀x:TxA,Byt (xB x):=fun x b hb=>by
  rcases List.mem_append.1 hb with hb | hb
  ·rcases List.mem_append.1 hb with hb | hb
   ·rcases List.mem_cons.1 hb with rfl | hb
    ·exact hm _
    ·obtain⟨z,_,rfl⟩:=List.mem_map.1 hb
     exact hm _
   ·rcases List.mem_cons.1 hb with rfl | hb
    ·exact hm _
    ·obtain⟨z,_,hz⟩:=List.mem_flatMap.1 hb
     exact hg z b hz
  ·rcases List.mem_cons.1 hb with rfl | hb
   ·exact hm _
   ·obtain⟨z,_,hz⟩:=List.mem_flatMap.1 hb
    exact hs z b hz
 intro b hb
 rcases List.mem_cons.1 hb with rfl | hb
 ·exact hm _
 ·rcases List.mem_cons.1 hb with rfl | hb
  ·exact hm _
  ·obtain⟨z,_,hz⟩:=List.mem_flatMap.1 hb
   exact hx z b hz
theorem conv_bytes (w:World) (base g cap:Nat) (bs:List Int) (h:w.ownsRow base 5 1 (.slice (some ⟨g,0,none⟩) bs.length cap) bs.length (bs.map (Value.int .u8))) (hB:Byt bs) :
  ∃S:ByteArray,(convert 52 9 (.slice (some ⟨g,0,none⟩) bs.length cap)).run Tryz.prog w=.ok (.string S) w∧eS S=bs:=by
 have hl:=run_loadCells_list (P:=Tryz.prog) w ⟨g,0,none⟩ (bs.map (Value.int .u8)) (fun j v hj=>h.cells (g:=g) rfl j v hj)
 simp only[List.length_map]at hl
 refine⟨_,(run_convert_bytes_string w 52 9 5 _ _ _ Tryz.underlying52 (by kernel_rfl) (by kernel_rfl)).trans (run_bytesToString w ⟨g,0,none⟩ bs.length cap bs hl),?_⟩
 rw[uP bs _ hB]
 rfl
variable (la:Option Addr) (lc:Nat) (l:List TxA) (m:Int)
theorem write1_ok (B:Nat) (w:World) (c0:w.cell? ⟨B,0,none⟩=some (.int .i64 m)) (c1:w.cell? ⟨B,1,none⟩=some (.slice la l.length lc)) (hl:IsTxs w la l) (hE:aM m l=0) :
  Calls Tryz.prog 27 #[.pointer (some ⟨B,0,none⟩)] w fun e w'=>∃v,e=.returned v∧(∃S,v=.string S∧eS S=plB m l)∧Below w.heap.size w w':=by
 obtain⟨h8,hfew⟩:=few_of hE
 have HFW:Hid (Few l):=hfew
 have HL:Hid (IsTxs w la l):=hl
 have CP:=bB la lc l m w hl
 rw[hE]at CP
 have HCP:=hid CP
 clear hl hE CP hfew
 go_enter Tryz.func27,Tryz.ntmps27
 go_wp2_with fail
 refine HCP.out.mono ?_
 rintro e w1 ⟨rfl,hb1⟩
 have d0:=aB hb1 c0
 have d1:=aB hb1 c1
 clear c0 c1 HCP
 go_wp2_with fail
 refine(aO [0] _ 1 _ (by simp) rfl (cD _ _ _ rfl)).mono ?_
 rintro e w' ⟨rfl,rfl⟩
 have HB:B<w1.heap.size:=World.block_lt_of_cell? w1 ⟨B,0,none⟩ d0
 have b0:Below w.heap.size w ((w1.alloc (.cells #[.int .i64 0] 22)).alloc (.cells #[.slice none 0 0] 73)):=aC hb1 (aA (aA (Below.refl _ _) _) _)
 have B0:Hid (Below w.heap.size w ((w1.alloc (.cells #[.int .i64 0] 22)).alloc (.cells #[.slice none 0 0] 73))):=b0
 have hsz:=hb1.size
 clear b0 hb1
 go_wp2_with fail
 refine(wrPlan_any (w1.heap.size+1) m l la lc [] _ ⟨.slice none 0 0,by simp,by simp,World.ownsRow_nil _ _ _ _⟩ (by simp) h8 HFW.out (fun w' hb=>HL.out.below (B0.out.trans (hb.mono (by omega))))).mono ?_
 rintro e w3 ⟨rfl,h3,k3⟩
 obtain⟨v,hc,hf,ho⟩:=h3
 have B3:Hid (Below w.heap.size w w3):=B0.out.trans ((k3.below (by simp)).mono (by omega))
 obtain⟨g,cap,hv,_,_⟩:=ho.form (by simp[plB])
 subst hv
 rw[List.nil_append]at ho hc
 obtain⟨S,hS,hSl⟩:=conv_bytes w3 _ g cap _ ho (plB_byt m l)
 have HS:Hid (eS S=plB m l):=hSl
 clear k3 ho hSl
 generalize (plB m l).length=N at *
 go_wp2
 go_ret
 exact⟨_,rfl,⟨S,rfl,HS.out⟩,B3.out⟩
theorem write1_bad (B:Nat) (w:World) (c0:w.cell? ⟨B,0,none⟩=some (.int .i64 m)) (c1:w.cell? ⟨B,1,none⟩=some (.slice la l.length lc)) (hl:IsTxs w la l) (hE:¬aM m l=0) :
  Calls Tryz.prog 27 #[.pointer (some ⟨B,0,none⟩)] w fun e w'=>e=.panicked [{v:=.iface 22 (.int .i64 (aM m l)),recovered:=false}]∧Below w.heap.size w w':=by
 have HCP:=hid (bB la lc l m w hl)
 have HE:Hid (¬aM m l=0):=hE
 clear hl hE
 generalize aM m l=E at *
 go_enter Tryz.func27,Tryz.ntmps27
 go_wp2_with fail
 refine HCP.out.mono ?_
 rintro e w1 ⟨rfl,hb1⟩
 have B1:Hid (Below w.heap.size w w1):=hb1
 clear hb1 HCP
 go_wp2_with fail
 refine(cF [E] 0 E w1.heap.size 1 _ (by simp) (by simp) (by simp) rfl HE.out (cD _ _ _ rfl)).mono ?_
 rintro e w' ⟨rfl,rfl⟩
 go_wp2
 exact⟨rfl,rfl,aA B1.out _⟩
def wrL (m:Int) (l:List TxA):List Int:=if aM m l=0 then plB m l else []
theorem iX (w:World) (hl:IsTxs w la l) :
  Calls Tryz.prog 8 #[.agg #[.int .i64 m,.slice la l.length lc]] w fun e w'=>∃S,e=.returned (.tuple #[.string S,.int .i64 (aM m l)])∧eS S=wrL m l∧Below w.heap.size w w':=by
 have hmf:∀(fn:Fn) (first cap:Array Value) (w:World),(Instr.makeFunc fn first cap).run Tryz.prog w=.ok (.func fn first cap) w:=fun _ _ _ _=>rfl
 obtain⟨W,hWe⟩:∃W,W=w.alloc (.cells #[.int .i64 m,.slice la l.length lc] 29):=⟨_,rfl⟩
 have HWE:Hid (W=w.alloc (.cells #[.int .i64 m,.slice la l.length lc] 29)):=hWe
 have c0:W.cell? ⟨w.heap.size,0,none⟩=some (.int .i64 m):=by subst hWe;simp
 have c1:W.cell? ⟨w.heap.size,1,none⟩=some (.slice la l.length lc):=by subst hWe;simp
 have BW:Below w.heap.size w W:=by subst hWe;exact aA (Below.refl _ _) _
 have HL:IsTxs W la l:=hl.below BW
 clear hl hWe
 have E0:Below W.heap.size W (W.alloc (.cells #[.int .i64 0] 22)):=aA (Below.refl _ _) _
 have e0:=aB E0 c0
 have e1:=aB E0 c1
 have BW':Hid (Below w.heap.size w W):=BW
 by_cases hE:aM m l=0
 ·have HC:=nT 27 #[.pointer (some ⟨w.heap.size,0,none⟩)] (fun _=>rfl) (fun v _=>∃S,v=.string S∧eS S=plB m l) W (fun _ _ h=>h) ((write1_ok la lc l m w.heap.size _ e0 e1 (HL.below E0) hE).mono fun e w' ⟨v,h1,h2,h3⟩=>⟨v,h1,h2,by simpa using h3⟩)
  have HC':=hid HC
  have HV:Hid (wrL m l=plB m l):=if_pos hE
  rw[hE]
  clear HC HL E0 e0 e1 hE c0 c1 BW
  go_enter Tryz.func8,Tryz.ntmps8
  go_upto_region 1 with fail
  rw[←HWE.out]
  go_wp2_with fail
  refine HC'.out.mono ?_
  rintro e w1 ⟨v,rfl,⟨S,rfl,hS⟩,hb⟩
  have HS:Hid (eS S=wrL m l):=hS.trans HV.out.symm
  have HB1:Hid (Below w.heap.size w w1):=aC BW'.out hb
  clear hb hS
  go_wp2
  go_ret2
  exact⟨S,rfl,HS.out,HB1.out⟩
 ·have HC:=kG 27 #[.pointer (some ⟨w.heap.size,0,none⟩)] (fun _=>rfl) (aM m l) W ((write1_bad la lc l m w.heap.size _ e0 e1 (HL.below E0) hE).mono fun e w' ⟨h1,h3⟩=>⟨h1,by simpa using h3⟩)
  have HC':=hid HC
  have HV:Hid (wrL m l=[]):=if_neg hE
  clear HC HL E0 e0 e1 hE c0 c1 BW
  generalize aM m l=E at *
  go_enter Tryz.func8,Tryz.ntmps8
  go_upto_region 1 with fail
  rw[←HWE.out]
  go_wp2_with fail
  refine HC'.out.mono ?_
  rintro e w1 ⟨rfl,hb⟩
  have HB1:Hid (Below w.heap.size w w1):=aC BW'.out hb
  clear hb
  go_wp2
  go_ret2
  exact⟨_,rfl,HV.out.symm,HB1.out⟩
end
def docOk (bs:List Int):Option (Int×List fG):=if aM (zP bs).1.1 ((zP bs).1.2.map cX)=0∧pB (zP bs).1=bs then some (zP bs).1 else none
end Go.Proofs.YtcgpkonfneofdaaGreatDoor
