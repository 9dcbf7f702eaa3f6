/- Conditions: those that each theorem states. -/
import Derived.Test.YtcgpkonfneofdaaGreatDoorSStoreM
import Derived.Test.YtcgpkonfneofdaaGreatDoorSHallG
import Derived.Test.YtcgpkonfneofdaaGreatDoorSHallK
set_option maxRecDepth 100000
set_option maxHeartbeats 8000000
namespace Go.Proofs.YtcgpkonfneofdaaGreatDoor
open Go.RowKit
section
variable (la:Option Addr) (lc:Nat) (l:List TxA) (sa ra wa va:Option Addr) (sc rc tc vc:Nat) (S:SA)
theorem pQ (m:Int) (w:World) (hl:IsTxs w la l) (he:¬aF [aM m l,bK S.st]=0) :
  Calls Tryz.prog 194 #[.agg #[.int .i64 m,.slice la l.length lc],.agg #[.slice sa S.st.length sc,.slice ra S.rd.length rc,.slice wa S.wr.length tc,.slice va S.vs.length vc]] w fun e w'=>e=.panicked [{v:=.iface 22 (.int .i64 (aF [aM m l,bK S.st])),recovered:=false}]∧Below w.heap.size w w':=by
 have HE:Hid (¬aF [aM m l,bK S.st]=0):=he
 clear he
 obtain⟨W,hWe⟩:∃W:World,W=((w.alloc (.cells #[.int .i64 m,.slice la l.length lc] 29)).alloc (.cells #[.slice sa S.st.length sc,.slice ra S.rd.length rc,.slice wa S.wr.length tc,.slice va S.vs.length vc] 45)):=⟨_,rfl⟩
 have hW:Hid (Below w.heap.size w W):=by subst hWe;exact aA (aA (Below.refl _ _) _) _
 have y0:W.cell? ⟨w.heap.size,0,none⟩=some (.int .i64 m):=by subst hWe;exact aB (aA (Below.refl _ _) _) (aG w _ 29 _ 0 _ rfl rfl)
 have y1:W.cell? ⟨w.heap.size,1,none⟩=some (.slice la l.length lc):=by subst hWe;exact aB (aA (Below.refl _ _) _) (aG w _ 29 _ 1 _ rfl rfl)
 have z0:W.cell? ⟨w.heap.size+1,0,none⟩=some (.slice sa S.st.length sc):=by subst hWe;exact aG _ _ 45 _ 0 _ (by simp) rfl
 have z1:W.cell? ⟨w.heap.size+1,1,none⟩=some (.slice ra S.rd.length rc):=by subst hWe;exact aG _ _ 45 _ 1 _ (by simp) rfl
 have z2:W.cell? ⟨w.heap.size+1,2,none⟩=some (.slice wa S.wr.length tc):=by subst hWe;exact aG _ _ 45 _ 2 _ (by simp) rfl
 have z3:W.cell? ⟨w.heap.size+1,3,none⟩=some (.slice va S.vs.length vc):=by subst hWe;exact aG _ _ 45 _ 3 _ (by simp) rfl
 have HLW:Hid (IsTxs W la l):=hl.below hW.out
 have sW:Hid (W.heap.size=w.heap.size+2):=by subst hWe;show _=_;simp
 clear hl z1 z2 z3 sW
 have HWe:Hid (W=_):=hWe
 clear hWe
 go_enter Tryz.func194,Tryz.ntmps194
 go_upto_region 1 with fail
 rw[←HWe.out]
 clear HWe
 have KS:Hid (∀w',Below W.heap.size W w'→Below W.heap.size W w'∧w'.cell? ⟨w.heap.size,0,none⟩=some (.int .i64 m)∧w'.cell? ⟨w.heap.size,1,none⟩=some (.slice la l.length lc)∧w'.cell? ⟨w.heap.size+1,0,none⟩=some (.slice sa S.st.length sc)):=fun w' hb=>⟨hb,aB hb y0,aB hb y1,aB hb z0⟩
 go_region_held (fun w'=>Below W.heap.size W w'∧w'.cell? ⟨w.heap.size,0,none⟩=some (.int .i64 m)∧w'.cell? ⟨w.heap.size,1,none⟩=some (.slice la l.length lc)∧w'.cell? ⟨w.heap.size+1,0,none⟩=some (.slice sa S.st.length sc)) ((refine KS.out _ ?_;go_split_ands;repeat (first | assumption | exact Below.refl _ _ | exact Hid.out (by assumption) | refine aD ?_ | refine aA ?_ _ | refine aC ?_ (by assumption))))
  (first
   | (go_at_call 28;refine(bB la lc l m _ ?_).mono ?_;(refine HLW.out.below ?_;go_split_ands;repeat (first | assumption | exact Below.refl _ _ | exact Hid.out (by assumption) | refine aD ?_ | refine aA ?_ _ | refine aC ?_ (by assumption)));rintro e wx ⟨rfl,hbx⟩)
   | (go_at_call 78;refine(cC S.st sa sc _).mono ?_;rintro e w' ⟨rfl,rfl⟩)
   | (go_at_call 15;refine(dM (cH [aM m l,bK S.st] _ 2 _ (by simp) HE.out ?_) (.tuple #[])).mono ?_;(exact iU _ _ _ _ (by simp));rintro e w' (⟨rfl,rfl⟩ | ⟨hF,rfl,rfl⟩);(refine⟨rfl,rfl,aC hW.out ?_⟩;go_split_ands;repeat (first | assumption | exact Below.refl _ _ | exact Hid.out (by assumption) | refine aD ?_ | refine aA ?_ _ | refine aC ?_ (by assumption)))))
 exact(‹Hid False› : Hid False).out.elim
theorem hallOf_pan2 (sh:Nat) (w:World) (hl:IsTxs w la l) (hs:Sta w sa ra wa va S) (hp:aM (sh:Int) l=0) (h8:S.st.length=8) (hf:eB sh l S=false) :
  Calls Tryz.prog 194 #[.agg #[.int .i64 (sh:Int),.slice la l.length lc],.agg #[.slice sa S.st.length sc,.slice ra S.rd.length rc,.slice wa S.wr.length tc,.slice va S.vs.length vc]] w fun e w'=>e=.panicked [{v:=.iface 22 (.int .i64 1),recovered:=false}]∧Below w.heap.size w w':=by
 have HF:Hid (eB sh l S=false):=hf
 clear hf
 have hz:=aY hp
 have hl8:=eD hz.2.2
 have hs0:0<sh:=by omega
 have hs4:sh≤4:=by omega
 have HC:Hid (dD l=0):=hz.2.2
 have HE:Hid (aF [aM (sh:Int) l,bK S.st]=0):=by
  have e2:bK S.st=0:=if_pos h8
  show _=_
  rw[hp,e2];rfl
 have HST:Hid (Sta w sa ra wa va S):=hs
 have H8:Hid (S.st.length=8):=h8
 have HL0:Hid (IsTxs w la l):=hl
 clear hz hs h8 hp
 obtain⟨W,hWe⟩:∃W:World,W=((w.alloc (.cells #[.int .i64 (sh:Int),.slice la l.length lc] 29)).alloc (.cells #[.slice sa S.st.length sc,.slice ra S.rd.length rc,.slice wa S.wr.length tc,.slice va S.vs.length vc] 45)):=⟨_,rfl⟩
 have hW:Hid (Below w.heap.size w W):=by subst hWe;exact aA (aA (Below.refl _ _) _) _
 have y0:W.cell? ⟨w.heap.size,0,none⟩=some (.int .i64 (sh:Int)):=by subst hWe;exact aB (aA (Below.refl _ _) _) (aG w _ 29 _ 0 _ rfl rfl)
 have y1:W.cell? ⟨w.heap.size,1,none⟩=some (.slice la l.length lc):=by subst hWe;exact aB (aA (Below.refl _ _) _) (aG w _ 29 _ 1 _ rfl rfl)
 have z0:W.cell? ⟨w.heap.size+1,0,none⟩=some (.slice sa S.st.length sc):=by subst hWe;exact aG _ _ 45 _ 0 _ (by simp) rfl
 have z1:W.cell? ⟨w.heap.size+1,1,none⟩=some (.slice ra S.rd.length rc):=by subst hWe;exact aG _ _ 45 _ 1 _ (by simp) rfl
 have z2:W.cell? ⟨w.heap.size+1,2,none⟩=some (.slice wa S.wr.length tc):=by subst hWe;exact aG _ _ 45 _ 2 _ (by simp) rfl
 have z3:W.cell? ⟨w.heap.size+1,3,none⟩=some (.slice va S.vs.length vc):=by subst hWe;exact aG _ _ 45 _ 3 _ (by simp) rfl
 have HLW:Hid (IsTxs W la l):=hl.below hW.out
 have sW:Hid (W.heap.size=w.heap.size+2):=by subst hWe;show _=_;simp
 clear hl
 have HWe:Hid (W=_):=hWe
 clear hWe
 go_enter Tryz.func194,Tryz.ntmps194
 go_upto_region 1 with fail
 rw[←HWe.out]
 clear HWe
 have KS:Hid (∀w',Below W.heap.size W w'→Below W.heap.size W w'∧w'.cell? ⟨w.heap.size,0,none⟩=some (.int .i64 (sh:Int))∧w'.cell? ⟨w.heap.size,1,none⟩=some (.slice la l.length lc)∧w'.cell? ⟨w.heap.size+1,0,none⟩=some (.slice sa S.st.length sc)):=fun w' hb=>⟨hb,aB hb y0,aB hb y1,aB hb z0⟩
 go_region_held3 (fun w'=>Below W.heap.size W w'∧w'.cell? ⟨w.heap.size,0,none⟩=some (.int .i64 (sh:Int))∧w'.cell? ⟨w.heap.size,1,none⟩=some (.slice la l.length lc)∧w'.cell? ⟨w.heap.size+1,0,none⟩=some (.slice sa S.st.length sc)) ((refine KS.out _ ?_;go_split_ands;repeat (first | assumption | exact Below.refl _ _ | exact Hid.out (by assumption) | refine aD ?_ | refine aA ?_ _ | refine aC ?_ (by assumption))))
  (first
   | (go_at_call 28;refine(bB la lc l (sh:Int) _ ?_).mono ?_;(refine HLW.out.below ?_;go_split_ands;repeat (first | assumption | exact Below.refl _ _ | exact Hid.out (by assumption) | refine aD ?_ | refine aA ?_ _ | refine aC ?_ (by assumption)));rintro e wx ⟨rfl,hbx⟩)
   | (go_at_call 78;refine(cC S.st sa sc _).mono ?_;rintro e w' ⟨rfl,rfl⟩)
   | (go_at_call 15;refine(aO [aM (sh:Int) l,bK S.st] _ 2 _ (by simp) HE.out ?_).mono ?_;(exact iU _ _ _ _ (by simp));rintro e w1 ⟨rfl,rfl⟩))
 have BW:Hid (Below W.heap.size W (w'.alloc (.cells #[.int .i64 (aM (sh:Int) l),.int .i64 (bK S.st)] 22))):=aA (aC (aD (Below.refl _ _)) hbx) _
 go_split_ands
 generalize w'.alloc (.cells #[.int .i64 (aM (sh:Int) l),.int .i64 (bK S.st)] 22)=w1 at *
 have q0:=aB BW.out y0
 have q1:=aB BW.out y1
 have r0:=aB BW.out z0
 have r1:=aB BW.out z1
 have r2:=aB BW.out z2
 have r3:=aB BW.out z3
 have B1:Hid (Below w.heap.size w w1):=aC hW.out BW.out
 have sz1:Hid (w.heap.size+2≤w1.heap.size):=by have:=BW.out.size;have:=sW.out;show _≤_;omega
 have bU:Below w1.heap.size w1 (w1.alloc (.cells #[.pointer (some ⟨w.heap.size,0,none⟩),.slice sa S.st.length sc,.slice ra S.rd.length rc,.slice wa S.wr.length tc,.slice va S.vs.length vc,.slice none 0 0,.slice none 0 0,.slice none 0 0] 224)):=aA (Below.refl _ _) _
 have B2:Hid (Below w.heap.size w (w1.alloc (.cells #[.pointer (some ⟨w.heap.size,0,none⟩),.slice sa S.st.length sc,.slice ra S.rd.length rc,.slice wa S.wr.length tc,.slice va S.vs.length vc,.slice none 0 0,.slice none 0 0,.slice none 0 0] 224))):=aC B1.out bU
 have c0:(w1.alloc (.cells #[.pointer (some ⟨w.heap.size,0,none⟩),.slice sa S.st.length sc,.slice ra S.rd.length rc,.slice wa S.wr.length tc,.slice va S.vs.length vc,.slice none 0 0,.slice none 0 0,.slice none 0 0] 224)).cell? ⟨w1.heap.size,0,none⟩=some (.pointer (some ⟨w.heap.size,0,none⟩)):=aG w1 _ 224 _ 0 _ rfl rfl
 have c1:(w1.alloc (.cells #[.pointer (some ⟨w.heap.size,0,none⟩),.slice sa S.st.length sc,.slice ra S.rd.length rc,.slice wa S.wr.length tc,.slice va S.vs.length vc,.slice none 0 0,.slice none 0 0,.slice none 0 0] 224)).cell? ⟨w1.heap.size,1,none⟩=some (.slice sa S.st.length sc):=aG w1 _ 224 _ 1 _ rfl rfl
 have c2:(w1.alloc (.cells #[.pointer (some ⟨w.heap.size,0,none⟩),.slice sa S.st.length sc,.slice ra S.rd.length rc,.slice wa S.wr.length tc,.slice va S.vs.length vc,.slice none 0 0,.slice none 0 0,.slice none 0 0] 224)).cell? ⟨w1.heap.size,2,none⟩=some (.slice ra S.rd.length rc):=aG w1 _ 224 _ 2 _ rfl rfl
 have c3:(w1.alloc (.cells #[.pointer (some ⟨w.heap.size,0,none⟩),.slice sa S.st.length sc,.slice ra S.rd.length rc,.slice wa S.wr.length tc,.slice va S.vs.length vc,.slice none 0 0,.slice none 0 0,.slice none 0 0] 224)).cell? ⟨w1.heap.size,3,none⟩=some (.slice wa S.wr.length tc):=aG w1 _ 224 _ 3 _ rfl rfl
 have c4:(w1.alloc (.cells #[.pointer (some ⟨w.heap.size,0,none⟩),.slice sa S.st.length sc,.slice ra S.rd.length rc,.slice wa S.wr.length tc,.slice va S.vs.length vc,.slice none 0 0,.slice none 0 0,.slice none 0 0] 224)).cell? ⟨w1.heap.size,4,none⟩=some (.slice va S.vs.length vc):=aG w1 _ 224 _ 4 _ rfl rfl
 have c5:(w1.alloc (.cells #[.pointer (some ⟨w.heap.size,0,none⟩),.slice sa S.st.length sc,.slice ra S.rd.length rc,.slice wa S.wr.length tc,.slice va S.vs.length vc,.slice none 0 0,.slice none 0 0,.slice none 0 0] 224)).cell? ⟨w1.heap.size,5,none⟩=some (.slice none 0 0):=aG w1 _ 224 _ 5 _ rfl rfl
 have c6:(w1.alloc (.cells #[.pointer (some ⟨w.heap.size,0,none⟩),.slice sa S.st.length sc,.slice ra S.rd.length rc,.slice wa S.wr.length tc,.slice va S.vs.length vc,.slice none 0 0,.slice none 0 0,.slice none 0 0] 224)).cell? ⟨w1.heap.size,6,none⟩=some (.slice none 0 0):=aG w1 _ 224 _ 6 _ rfl rfl
 have c7:(w1.alloc (.cells #[.pointer (some ⟨w.heap.size,0,none⟩),.slice sa S.st.length sc,.slice ra S.rd.length rc,.slice wa S.wr.length tc,.slice va S.vs.length vc,.slice none 0 0,.slice none 0 0,.slice none 0 0] 224)).cell? ⟨w1.heap.size,7,none⟩=some (.slice none 0 0):=aG w1 _ 224 _ 7 _ rfl rfl
 have fz:∀j,(w1.alloc (.cells #[.pointer (some ⟨w.heap.size,0,none⟩),.slice sa S.st.length sc,.slice ra S.rd.length rc,.slice wa S.wr.length tc,.slice va S.vs.length vc,.slice none 0 0,.slice none 0 0,.slice none 0 0] 224)).frozen? ⟨w1.heap.size,j,none⟩=false:=fun j=>by simp
 have H0:Hid (Hall0 (w1.alloc (.cells #[.pointer (some ⟨w.heap.size,0,none⟩),.slice sa S.st.length sc,.slice ra S.rd.length rc,.slice wa S.wr.length tc,.slice va S.vs.length vc,.slice none 0 0,.slice none 0 0,.slice none 0 0] 224)) w1.heap.size w.heap.size sh l S la sa ra wa va lc sc rc tc vc):=⟨c0,c1,c2,c3,c4,aB bU q0,aB bU q1,HL0.out.below B2.out,HST.out.below B2.out,hl8,hs4⟩
 have HLs:Hid (HL w (w1.alloc (.cells #[.pointer (some ⟨w.heap.size,0,none⟩),.slice sa S.st.length sc,.slice ra S.rd.length rc,.slice wa S.wr.length tc,.slice va S.vs.length vc,.slice none 0 0,.slice none 0 0,.slice none 0 0] 224)) w1.heap.size w.heap.size sh l la lc (.slice sa S.st.length sc) (.slice ra S.rd.length rc) (.slice wa S.wr.length tc) (.slice va S.vs.length vc) (.slice none 0 0) (.slice none 0 0) (.slice none 0 0) [] [] []):=⟨c0,c1,c2,c3,c4,c5,c6,c7,fz,aB bU q0,aB bU q1,Tri.nil _ _ _ _,B2.out,by have:=sz1.out;omega,by have:=sz1.out;omega,by simp⟩
 clear hbx KS y0 y1 z0 z1 z2 z3 HLW hW HE BW sW c0 c1 c2 c3 c4 c5 c6 c7 fz bU
 go_wp2_with fail
 generalize w1.alloc (.cells #[.pointer (some ⟨w.heap.size,0,none⟩),.slice sa S.st.length sc,.slice ra S.rd.length rc,.slice wa S.wr.length tc,.slice va S.vs.length vc,.slice none 0 0,.slice none 0 0,.slice none 0 0] 224)=w2 at *
 generalize w1.heap.size=H at *
 have CF:Hid (Calls Tryz.prog 230 #[.pointer (some ⟨H,0,none⟩)] w2 fun e w'=>e=.returned (.int .i64 1)∧Below w2.heap.size w2 w'):=by
  have hh:=lW H0.out H8.out
  rw[HF.out]at hh
  exact hh
 refine CF.out.mono ?_
 rintro e w3 ⟨rfl,hb3⟩
 have B3:Hid (Below w.heap.size w w3):=aC B2.out hb3
 clear hb3 CF q0 q1 r0 r1 r2 r3
 go_wp2_with fail
 refine(cH [1] _ 1 _ (by simp) (by decide) (cD _ _ _ rfl)).mono ?_
 rintro e w4 ⟨rfl,hw4⟩
 refine⟨rfl,rfl,?_⟩
 rw[hw4]
 exact aA B3.out _
end
section
theorem pn_one {x:TxA} (sh:Nat) (h0:0<sh) (h4:sh≤4) (h:eT x=0):pnE (sh:Int) [x] ((0:Nat):Int)=0:=by
 have h1:dD [x]=0:=by
  unfold dD
  rw[if_neg (by simp),List.map_cons,aF,if_pos h]
  rfl
 have h2:aM (sh:Int) [x]=0:=by
  unfold aM
  rw[if_neg (by omega)]
  exact h1
 unfold pnE
 rw[h2]
 rfl
theorem alone_a (V:World) (sh:Nat) (a b c:Value):(((V.alloc (.cells #[a,b,c] 95)).alloc (.cells #[.int .i64 sh,.slice (some ⟨V.heap.size,0,none⟩) 1 1] 29)).drew).cell? ⟨V.heap.size+1,0,none⟩=some (.int .i64 sh)∧(((V.alloc (.cells #[a,b,c] 95)).alloc (.cells #[.int .i64 sh,.slice (some ⟨V.heap.size,0,none⟩) 1 1] 29)).drew).cell? ⟨V.heap.size+1,1,none⟩=some (.slice (some ⟨V.heap.size,0,none⟩) 1 1)∧(((V.alloc (.cells #[a,b,c] 95)).alloc (.cells #[.int .i64 sh,.slice (some ⟨V.heap.size,0,none⟩) 1 1] 29)).drew).cell? ⟨V.heap.size,0,none⟩=some a∧(((V.alloc (.cells #[a,b,c] 95)).alloc (.cells #[.int .i64 sh,.slice (some ⟨V.heap.size,0,none⟩) 1 1] 29)).drew).cell? ⟨V.heap.size,1,none⟩=some b∧(((V.alloc (.cells #[a,b,c] 95)).alloc (.cells #[.int .i64 sh,.slice (some ⟨V.heap.size,0,none⟩) 1 1] 29)).drew).cell? ⟨V.heap.size,2,none⟩=some c∧Hid (Below V.heap.size V (((V.alloc (.cells #[a,b,c] 95)).alloc (.cells #[.int .i64 sh,.slice (some ⟨V.heap.size,0,none⟩) 1 1] 29)).drew)):=by
 have e:Below (V.alloc (.cells #[a,b,c] 95)).heap.size (V.alloc (.cells #[a,b,c] 95)) (((V.alloc (.cells #[a,b,c] 95)).alloc (.cells #[.int .i64 sh,.slice (some ⟨V.heap.size,0,none⟩) 1 1] 29)).drew):=aD (aA (Below.refl _ _) _)
 refine⟨by simp,by simp,aB e (aG V _ 95 _ 0 _ rfl rfl),aB e (aG V _ 95 _ 1 _ rfl rfl),aB e (aG V _ 95 _ 2 _ rfl rfl),aD (aA (aA (Below.refl _ _) _) _)⟩
theorem alone_b (V:World) (sh:Nat) (a b c:Value):(((V.alloc (.cells #[.int .i64 sh,.slice (some ⟨V.heap.size+1,0,none⟩) 1 1] 29)).alloc (.cells #[a,b,c] 95)).drew).cell? ⟨V.heap.size,0,none⟩=some (.int .i64 sh)∧(((V.alloc (.cells #[.int .i64 sh,.slice (some ⟨V.heap.size+1,0,none⟩) 1 1] 29)).alloc (.cells #[a,b,c] 95)).drew).cell? ⟨V.heap.size,1,none⟩=some (.slice (some ⟨V.heap.size+1,0,none⟩) 1 1)∧(((V.alloc (.cells #[.int .i64 sh,.slice (some ⟨V.heap.size+1,0,none⟩) 1 1] 29)).alloc (.cells #[a,b,c] 95)).drew).cell? ⟨V.heap.size+1,0,none⟩=some a∧(((V.alloc (.cells #[.int .i64 sh,.slice (some ⟨V.heap.size+1,0,none⟩) 1 1] 29)).alloc (.cells #[a,b,c] 95)).drew).cell? ⟨V.heap.size+1,1,none⟩=some b∧(((V.alloc (.cells #[.int .i64 sh,.slice (some ⟨V.heap.size+1,0,none⟩) 1 1] 29)).alloc (.cells #[a,b,c] 95)).drew).cell? ⟨V.heap.size+1,2,none⟩=some c∧Hid (Below V.heap.size V (((V.alloc (.cells #[.int .i64 sh,.slice (some ⟨V.heap.size+1,0,none⟩) 1 1] 29)).alloc (.cells #[a,b,c] 95)).drew)):=by
 have e:Below (V.alloc (.cells #[.int .i64 sh,.slice (some ⟨V.heap.size+1,0,none⟩) 1 1] 29)).heap.size (V.alloc (.cells #[.int .i64 sh,.slice (some ⟨V.heap.size+1,0,none⟩) 1 1] 29)) (((V.alloc (.cells #[.int .i64 sh,.slice (some ⟨V.heap.size+1,0,none⟩) 1 1] 29)).alloc (.cells #[a,b,c] 95)).drew):=aD (aA (Below.refl _ _) _)
 refine⟨aB e (aG V _ 29 _ 0 _ rfl rfl),aB e (aG V _ 29 _ 1 _ rfl rfl),by simp,by simp,by simp,aD (aA (aA (Below.refl _ _) _) _)⟩
theorem txs_one {w:World} {Z:Nat} {x:TxA} (c0:w.cell? ⟨Z,0,none⟩=some (.slice x.ra x.rs.length x.rc)) (c1:w.cell? ⟨Z,1,none⟩=some (.slice x.ga x.gs.length x.gc)) (c2:w.cell? ⟨Z,2,none⟩=some (.slice x.sa x.ss.length x.sc)) (hx:IsX w x):IsTxs w (some ⟨Z,0,none⟩) [x]:=fun i hi=>by
 have e:i=0:=by simpa using hi
 subst e
 exact⟨Z,0,rfl,World.block_lt_of_cell? w _ c0,by simpa using c0,by simpa using c1,by simpa using c2,hx⟩
theorem bool_row {wa wc:World} {B g c sh:Nat} {bs:List Bool} (h:wa.ownsRow B 4 1 (.slice (some ⟨g,0,none⟩) sh c) sh (bs.map Value.bool)) (hl:bs.length=sh) (hb:Below wa.heap.size wa wc):B≤g∧g<wc.heap.size∧∀j,j<sh→wc.cell? ⟨g,j,none⟩=some (.bool (bs.getD j false)):=by
 have hh:=h.lt g rfl
 exact⟨hh.1,Nat.lt_of_lt_of_le hh.2 hb.size,fun j hj=>aB hb (vQ h j (by omega))⟩
theorem lk_pos {x:TxA} (h:eT x=0):0<(jM x).length:=by
 have g:=lL h
 obtain⟨k,hk⟩:=List.exists_mem_of_ne_nil _ g.n
 obtain⟨h0,h8⟩:=g.s k hk
 have hm:(((k.toNat:Nat):Int),oM x k.toNat)∈jM x:=(fS x _).2 ⟨k.toNat,by omega,(sU x _).2 (.inl (by rw[show ((k.toNat:Nat):Int)=k by omega];exact hk)),rfl⟩
 exact List.length_pos_of_mem hm
theorem gotLocksB (a:Option Addr) (k c:Nat) (w:World):Calls Tryz.prog 234 #[.slice a k c,.int .i64 0] w fun e' w'=>e'=.returned (.slice a k c)∧w'=w.alloc (.cells #[.int .i64 0] 22):=pS a k c w
variable (la:Option Addr) (lc:Nat) (l:List TxA) (sa ra wa va:Option Addr) (sc rc tc vc:Nat) (S:SA)
theorem uV (sh:Nat) (w:World) (hl:IsTxs w la l) (hs:Sta w sa ra wa va S) (hp:aM (sh:Int) l=0) (h8:S.st.length=8) (hf:eB sh l S=true) :
  Calls Tryz.prog 194 #[.agg #[.int .i64 (sh:Int),.slice la l.length lc],.agg #[.slice sa S.st.length sc,.slice ra S.rd.length rc,.slice wa S.wr.length tc,.slice va S.vs.length vc]] w fun e w'=>((bH sh l S=true∧∃h A,e=.returned (.pointer (some ⟨h,0,none⟩))∧Hall w' h sh l S A∧w.heap.size≤h∧h<w'.heap.size∧(∀j,w'.frozen? ⟨h,j,none⟩=false)∧w.heap.size≤A.p∧A.p<h∧A.la=la)∨(bH sh l S=false∧e=.panicked [{v:=.iface 22 (.int .i64 1),recovered:=false}]))∧Below w.heap.size w w':=by
 have HF:Hid (eB sh l S=true):=hf
 clear hf
 have hz:=aY hp
 have hl8:=eD hz.2.2
 have hs0:0<sh:=by omega
 have hs4:sh≤4:=by omega
 have HC:Hid (dD l=0):=hz.2.2
 have HE:Hid (aF [aM (sh:Int) l,bK S.st]=0):=by
  have e2:bK S.st=0:=if_pos h8
  show _=_
  rw[hp,e2];rfl
 have HST:Hid (Sta w sa ra wa va S):=hs
 have H8:Hid (S.st.length=8):=h8
 have HL0:Hid (IsTxs w la l):=hl
 clear hz hs h8 hp
 obtain⟨W,hWe⟩:∃W:World,W=((w.alloc (.cells #[.int .i64 (sh:Int),.slice la l.length lc] 29)).alloc (.cells #[.slice sa S.st.length sc,.slice ra S.rd.length rc,.slice wa S.wr.length tc,.slice va S.vs.length vc] 45)):=⟨_,rfl⟩
 have hW:Hid (Below w.heap.size w W):=by subst hWe;exact aA (aA (Below.refl _ _) _) _
 have y0:W.cell? ⟨w.heap.size,0,none⟩=some (.int .i64 (sh:Int)):=by subst hWe;exact aB (aA (Below.refl _ _) _) (aG w _ 29 _ 0 _ rfl rfl)
 have y1:W.cell? ⟨w.heap.size,1,none⟩=some (.slice la l.length lc):=by subst hWe;exact aB (aA (Below.refl _ _) _) (aG w _ 29 _ 1 _ rfl rfl)
 have z0:W.cell? ⟨w.heap.size+1,0,none⟩=some (.slice sa S.st.length sc):=by subst hWe;exact aG _ _ 45 _ 0 _ (by simp) rfl
 have z1:W.cell? ⟨w.heap.size+1,1,none⟩=some (.slice ra S.rd.length rc):=by subst hWe;exact aG _ _ 45 _ 1 _ (by simp) rfl
 have z2:W.cell? ⟨w.heap.size+1,2,none⟩=some (.slice wa S.wr.length tc):=by subst hWe;exact aG _ _ 45 _ 2 _ (by simp) rfl
 have z3:W.cell? ⟨w.heap.size+1,3,none⟩=some (.slice va S.vs.length vc):=by subst hWe;exact aG _ _ 45 _ 3 _ (by simp) rfl
 have HLW:Hid (IsTxs W la l):=hl.below hW.out
 have sW:Hid (W.heap.size=w.heap.size+2):=by subst hWe;show _=_;simp
 clear hl
 have HWe:Hid (W=_):=hWe
 clear hWe
 go_enter Tryz.func194,Tryz.ntmps194
 go_upto_region 1 with fail
 rw[←HWe.out]
 clear HWe
 have KS:Hid (∀w',Below W.heap.size W w'→Below W.heap.size W w'∧w'.cell? ⟨w.heap.size,0,none⟩=some (.int .i64 (sh:Int))∧w'.cell? ⟨w.heap.size,1,none⟩=some (.slice la l.length lc)∧w'.cell? ⟨w.heap.size+1,0,none⟩=some (.slice sa S.st.length sc)):=fun w' hb=>⟨hb,aB hb y0,aB hb y1,aB hb z0⟩
 go_region_held3 (fun w'=>Below W.heap.size W w'∧w'.cell? ⟨w.heap.size,0,none⟩=some (.int .i64 (sh:Int))∧w'.cell? ⟨w.heap.size,1,none⟩=some (.slice la l.length lc)∧w'.cell? ⟨w.heap.size+1,0,none⟩=some (.slice sa S.st.length sc)) ((refine KS.out _ ?_;go_split_ands;repeat (first | assumption | exact Below.refl _ _ | exact Hid.out (by assumption) | refine aD ?_ | refine aA ?_ _ | refine aC ?_ (by assumption))))
  (first
   | (go_at_call 28;refine(bB la lc l (sh:Int) _ ?_).mono ?_;(refine HLW.out.below ?_;go_split_ands;repeat (first | assumption | exact Below.refl _ _ | exact Hid.out (by assumption) | refine aD ?_ | refine aA ?_ _ | refine aC ?_ (by assumption)));rintro e wx ⟨rfl,hbx⟩)
   | (go_at_call 78;refine(cC S.st sa sc _).mono ?_;rintro e w' ⟨rfl,rfl⟩)
   | (go_at_call 15;refine(aO [aM (sh:Int) l,bK S.st] _ 2 _ (by simp) HE.out ?_).mono ?_;(exact iU _ _ _ _ (by simp));rintro e w1 ⟨rfl,rfl⟩))
 have BW:Hid (Below W.heap.size W (w'.alloc (.cells #[.int .i64 (aM (sh:Int) l),.int .i64 (bK S.st)] 22))):=aA (aC (aD (Below.refl _ _)) hbx) _
 go_split_ands
 generalize w'.alloc (.cells #[.int .i64 (aM (sh:Int) l),.int .i64 (bK S.st)] 22)=w1 at *
 have q0:=aB BW.out y0
 have q1:=aB BW.out y1
 have r0:=aB BW.out z0
 have r1:=aB BW.out z1
 have r2:=aB BW.out z2
 have r3:=aB BW.out z3
 have B1:Hid (Below w.heap.size w w1):=aC hW.out BW.out
 have sz1:Hid (w.heap.size+2≤w1.heap.size):=by have:=BW.out.size;have:=sW.out;show _≤_;omega
 have bU:Below w1.heap.size w1 (w1.alloc (.cells #[.pointer (some ⟨w.heap.size,0,none⟩),.slice sa S.st.length sc,.slice ra S.rd.length rc,.slice wa S.wr.length tc,.slice va S.vs.length vc,.slice none 0 0,.slice none 0 0,.slice none 0 0] 224)):=aA (Below.refl _ _) _
 have B2:Hid (Below w.heap.size w (w1.alloc (.cells #[.pointer (some ⟨w.heap.size,0,none⟩),.slice sa S.st.length sc,.slice ra S.rd.length rc,.slice wa S.wr.length tc,.slice va S.vs.length vc,.slice none 0 0,.slice none 0 0,.slice none 0 0] 224))):=aC B1.out bU
 have c0:(w1.alloc (.cells #[.pointer (some ⟨w.heap.size,0,none⟩),.slice sa S.st.length sc,.slice ra S.rd.length rc,.slice wa S.wr.length tc,.slice va S.vs.length vc,.slice none 0 0,.slice none 0 0,.slice none 0 0] 224)).cell? ⟨w1.heap.size,0,none⟩=some (.pointer (some ⟨w.heap.size,0,none⟩)):=aG w1 _ 224 _ 0 _ rfl rfl
 have c1:(w1.alloc (.cells #[.pointer (some ⟨w.heap.size,0,none⟩),.slice sa S.st.length sc,.slice ra S.rd.length rc,.slice wa S.wr.length tc,.slice va S.vs.length vc,.slice none 0 0,.slice none 0 0,.slice none 0 0] 224)).cell? ⟨w1.heap.size,1,none⟩=some (.slice sa S.st.length sc):=aG w1 _ 224 _ 1 _ rfl rfl
 have c2:(w1.alloc (.cells #[.pointer (some ⟨w.heap.size,0,none⟩),.slice sa S.st.length sc,.slice ra S.rd.length rc,.slice wa S.wr.length tc,.slice va S.vs.length vc,.slice none 0 0,.slice none 0 0,.slice none 0 0] 224)).cell? ⟨w1.heap.size,2,none⟩=some (.slice ra S.rd.length rc):=aG w1 _ 224 _ 2 _ rfl rfl
 have c3:(w1.alloc (.cells #[.pointer (some ⟨w.heap.size,0,none⟩),.slice sa S.st.length sc,.slice ra S.rd.length rc,.slice wa S.wr.length tc,.slice va S.vs.length vc,.slice none 0 0,.slice none 0 0,.slice none 0 0] 224)).cell? ⟨w1.heap.size,3,none⟩=some (.slice wa S.wr.length tc):=aG w1 _ 224 _ 3 _ rfl rfl
 have c4:(w1.alloc (.cells #[.pointer (some ⟨w.heap.size,0,none⟩),.slice sa S.st.length sc,.slice ra S.rd.length rc,.slice wa S.wr.length tc,.slice va S.vs.length vc,.slice none 0 0,.slice none 0 0,.slice none 0 0] 224)).cell? ⟨w1.heap.size,4,none⟩=some (.slice va S.vs.length vc):=aG w1 _ 224 _ 4 _ rfl rfl
 have c5:(w1.alloc (.cells #[.pointer (some ⟨w.heap.size,0,none⟩),.slice sa S.st.length sc,.slice ra S.rd.length rc,.slice wa S.wr.length tc,.slice va S.vs.length vc,.slice none 0 0,.slice none 0 0,.slice none 0 0] 224)).cell? ⟨w1.heap.size,5,none⟩=some (.slice none 0 0):=aG w1 _ 224 _ 5 _ rfl rfl
 have c6:(w1.alloc (.cells #[.pointer (some ⟨w.heap.size,0,none⟩),.slice sa S.st.length sc,.slice ra S.rd.length rc,.slice wa S.wr.length tc,.slice va S.vs.length vc,.slice none 0 0,.slice none 0 0,.slice none 0 0] 224)).cell? ⟨w1.heap.size,6,none⟩=some (.slice none 0 0):=aG w1 _ 224 _ 6 _ rfl rfl
 have c7:(w1.alloc (.cells #[.pointer (some ⟨w.heap.size,0,none⟩),.slice sa S.st.length sc,.slice ra S.rd.length rc,.slice wa S.wr.length tc,.slice va S.vs.length vc,.slice none 0 0,.slice none 0 0,.slice none 0 0] 224)).cell? ⟨w1.heap.size,7,none⟩=some (.slice none 0 0):=aG w1 _ 224 _ 7 _ rfl rfl
 have fz:∀j,(w1.alloc (.cells #[.pointer (some ⟨w.heap.size,0,none⟩),.slice sa S.st.length sc,.slice ra S.rd.length rc,.slice wa S.wr.length tc,.slice va S.vs.length vc,.slice none 0 0,.slice none 0 0,.slice none 0 0] 224)).frozen? ⟨w1.heap.size,j,none⟩=false:=fun j=>by simp
 have H0:Hid (Hall0 (w1.alloc (.cells #[.pointer (some ⟨w.heap.size,0,none⟩),.slice sa S.st.length sc,.slice ra S.rd.length rc,.slice wa S.wr.length tc,.slice va S.vs.length vc,.slice none 0 0,.slice none 0 0,.slice none 0 0] 224)) w1.heap.size w.heap.size sh l S la sa ra wa va lc sc rc tc vc):=⟨c0,c1,c2,c3,c4,aB bU q0,aB bU q1,HL0.out.below B2.out,HST.out.below B2.out,hl8,hs4⟩
 have HLs:Hid (HL w (w1.alloc (.cells #[.pointer (some ⟨w.heap.size,0,none⟩),.slice sa S.st.length sc,.slice ra S.rd.length rc,.slice wa S.wr.length tc,.slice va S.vs.length vc,.slice none 0 0,.slice none 0 0,.slice none 0 0] 224)) w1.heap.size w.heap.size sh l la lc (.slice sa S.st.length sc) (.slice ra S.rd.length rc) (.slice wa S.wr.length tc) (.slice va S.vs.length vc) (.slice none 0 0) (.slice none 0 0) (.slice none 0 0) [] [] []):=⟨c0,c1,c2,c3,c4,c5,c6,c7,fz,aB bU q0,aB bU q1,Tri.nil _ _ _ _,B2.out,by have:=sz1.out;omega,by have:=sz1.out;omega,by simp⟩
 clear hbx KS y0 y1 z0 z1 z2 z3 HLW hW HE BW sW c0 c1 c2 c3 c4 c5 c6 c7 fz bU
 go_wp2_with fail
 generalize w1.alloc (.cells #[.pointer (some ⟨w.heap.size,0,none⟩),.slice sa S.st.length sc,.slice ra S.rd.length rc,.slice wa S.wr.length tc,.slice va S.vs.length vc,.slice none 0 0,.slice none 0 0,.slice none 0 0] 224)=w2 at *
 generalize w1.heap.size=H at *
 have CF:Hid (Calls Tryz.prog 230 #[.pointer (some ⟨H,0,none⟩)] w2 fun e w'=>e=.returned (.int .i64 0)∧Below w2.heap.size w2 w'):=by
  have hh:=lW H0.out H8.out
  rw[HF.out]at hh
  exact hh
 have FORM:Hid (Form sh l S):=eK.1 HF.out
 clear HF
 obtain⟨i65,hi65,hz65,hs65,hb65⟩:=info_parts Tryz.info104
 obtain⟨i131,hi131,hz131,hs131,hb131⟩:=info_parts Tryz.info265
 refine CF.out.mono ?_
 rintro e w3 ⟨rfl,hb3⟩
 clear CF q0 q1 r0 r1 r2 r3
 go_wp2_with fail
 refine(aO [0] _ 1 _ (by simp) rfl (cD _ _ _ rfl)).mono ?_
 rintro e w4 ⟨rfl,hw4⟩
 have HL4:Hid (HL w w4 H w.heap.size sh l la lc (.slice sa S.st.length sc) (.slice ra S.rd.length rc) (.slice wa S.wr.length tc) (.slice va S.vs.length vc) (.slice none 0 0) (.slice none 0 0) (.slice none 0 0) [] [] []):=by
  rw[hw4]
  exact HLs.out.below (aA (aC (Below.refl _ _) hb3) _)
 clear hw4 hb3 HLs H0 B1 B2
 have d0:=HL4.out.c0
 have d1:=HL4.out.p1
 go_wp2
 clear d0 d1
 go_loopw [31] (fun i wr=>∃(k:Nat) (v5 v6 v7:Value) (L5 L6:List (Nat×Nat)) (L7:List (Option Addr×Nat×Nat)),k≤l.length∧i=.int .i64 k∧Hid (HL w wr H w.heap.size sh l la lc (.slice sa S.st.length sc) (.slice ra S.rd.length rc) (.slice wa S.wr.length tc) (.slice va S.vs.length vc) v5 v6 v7 L5 L6 L7)∧Hid (L5.length=k∧L6.length=k∧L7.length=k)) (fun i _=>l.length - (intOf i).toNat)
 case atStart=>exact⟨0,_,_,_,[],[],[],Nat.zero_le _,rfl,HL4,⟨rfl,rfl,rfl⟩⟩
 case round=>
  obtain⟨k,v5,v6,v7,L5,L6,L7,hk,rfl,hHL,hLen⟩:=hrel
  clear HL4
  by_cases hlt:k<l.length
  ·obtain⟨b,off,ea,_,t0,t1,t2,hx⟩:=HL0.out k hlt
   subst ea
   have d0:=aB hHL.out.bl t0
   have d1:=aB hHL.out.bl t1
   have d2:=aB hHL.out.bl t2
   have HX:Hid (IsX w (gX l k)):=hx
   have HCx:Hid (eT (gX l k)=0):=nR HC.out k hlt
   have e0:=hHL.out.c0
   have e1:=hHL.out.p0
   have i1:(k:Int)<(l.length:Int):=by omega
   have i0:(0:Int)≤(k:Int):=by omega
   clear t0 t1 t2 hx
   have HGX:Hid (gX l k=gX l k):=rfl
   generalize hgx:l.getD k x0=x at d0 d1 d2
   have HXE:Hid (gX l k=x):=hgx
   rw[show gX l k=x from hgx]at HX HCx
   clear hgx HGX
   go_upto_region 7 with fail
   have bX:Below wr.heap.size wr (wr.alloc (.cells #[.slice x.ra x.rs.length x.rc,.slice x.ga x.gs.length x.gc,.slice x.sa x.ss.length x.sc] 95)):=aA (Below.refl _ _) _
   have hHX:Hid (HL w (wr.alloc (.cells #[.slice x.ra x.rs.length x.rc,.slice x.ga x.gs.length x.gc,.slice x.sa x.ss.length x.sc] 95)) H w.heap.size sh l (some ⟨b,off,none⟩) lc (.slice sa S.st.length sc) (.slice ra S.rd.length rc) (.slice wa S.wr.length tc) (.slice va S.vs.length vc) v5 v6 v7 L5 L6 L7):=hHL.out.below bX
   have hXH:Hid (H<wr.heap.size):=hHL.out.hs
   have hXo:Hid (gK v5 v6 v7 wr.heap.size):=⟨fun e=>by have:=(hHL.out.tri.o5.lt _ e).2;omega,fun e=>by have:=(hHL.out.tri.o6.lt _ e).2;omega,fun e=>by have:=(hHL.out.tri.o7.lt _ e).2;omega⟩
   have hown1:Hid (∀j,v5.ownBlock=some j∨v6.ownBlock=some j∨v7.ownBlock=some j→j<wr.heap.size):=fun j h=>by
    rcases h with h | h | h
    ·exact(hHL.out.tri.o5.lt _ h).2
    ·exact(hHL.out.tri.o6.lt _ h).2
    ·exact(hHL.out.tri.o7.lt _ h).2
   have x0':(wr.alloc (.cells #[.slice x.ra x.rs.length x.rc,.slice x.ga x.gs.length x.gc,.slice x.sa x.ss.length x.sc] 95)).cell? ⟨wr.heap.size,0,none⟩=some (.slice x.ra x.rs.length x.rc):=aG wr _ 95 _ 0 _ rfl rfl
   have x1':(wr.alloc (.cells #[.slice x.ra x.rs.length x.rc,.slice x.ga x.gs.length x.gc,.slice x.sa x.ss.length x.sc] 95)).cell? ⟨wr.heap.size,1,none⟩=some (.slice x.ga x.gs.length x.gc):=aG wr _ 95 _ 1 _ rfl rfl
   have x2':(wr.alloc (.cells #[.slice x.ra x.rs.length x.rc,.slice x.ga x.gs.length x.gc,.slice x.sa x.ss.length x.sc] 95)).cell? ⟨wr.heap.size,2,none⟩=some (.slice x.sa x.ss.length x.sc):=aG wr _ 95 _ 2 _ rfl rfl
   have e0:=aB bX e0
   have e1:=aB bX e1
   clear bX hHL d0 d1 d2
   have sX:wr.heap.size<(wr.alloc (.cells #[.slice x.ra x.rs.length x.rc,.slice x.ga x.gs.length x.gc,.slice x.sa x.ss.length x.sc] 95)).heap.size:=by simp
   have sH:H<(wr.alloc (.cells #[.slice x.ra x.rs.length x.rc,.slice x.ga x.gs.length x.gc,.slice x.sa x.ss.length x.sc] 95)).heap.size:=by have:=hXH.out;omega
   have sP:w.heap.size<(wr.alloc (.cells #[.slice x.ra x.rs.length x.rc,.slice x.ga x.gs.length x.gc,.slice x.sa x.ss.length x.sc] 95)).heap.size:=by have:=hHX.out.hp;omega
   generalize wr.alloc (.cells #[.slice x.ra x.rs.length x.rc,.slice x.ga x.gs.length x.gc,.slice x.sa x.ss.length x.sc] 95)=V at *
   generalize wr.heap.size=X at *
   go_cut [8] (fun u8 wx=>∃Y Z:Nat,u8=.pointer (some ⟨Y,0,none⟩)∧V.heap.size≤Y∧V.heap.size≤Z∧wx.cell? ⟨Y,0,none⟩=some (.int .i64 sh)∧wx.cell? ⟨Y,1,none⟩=some (.slice (some ⟨Z,0,none⟩) 1 1)∧wx.cell? ⟨Z,0,none⟩=some (.slice x.ra x.rs.length x.rc)∧wx.cell? ⟨Z,1,none⟩=some (.slice x.ga x.gs.length x.gc)∧wx.cell? ⟨Z,2,none⟩=some (.slice x.sa x.ss.length x.sc)∧Hid (Below V.heap.size V wx))
   case first=>
    go_region
    all_goals (
     go_wp2_with fail
     go_meet
     first
      | (refine⟨V.heap.size+1,V.heap.size,rfl,?_,?_,?_⟩;(omega);(exact Nat.le_refl _);(exact alone_a V sh (.slice x.ra x.rs.length x.rc) (.slice x.ga x.gs.length x.gc) (.slice x.sa x.ss.length x.sc)))
      | (refine⟨V.heap.size,V.heap.size+1,rfl,?_,?_,?_⟩;(exact Nat.le_refl _);(omega);(exact alone_b V sh (.slice x.ra x.rs.length x.rc) (.slice x.ga x.gs.length x.gc) (.slice x.sa x.ss.length x.sc))))
   case rest=>
    obtain⟨Y,Z,rfl,hY,hZ,y0,y1,zc0,zc1,zc2,hbC⟩:=hcut
    obtain⟨V2,hren⟩:∃V2:World,V2=wc:=⟨_,rfl⟩
    subst hren
    have hH2:Hid (HL w V2 H w.heap.size sh l (some ⟨b,off,none⟩) lc (.slice sa S.st.length sc) (.slice ra S.rd.length rc) (.slice wa S.wr.length tc) (.slice va S.vs.length vc) v5 v6 v7 L5 L6 L7):=hHX.out.below hbC.out
    have x0':=aB hbC.out x0'
    have x1':=aB hbC.out x1'
    have x2':=aB hbC.out x2'
    have fY:Hid (Y≠H∧Z≠H∧X≠H∧(∀j,v5.ownBlock=some j∨v6.ownBlock=some j∨v7.ownBlock=some j→j≠Y∧j≠Z∧j≠X)):=⟨by omega,by omega,by have:=hXH.out;omega,fun j h=>by have:=hown1.out j h;omega⟩
    have c5:=hH2.out.c5
    have hsm:Hid (L5.length≤100∧L6.length≤100∧L7.length≤100):=by have:=hLen.out;refine⟨?_,?_,?_⟩ <;> omega
    have HP4:Hid (∀j,(bN sh (bJ (aQ [x] 0))).getD j false=jS sh (gX l L5.length) j):=fun j=>by rw[hLen.out.1,HXE.out];rfl
    have HP6:Hid (∀j,(bN sh (aV (aQ [x] 0))).getD j false=oL sh (gX l L6.length) j):=fun j=>by rw[hLen.out.2.1,HXE.out];rfl
    have HP7:Hid (gX l L7.length=x):=by show _=_;rw[hLen.out.2.2,HXE.out]
    have ONE:Hid (∀w',Below w.heap.size w w'→w'.cell? ⟨Z,0,none⟩=some (.slice x.ra x.rs.length x.rc)→w'.cell? ⟨Z,1,none⟩=some (.slice x.ga x.gs.length x.gc)→w'.cell? ⟨Z,2,none⟩=some (.slice x.sa x.ss.length x.sc)→IsTxs w' (some ⟨Z,0,none⟩) [x]):=fun w' hb q0 q1 q2=>txs_one q0 q1 q2 (HX.out.below hb)
    have CP:Hid (∀w',Below V2.heap.size V2 w'→Calls Tryz.prog 232 #[.agg #[.int .i64 sh,.slice (some ⟨Z,0,none⟩) 1 1],.int .i64 0] w' fun e w''=>∃g c,e=.returned (.tuple #[.slice (some ⟨g,0,none⟩) sh c,.int .i64 0])∧w''.ownsRow w'.heap.size 4 1 (.slice (some ⟨g,0,none⟩) sh c) sh ((bN sh (bJ (aQ [x] 0))).map Value.bool)∧Below w'.heap.size w' w''):=fun w' hb=>part_own (some ⟨Z,0,none⟩) 1 [x] sh 0 w' (ONE.out w' (aC hH2.out.bl hb) (aB hb zc0) (aB hb zc1) (aB hb zc2)) (pn_one sh hs0 hs4 HCx.out)
    clear hbC hHX e0 e1
    go_upto_region 8 with fail
    go_cut [] (fun wx=>∃(v5':Value) (g c:Nat),Hid (HL w wx H w.heap.size sh l (some ⟨b,off,none⟩) lc (.slice sa S.st.length sc) (.slice ra S.rd.length rc) (.slice wa S.wr.length tc) (.slice va S.vs.length vc) v5' v6 v7 (L5++[(g,c)]) L6 L7)∧Hid (Kept H H v5 V2 wx))
    case first=>
     go_region_law (first
      | (refine cQ (by rfl) _ _ 42 104 (by rfl) i65 _ Tryz.underlying42 hi65 hz65 hs65 hb65 rfl (H+1) v5 L5.length _ (by rfl) HLc.out.tri.o5 ⟨_,0,none⟩ 1 (.slice (some ⟨g,0,none⟩) sh c) (by rfl) (aG (wa'.alloc _) _ 104 _ 0 _ (by simp) rfl) rfl hsm.out.1 HLc.out.hs ?_;intro v' w5 ho3 hg3 hv3;obtain⟨g',cap',rfl,_,_⟩:=ho3.form (by simp);have oc:w5.cell? ⟨H,5,none⟩=some v5:=hg3.cell HLc.out.c5 (fun e=>by have:=(HLc.out.tri.o5.lt H e.symm).1;omega);have of3:w5.frozen? ⟨H,5,none⟩=false:=(World.frozen?_of_block (a:=⟨H,5,none⟩) (hg3.block H HLc.out.hs (fun e=>by have:=(HLc.out.tri.o5.lt H e.symm).1;omega))).trans (HLc.out.fz 5))
      | (go_simp;go_at_call 232;refine(CP.out _ ?_).mono ?_;(exact aD (Below.refl _ _));rintro e wa' ⟨g,c,rfl,hpo,hba⟩;have oa:wa'.cell? ⟨H,5,none⟩=some v5:=aB (aC (aD (Below.refl _ _)) hba) c5;have ob:∀o,(wa'.alloc o).cell? ⟨H,5,none⟩=some v5:=(fun o=>aB (aA (Below.refl _ _) o) oa);have ob2:∀o o',((wa'.alloc o).alloc o').cell? ⟨H,5,none⟩=some v5:=(fun o o'=>aB (aA (aA (Below.refl _ _) o) o') oa);have Hwc:Hid (Below V2.heap.size V2 ((wa'.alloc (.cells #[.int .i64 0] 22)).alloc (.cells #[.slice (some ⟨g,0,none⟩) sh c] 104))):=aA (aA (aC (aD (Below.refl _ _)) hba) _) _;have HLc:Hid (HL w ((wa'.alloc (.cells #[.int .i64 0] 22)).alloc (.cells #[.slice (some ⟨g,0,none⟩) sh c] 104)) H w.heap.size sh l (some ⟨b,off,none⟩) lc (.slice sa S.st.length sc) (.slice ra S.rd.length rc) (.slice wa S.wr.length tc) (.slice va S.vs.length vc) v5 v6 v7 L5 L6 L7):=hH2.out.below Hwc.out;go_wp2_with fail)
      | (go_simp;go_at_call 231;refine(pT _ _ _ _).mono ?_;rintro e wb' ⟨rfl,rfl⟩;go_wp2_with fail))
     all_goals (
      go_wp2_with fail
      go_meet
      obtain⟨m1,m2,m3⟩:=bool_row hpo (oP _ _) (aA (aA (Below.refl _ _) _) _)
      exact⟨_,g,c,HL.push5 hH2.out Hwc.out g c ho3 hg3 hv3 (by have:=hH2.out.hs;have:V2.heap.size≤g:=m1;omega) m2 m1 (fun j hj=>by rw[←HP4.out j];exact m3 j hj),((Kept.refl H H v5 V2).on (bM Hwc.out none) (fun j e=>by cases e)).on hg3 (fun j e=>.inr (.inr e)) |>.on (aP w5 H 5 _) (fun j e=>by injection e with e;exact .inl e.symm)⟩)
    case rest=>
     obtain⟨v5',g5,c5',hH3,hK3⟩:=hcut
     obtain⟨V3,hren⟩:∃V3:World,V3=wc:=⟨_,rfl⟩
     subst hren
     have y0:=hK3.out.cell y0 fY.out.1 fY.out.1 (fun e=>(fY.out.2.2.2 Y (.inl e)).1 rfl)
     have y1:=hK3.out.cell y1 fY.out.1 fY.out.1 (fun e=>(fY.out.2.2.2 Y (.inl e)).1 rfl)
     have zc0:=hK3.out.cell zc0 fY.out.2.1 fY.out.2.1 (fun e=>(fY.out.2.2.2 Z (.inl e)).2.1 rfl)
     have zc1:=hK3.out.cell zc1 fY.out.2.1 fY.out.2.1 (fun e=>(fY.out.2.2.2 Z (.inl e)).2.1 rfl)
     have zc2:=hK3.out.cell zc2 fY.out.2.1 fY.out.2.1 (fun e=>(fY.out.2.2.2 Z (.inl e)).2.1 rfl)
     have x0':=hK3.out.cell x0' fY.out.2.2.1 fY.out.2.2.1 (fun e=>(fY.out.2.2.2 X (.inl e)).2.2 rfl)
     have x1':=hK3.out.cell x1' fY.out.2.2.1 fY.out.2.2.1 (fun e=>(fY.out.2.2.2 X (.inl e)).2.2 rfl)
     have x2':=hK3.out.cell x2' fY.out.2.2.1 fY.out.2.2.1 (fun e=>(fY.out.2.2.2 X (.inl e)).2.2 rfl)
     have c6:=hH3.out.c6
     have CA:Hid (∀w',Below V3.heap.size V3 w'→Calls Tryz.prog 233 #[.agg #[.int .i64 sh,.slice (some ⟨Z,0,none⟩) 1 1],.int .i64 0] w' fun e w''=>∃g c,e=.returned (.tuple #[.slice (some ⟨g,0,none⟩) sh c,.int .i64 0])∧w''.ownsRow w'.heap.size 4 1 (.slice (some ⟨g,0,none⟩) sh c) sh ((bN sh (aV (aQ [x] 0))).map Value.bool)∧Below w'.heap.size w' w''):=fun w' hb=>active_own (some ⟨Z,0,none⟩) 1 [x] sh 0 w' (ONE.out w' (aC hH3.out.bl hb) (aB hb zc0) (aB hb zc1) (aB hb zc2)) (pn_one sh hs0 hs4 HCx.out)
     clear hK3 hH2 CP c5 HP4
     go_upto_region 9 with fail
     go_cut [] (fun wx=>∃(v6':Value) (g c:Nat),Hid (HL w wx H w.heap.size sh l (some ⟨b,off,none⟩) lc (.slice sa S.st.length sc) (.slice ra S.rd.length rc) (.slice wa S.wr.length tc) (.slice va S.vs.length vc) v5' v6' v7 (L5++[(g5,c5')]) (L6++[(g,c)]) L7)∧Hid (Kept H H v6 V3 wx))
     case first=>
      go_region_law (first
       | (refine cQ (by rfl) _ _ 42 104 (by rfl) i65 _ Tryz.underlying42 hi65 hz65 hs65 hb65 rfl (H+1) v6 L6.length _ (by rfl) HLc.out.tri.o6 ⟨_,0,none⟩ 1 (.slice (some ⟨g,0,none⟩) sh c) (by rfl) (aG (wa'.alloc _) _ 104 _ 0 _ (by simp) rfl) rfl hsm.out.2.1 HLc.out.hs ?_;intro v' w5 ho3 hg3 hv3;obtain⟨g',cap',rfl,_,_⟩:=ho3.form (by simp);have oc:w5.cell? ⟨H,6,none⟩=some v6:=hg3.cell HLc.out.c6 (fun e=>by have:=(HLc.out.tri.o6.lt H e.symm).1;omega);have of3:w5.frozen? ⟨H,6,none⟩=false:=(World.frozen?_of_block (a:=⟨H,6,none⟩) (hg3.block H HLc.out.hs (fun e=>by have:=(HLc.out.tri.o6.lt H e.symm).1;omega))).trans (HLc.out.fz 6))
       | (go_simp;go_at_call 233;refine(CA.out _ ?_).mono ?_;(exact aD (Below.refl _ _));rintro e wa' ⟨g,c,rfl,hpo,hba⟩;have oa:wa'.cell? ⟨H,6,none⟩=some v6:=aB (aC (aD (Below.refl _ _)) hba) c6;have ob:∀o,(wa'.alloc o).cell? ⟨H,6,none⟩=some v6:=(fun o=>aB (aA (Below.refl _ _) o) oa);have ob2:∀o o',((wa'.alloc o).alloc o').cell? ⟨H,6,none⟩=some v6:=(fun o o'=>aB (aA (aA (Below.refl _ _) o) o') oa);have Hwc:Hid (Below V3.heap.size V3 ((wa'.alloc (.cells #[.int .i64 0] 22)).alloc (.cells #[.slice (some ⟨g,0,none⟩) sh c] 104))):=aA (aA (aC (aD (Below.refl _ _)) hba) _) _;have HLc:Hid (HL w ((wa'.alloc (.cells #[.int .i64 0] 22)).alloc (.cells #[.slice (some ⟨g,0,none⟩) sh c] 104)) H w.heap.size sh l (some ⟨b,off,none⟩) lc (.slice sa S.st.length sc) (.slice ra S.rd.length rc) (.slice wa S.wr.length tc) (.slice va S.vs.length vc) v5' v6 v7 (L5++[(g5,c5')]) L6 L7):=hH3.out.below Hwc.out;go_wp2_with fail)
       | (go_simp;go_at_call 231;refine(pT _ _ _ _).mono ?_;rintro e wb' ⟨rfl,rfl⟩;go_wp2_with fail))
      all_goals (
       go_wp2_with fail
       go_meet
       obtain⟨m1,m2,m3⟩:=bool_row hpo (oP _ _) (aA (aA (Below.refl _ _) _) _)
       exact⟨_,g,c,HL.push6 hH3.out Hwc.out g c ho3 hg3 hv3 (by have:=hH3.out.hs;have:V3.heap.size≤g:=m1;omega) m2 m1 (fun j hj=>by rw[←HP6.out j];exact m3 j hj),((Kept.refl H H v6 V3).on (bM Hwc.out none) (fun j e=>by cases e)).on hg3 (fun j e=>.inr (.inr e)) |>.on (aP w5 H 6 _) (fun j e=>by injection e with e;exact .inl e.symm)⟩)
     case rest=>
      obtain⟨v6',g6,c6',hH4,hK4⟩:=hcut
      obtain⟨V4,hren⟩:∃V4:World,V4=wc:=⟨_,rfl⟩
      subst hren
      have y0:=hK4.out.cell y0 fY.out.1 fY.out.1 (fun e=>(fY.out.2.2.2 Y (.inr <| .inl e)).1 rfl)
      have y1:=hK4.out.cell y1 fY.out.1 fY.out.1 (fun e=>(fY.out.2.2.2 Y (.inr <| .inl e)).1 rfl)
      have zc0:=hK4.out.cell zc0 fY.out.2.1 fY.out.2.1 (fun e=>(fY.out.2.2.2 Z (.inr <| .inl e)).2.1 rfl)
      have zc1:=hK4.out.cell zc1 fY.out.2.1 fY.out.2.1 (fun e=>(fY.out.2.2.2 Z (.inr <| .inl e)).2.1 rfl)
      have zc2:=hK4.out.cell zc2 fY.out.2.1 fY.out.2.1 (fun e=>(fY.out.2.2.2 Z (.inr <| .inl e)).2.1 rfl)
      have x0':=hK4.out.cell x0' fY.out.2.2.1 fY.out.2.2.1 (fun e=>(fY.out.2.2.2 X (.inr <| .inl e)).2.2 rfl)
      have x1':=hK4.out.cell x1' fY.out.2.2.1 fY.out.2.2.1 (fun e=>(fY.out.2.2.2 X (.inr <| .inl e)).2.2 rfl)
      have x2':=hK4.out.cell x2' fY.out.2.2.1 fY.out.2.2.1 (fun e=>(fY.out.2.2.2 X (.inr <| .inl e)).2.2 rfl)
      have c7:=hH4.out.c7
      have CL:Hid (∀w',Below V4.heap.size V4 w'→Calls Tryz.prog 235 #[.agg #[.slice x.ra x.rs.length x.rc,.slice x.ga x.gs.length x.gc,.slice x.sa x.ss.length x.sc]] w' fun e w''=>∃a cap,e=.returned (.tuple #[.slice a (jM x).length cap,.int .i64 0])∧(IsLks w'' a (jM x)∧∀ad,a=some ad→w'.heap.size≤ad.block)∧Below w'.heap.size w' w''):=fun w' hb=>locks_okA x.ra x.ga x.sa x.rc x.gc x.sc x.rs x.gs x.ss w' (HX.out.below (aC hH4.out.bl hb)).t HCx.out (bL _ _ _ (dH HCx.out).1).2.2.1
      have LP:Hid (0<(jM x).length):=lk_pos HCx.out
      clear hK4 hH3 CA c6 HP6 y0 y1 zc0 zc1 zc2 ONE
      generalize hln:(jM x).length=LN at *
      have HLN:Hid ((jM x).length=LN):=hln
      clear hln
      go_upto_region 10 with fail
      go_region_law (first
       | (refine cQ (by rfl) _ _ 222 265 (by rfl) i131 _ Tryz.underlying222 hi131 hz131 hs131 hb131 rfl (H+1) v7 L7.length _ (by rfl) HLc.out.tri.o7 ⟨_,0,none⟩ 1 (.slice a LN c) (by rfl) (aG (wa'.alloc _) _ 265 _ 0 _ (by simp) rfl) rfl hsm.out.2.2 HLc.out.hs ?_;intro v' w5 ho3 hg3 hv3;obtain⟨g',cap',rfl,_,_⟩:=ho3.form (by simp);have oc:w5.cell? ⟨H,7,none⟩=some v7:=hg3.cell HLc.out.c7 (fun e=>by have:=(HLc.out.tri.o7.lt H e.symm).1;omega);have of3:w5.frozen? ⟨H,7,none⟩=false:=(World.frozen?_of_block (a:=⟨H,7,none⟩) (hg3.block H HLc.out.hs (fun e=>by have:=(HLc.out.tri.o7.lt H e.symm).1;omega))).trans (HLc.out.fz 7))
       | (go_simp;go_at_call 235;refine(CL.out _ ?_).mono ?_;(exact aD (Below.refl _ _));rintro e wa' ⟨a,c,rfl,hpo,hba⟩;have oa:wa'.cell? ⟨H,7,none⟩=some v7:=aB (aC (aD (Below.refl _ _)) hba) c7;have ob:∀o,(wa'.alloc o).cell? ⟨H,7,none⟩=some v7:=(fun o=>aB (aA (Below.refl _ _) o) oa);have ob2:∀o o',((wa'.alloc o).alloc o').cell? ⟨H,7,none⟩=some v7:=(fun o o'=>aB (aA (aA (Below.refl _ _) o) o') oa);have Hwc:Hid (Below V4.heap.size V4 ((wa'.alloc (.cells #[.int .i64 0] 22)).alloc (.cells #[.slice a LN c] 265))):=aA (aA (aC (aD (Below.refl _ _)) hba) _) _;have HLc:Hid (HL w ((wa'.alloc (.cells #[.int .i64 0] 22)).alloc (.cells #[.slice a LN c] 265)) H w.heap.size sh l (some ⟨b,off,none⟩) lc (.slice sa S.st.length sc) (.slice ra S.rd.length rc) (.slice wa S.wr.length tc) (.slice va S.vs.length vc) v5' v6' v7 (L5++[(g5,c5')]) (L6++[(g6,c6')]) L7):=hH4.out.below Hwc.out;go_wp2_with fail)
       | (go_simp;go_at_call 234;refine(gotLocksB _ _ _ _).mono ?_;rintro e wb' ⟨rfl,rfl⟩;go_wp2_with fail))
      all_goals (
       have n1:IsLks ((wa'.alloc (.cells #[.int .i64 0] 22)).alloc (.cells #[.slice a LN c] 265)) a (jM x):=hpo.1.below (aA (aA (Below.refl _ _) _) _)
       obtain⟨bb,oo,ea,hlt5,_,_⟩:=n1 0 (by rw[HLN.out];exact LP.out)
       have hH5:Hid (HL w (w5.setCell ⟨H,7,none⟩ (.slice (some ⟨g',0,none⟩) (L7.length+1) cap')) H w.heap.size sh l (some ⟨b,off,none⟩) lc (.slice sa S.st.length sc) (.slice ra S.rd.length rc) (.slice wa S.wr.length tc) (.slice va S.vs.length vc) v5' v6' (.slice (some ⟨g',0,none⟩) (L7.length+1) cap') (L5++[(g5,c5')]) (L6++[(g6,c6')]) (L7++[(a,(jM (gX l L7.length)).length,c)])):=HL.push7 hH4.out Hwc.out a c (by rw[HP7.out,HLN.out];exact ho3) hg3 hv3 (by rw[HP7.out];exact n1) (fun ad e=>⟨hpo.2 ad e,by rw[ea]at e;injection e with e;rw[←e];exact hlt5⟩)
       have hLn:Hid ((L5++[(g5,c5')]).length=k+1∧(L6++[(g6,c6')]).length=k+1∧(L7++[(a,(jM (gX l L7.length)).length,c)]).length=k+1):=by have:=hLen.out;refine⟨?_,?_,?_⟩ <;> (rw[List.length_append,List.length_singleton];omega)
       clear hH4 CL c7 HP7 x0' x1' x2' ho3 hg3 hv3 hpo hba oa ob ob2 oc of3 Hwc HLc n1 ea hlt5
       generalize (w5.setCell ⟨H,7,none⟩ (.slice (some ⟨g',0,none⟩) (L7.length+1) cap'))=WF at *
       go_wp2
       go_roundw
       case rel=>exact⟨k+1,v5',v6',_,_,_,_,by omega,by go_num,hH5,hLn⟩
       case measure=>simp[intOf];omega)
  ·have hkk:k=l.length:=by omega
   have i1:¬(k:Int)<(l.length:Int):=by omega
   obtain⟨a5,k5,hv5,br5⟩:=hHL.out.tri.br5
   obtain⟨a6,k6,hv6,br6⟩:=hHL.out.tri.br6
   obtain⟨a7,k7,hv7,lr7⟩:=hHL.out.tri.lr7 (by have:=hLen.out.2.2;omega)
   have m5:L5.length=l.length:=by have:=hLen.out.1;omega
   have m6:L6.length=l.length:=by have:=hLen.out.2.1;omega
   have m7:L7.length=l.length:=by have:=hLen.out.2.2;omega
   have HALL:Hid (Hall wr H sh l S ⟨w.heap.size,la,sa,ra,wa,va,a5,a6,a7,lc,sc,rc,tc,vc,k5,k6,k7⟩):=
    ⟨hHL.out.c0,by have:=hHL.out.c1;rw[H8.out]at this;exact this,by have:=hHL.out.c2;rw[FORM.out.rd]at this;exact this,by have:=hHL.out.c3;rw[FORM.out.wr]at this;exact this,by have:=hHL.out.c4;rw[FORM.out.vs]at this;exact this,by have:=hHL.out.c5;rw[hv5,m5]at this;exact this,by have:=hHL.out.c6;rw[hv6,m6]at this;exact this,by have:=hHL.out.c7;rw[hv7,m7]at this;exact this,hHL.out.p0,hHL.out.p1,HL0.out.below hHL.out.bl,H8.out,HST.out.st.below hHL.out.bl,(HST.out.rd.below hHL.out.bl).rows FORM.out.rd FORM.out.rn hs0,(HST.out.wr.below hHL.out.bl).rows FORM.out.wr FORM.out.wn hs0,(HST.out.vs.below hHL.out.bl).rows FORM.out.vs FORM.out.vn,by rw[m5]at br5;exact br5,by rw[m6]at br6;exact br6,lr7,hs0,hs4,hl8⟩
   have FIN:Hid (w.heap.size≤H∧H<wr.heap.size∧(∀j,wr.frozen? ⟨H,j,none⟩=false)∧w.heap.size<H∧Below w.heap.size w wr):=⟨hHL.out.hw,hHL.out.hs,hHL.out.fz,hHL.out.hp,hHL.out.bl⟩
   clear hHL br5 br6 lr7 hv5 hv6 hv7 m5 m6 m7
   have CT:Hid (Calls Tryz.prog 236 #[.pointer (some ⟨H,0,none⟩)] wr fun e w'=>e=.returned (.int .i64 (if bH sh l S then 0 else 1))∧w'=wr):=rC HALL.out
   cases hT:bH sh l S with
   | true=>
    have CT1:Hid (Calls Tryz.prog 236 #[.pointer (some ⟨H,0,none⟩)] wr fun e w'=>e=.returned (.int .i64 0)∧w'=wr):=by have:=CT.out;rw[hT]at this;exact this
    have HT:Hid (bH sh l S=true):=hT
    clear CT hT
    go_wp2_with fail
    refine CT1.out.mono ?_
    rintro e w6 ⟨rfl,hw6⟩
    subst hw6
    clear CT1
    go_wp2_with fail
    refine(aO [0] _ 1 _ (by simp) rfl (cD _ _ _ rfl)).mono ?_
    rintro e w7 ⟨rfl,hw7⟩
    have b7:Hid (Below w6.heap.size w6 w7):=by rw[hw7];exact aA (Below.refl _ _) _
    clear hw7
    go_wp2
    go_ret
    exact⟨.inl ⟨HT.out,H,_,rfl,HALL.out.below b7.out,FIN.out.1,Nat.lt_of_lt_of_le FIN.out.2.1 b7.out.size,fun j=>(b7.out.frozen (p:=⟨H,j,none⟩) FIN.out.2.1).trans (FIN.out.2.2.1 j),Nat.le_refl _,FIN.out.2.2.2.1,rfl⟩,aC FIN.out.2.2.2.2 b7.out⟩
   | false=>
    have CT1:Hid (Calls Tryz.prog 236 #[.pointer (some ⟨H,0,none⟩)] wr fun e w'=>e=.returned (.int .i64 1)∧w'=wr):=by have:=CT.out;rw[hT]at this;exact this
    have HT:Hid (bH sh l S=false):=hT
    clear CT hT
    go_wp2_with fail
    refine CT1.out.mono ?_
    rintro e w6 ⟨rfl,hw6⟩
    subst hw6
    clear CT1
    go_wp2_with fail
    refine(cH [1] _ 1 _ (by simp) (by decide) (cD _ _ _ rfl)).mono ?_
    rintro e w7 ⟨rfl,hw7⟩
    refine⟨rfl,.inr ⟨HT.out,rfl⟩,?_⟩
    rw[hw7]
    exact aA FIN.out.2.2.2.2 _
end
end Go.Proofs.YtcgpkonfneofdaaGreatDoor
