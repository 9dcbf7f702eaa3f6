/- Conditions: those that each theorem states. -/
import Derived.Test.YtcgpkonfneofdaaGreatDoorSStoreA
import Derived.Lib.BufferOwn
import Derived.Maps.Range
set_option maxRecDepth 100000
set_option maxHeartbeats 8000000
namespace Go.Proofs.YtcgpkonfneofdaaGreatDoor
open Go.RowKit
section
theorem rG (s:List Int) (sa:Option Addr) (sc:Nat) (w:World) :
  Calls Tryz.prog 78 #[.slice sa s.length sc] w fun e w'=>e=.returned (.int .i64 (if s.length=8 then 0 else 1))∧w'=w:=by
 by_cases h:s.length=8
 ·rw[if_pos h]
  have h':((s.length:Int) != 8)=false:=by simp;omega
  generalize s.length=n at *
  clear h
  go_enter Tryz.func78,Tryz.ntmps78
  go_wp2
  go_ret
  exact⟨rfl,rfl⟩
 ·rw[if_neg h]
  have h':((s.length:Int) != 8)=true:=by simp;omega
  generalize s.length=n at *
  clear h
  go_enter Tryz.func78,Tryz.ntmps78
  go_wp2
  go_ret
  exact⟨rfl,rfl⟩
variable (la:Option Addr) (lc:Nat) (l:List TxA)
theorem iD (w:World) (hl:IsTxs w la l) :
  Calls Tryz.prog 64 #[.slice la l.length lc] w fun e w'=>e=.returned (.int .i64 (dD l))∧Below w.heap.size w w':=by
 by_cases h8:8<l.length
 ·have H:Hid (dD l=2):=if_pos h8
  clear hl
  go_enter Tryz.func64,Tryz.ntmps64
  go_wp2
  go_ret
  exact⟨by rw[H.out];rfl,Below.refl _ _⟩
 ·have H:Hid (dD l=aF (l.map eT)):=if_neg h8
  go_enter Tryz.func64,Tryz.ntmps64
  go_wp2
  go_loopw [4,5,11] (fun _ _ i wr=>∃k:Nat,k≤l.length∧i=.int .i64 k∧Hid (aF (l.map eT)=aF ((l.map eT).drop k))∧Below w.heap.size w wr) (fun _ _ i _=>l.length - (intOf i).toNat)
  case atStart=>exact⟨0,Nat.zero_le _,rfl,rfl,Below.refl _ _⟩
  case round=>
   obtain⟨k,hk,rfl,hno,hnx⟩:=hrel
   by_cases hlt:k<l.length
   ·obtain⟨b,off,rfl,hb,c0,c1,c2,hx⟩:=hl k hlt
    have d0:=aB hnx c0
    have d1:=aB hnx c1
    have d2:=aB hnx c2
    have HX:Hid (IsX wr (l.getD k x0)):=hx.below hnx
    have hs:Hid (aF (l.map eT)=if eT (l.getD k x0)=0 then aF ((l.map eT).drop (k+1)) else eT (l.getD k x0)):=hno.out.trans (kB eT l x0 k hlt)
    clear c0 c1 c2 hx hl hno
    generalize (l.getD k x0)=x at *
    obtain⟨ra,ga,sa,rc,gc,sc,rs,gs,ss⟩:=x
    simp only at d0 d1 d2
    by_cases hE:bA rs gs ss=0
    ·have HN:Hid (aF (l.map eT)=aF ((l.map eT).drop (k+1))):=hs.out.trans (if_pos hE)
     have HE:Hid (bA rs gs ss=0):=hE
     clear hs hE
     go_wp2_with fail
     refine(cZ ra ga sa rc gc sc rs gs ss _ (HX.out.t.below (by repeat (first | assumption | exact Below.refl _ _ | refine aD ?_ | refine aA ?_ _ | refine aC ?_ (by assumption))))).mono ?_
     rintro e W ⟨rfl,hbW⟩
     rw[HE.out]
     have RB:Below w.heap.size w W:=aC hnx (aC (aA (Below.refl _ _) _) hbW)
     clear hbW hnx d0 d1 d2
     go_wp2
     go_roundw
     case rel=>exact⟨k+1,by omega,by go_num,HN,RB⟩
     case measure=>simp[intOf];omega
    ·have HV:Hid (aF (l.map eT)=bA rs gs ss):=hs.out.trans (if_neg hE)
     have hb':(bA rs gs ss != 0)=true:=by simpa using hE
     clear hs hE
     go_wp2_with fail
     refine(cZ ra ga sa rc gc sc rs gs ss _ (HX.out.t.below (by repeat (first | assumption | exact Below.refl _ _ | refine aD ?_ | refine aA ?_ _ | refine aC ?_ (by assumption))))).mono ?_
     rintro e W ⟨rfl,hbW⟩
     have RB:Below w.heap.size w W:=aC hnx (aC (aA (Below.refl _ _) _) hbW)
     clear hbW hnx d0 d1 d2
     go_wp2
     go_ret
     exact⟨by rw[H.out,HV.out];rfl,RB⟩
   ·have H':Hid (aF (l.map eT)=0):=by
     have h0:=hno.out
     rw[List.drop_of_length_le (by simp;omega)]at h0
     exact h0
    clear hno hl
    go_wp2
    go_ret
    exact⟨by rw[H.out,H'.out];rfl,hnx⟩
end
section
open Go.ChangeShapes Go.WideShapes Go.ChangeAt Go.RowKit Go.Deep
section
variable {H:Type} {enc:TypeId×Value→H} {w:World} {base:Nat} {held:Bool}
end
theorem gY:∀(l:List Int),bI l=0→∀z∈l,0≤z∧z<8
 | [],_,z,h=>by cases h
 | y::t,h,z,hz=>by
  unfold bI at h
  by_cases c:y<0∨8≤y
  ·rw[if_pos c]at h;omega
  ·rw[if_neg c]at h
   rcases List.mem_cons.1 hz with rfl | hz
   ·omega
   ·exact gY t h z hz
theorem rY (l:List Int) (h:bI l=0) (k:Nat) (hk:k<l.length):0≤l.getD k 0∧l.getD k 0<8:=by
 refine gY l h _ ?_
 simp[List.getD,hk]
theorem mO {rs:List Int} {gs:List Gd} {ss:List St} (h:bA rs gs ss=0):bI rs=0∧bI (aH ss)=0:=by
 have h':=aR _ (dH h).2.1
 exact⟨by simpa using h' 0,by simpa using h' 1⟩
theorem at_of_owns2 {w:World} {base:Nat} {v:Value} {n:Nat} {zs:List Int} (h:w.ownsRow base 3 1 v n (zs.map (Value.int .i64))):∃a cap,v=.slice a zs.length cap∧IsAt base w.heap.size w a zs∧(a=none→cap=0):=by
 have hn:zs.length=n:=by have:=h.1;simpa using this
 rcases h.2 with ⟨rfl,h0⟩ | ⟨g,cap,cur,rfl,hb,hg,hnc,hcm,hcs,htake⟩
 ·refine⟨none,0,by rw[hn,h0],fun i hi=>?_,fun _=>rfl⟩
  omega
 ·refine⟨some ⟨g,0,none⟩,cap,by rw[hn],fun i hi=>⟨g,0,rfl,hb,(Array.getElem?_eq_some_iff.1 hg).1,?_⟩,fun h=>by cases h⟩
  have hc:=h.cellAt i (by omega)
  rw[Nat.zero_add,hc]
  simp[List.getD,hi]
theorem take_rd (s rs:List Int) (k:Nat) (h:k<rs.length):(bY s rs).take (k+1)=(bY s rs).take k++[pU s (rs.getD k 0)]:=by
 rw[List.take_succ_eq_append_getElem (by simpa[bY]using h)]
 simp[bY,List.getD,h]
theorem vW (s rs:List Int) (sa ra:Option Addr) (sc rc:Nat) (w:World) (hs:IsInts w sa s) (hr:IsInts w ra rs) (h8:s.length=8) (h4:rs.length≤4) (hE:bI rs=0) :
  Calls Tryz.prog 276 #[.slice sa s.length sc,.slice ra rs.length rc] w fun e w'=>∃v,e=.returned v∧w'.ownsRow w.heap.size 3 1 v rs.length ((bY s rs).map (Value.int .i64))∧Below w.heap.size w w':=by
 obtain⟨i0,hi,hz0,hz1,hz2⟩:=info_parts Tryz.info3
 have hkl:Hid ((bY s rs).length=rs.length):=rX s rs
 have H8:Hid (s.length=8):=h8
 have HE:Hid (bI rs=0):=hE
 clear h8 hE
 go_enter Tryz.func276,Tryz.ntmps276
 go_wp2
 go_loopw [5,7,10] (fun v _ i wr=>∃k:Nat,k≤rs.length∧i=.int .i64 k∧wr.ownsRow w.heap.size 3 1 v k (((bY s rs).take k).map (Value.int .i64))∧Below w.heap.size w wr) (fun _ _ i _=>rs.length - (intOf i).toNat)
 case atStart=>exact⟨0,Nat.zero_le _,rfl,World.ownsRow_nil _ _ _ _,Below.refl _ _⟩
 case round=>
  obtain⟨k,hk,rfl,hown,hnx⟩:=hrel
  have hsz:w.heap.size≤wr.heap.size:=hnx.size
  by_cases hlt:k<rs.length
  ·obtain⟨b,off,rfl,hb,c0⟩:=hr k hlt
   obtain⟨hz,hz'⟩:=rY rs HE.out k hlt
   have HT:Hid ((bY s rs).take (k+1)=(bY s rs).take k++[pU s (rs.getD k 0)]):=take_rd s rs k hlt
   generalize rs.getD k 0=z at *
   obtain⟨m,rfl⟩:=Int.eq_ofNat_of_zero_le hz
   have hms:m<s.length:=by have:=H8.out;omega
   obtain⟨b',off',rfl,hb',c1⟩:=hs m hms
   have d0:=aB hnx c0
   have d1:=aB hnx c1
   have hg:pU s (m:Int)=s.getD m 0:=rfl
   rw[hg]at HT
   generalize s.getD m 0=y at *
   clear c0 c1 hs hr hg hz hz'
   go_wp2_with (first
    | (at_builtin;refine wpList_append_own _ rfl _ _ 41 rfl w.heap.size 3 i0 (.int .i64 0) 1 8 Tryz.underlying41 hi hz0 hz1 hz2 rfl (by decide) _ _ _ rfl (hown.alloc _) ⟨wr.heap.size,0,none⟩ 1 1 [.int .i64 y] rfl rfl (nG _ _ _ (by simp)) (ints_oneCell .i64 [y]) (by unfold maxLen;omega) (by omega) (by simp;omega) ?_;intro v' w1 hown' hgrow _)
    | go_in)
   have R:w1.ownsRow w.heap.size 3 1 v' (k+1) (((bY s rs).take (k+1)).map (Value.int .i64)):=by rw[HT.out,List.map_append];exact hown'
   have RB:=((hnx.alloc (by omega) _).grown hgrow (by simp;omega) (fun j hj=>(hown.lt j hj).1))
   clear hown' hgrow hown hnx d0 d1
   go_wp2
   go_roundw
   case rel=>exact⟨k+1,by omega,by go_num,R,RB⟩
   case measure=>simp[intOf];omega
  ·have R:wr.ownsRow w.heap.size 3 1 u5 rs.length ((bY s rs).map (Value.int .i64)):=by
    have hkk:k=rs.length:=by omega
    rw[hkk,List.take_of_length_le (by rw[hkl.out];exact Nat.le_refl _)]at hown
    exact hown
   clear hown hs hr
   go_wp2
   go_ret
   exact⟨_,rfl,R,hnx⟩
theorem vX (s rs:List Int) (sa ra:Option Addr) (sc rc:Nat) (w:World) (hs:IsInts w sa s) (hr:IsInts w ra rs) (h8:s.length=8) (h4:rs.length≤4) (hE:bI rs=0) :
  Calls Tryz.prog 276 #[.slice sa s.length sc,.slice ra rs.length rc] w fun e w'=>∃a cap,e=.returned (.slice a (bY s rs).length cap)∧IsAt w.heap.size w'.heap.size w' a (bY s rs)∧(a=none→cap=0)∧Below w.heap.size w w':=
 (vW s rs sa ra sc rc w hs hr h8 h4 hE).mono fun e w' ⟨v,he,ho,hb⟩=>by
  obtain⟨a,cap,rfl,hz,hn⟩:=at_of_owns2 ho
  exact⟨a,cap,he,hz,hn,hb⟩
end
section
theorem ints_of_row {w:World} {B g cap:Nat} {s:List Int} (h:w.ownsRow B 3 1 (.slice (some ⟨g,0,none⟩) s.length cap) s.length (s.map (Value.int .i64))):IsInts w (some ⟨g,0,none⟩) s:=by
 obtain⟨a,c,he,hi⟩:=fB h
 injection he with h1 h2 h3
 subst h1
 exact hi
theorem oT {V X wa:World} (h:Below X.heap.size X wa) (hX:X.heap=(V.alloc (.cells #[.bool false,.slice none 0 0] 148)).heap):wa.cell? ⟨V.heap.size,0,none⟩=some (.bool false)∧wa.cell? ⟨V.heap.size,1,none⟩=some (.slice none 0 0)∧∀j,wa.frozen? ⟨V.heap.size,j,none⟩=false:=by
 have hb:∀j,(⟨V.heap.size,j,none⟩:Addr).block<X.heap.size:=fun j=>by rw[hX];simp
 have hc:∀p,X.cell? p=(V.alloc (.cells #[.bool false,.slice none 0 0] 148)).cell? p:=fun p=>World.cell?_of_block (by rw[hX])
 have hf:∀p,X.frozen? p=(V.alloc (.cells #[.bool false,.slice none 0 0] 148)).frozen? p:=fun p=>World.frozen?_of_block (by rw[hX])
 exact⟨((h.cell (hb 0)).trans (hc _)).trans (by simp),((h.cell (hb 1)).trans (hc _)).trans (by simp),fun j=>((h.frozen (hb j)).trans (hf _)).trans (by simp)⟩
theorem fresh_on {X wa wb:World} {R:Nat} {u v:Value} (h:Below X.heap.size X wb) (r0:wa.cell? ⟨R,0,none⟩=some u) (r1:wa.cell? ⟨R,1,none⟩=some v) (rf:∀j,wa.frozen? ⟨R,j,none⟩=false) (hX:X.heap=wa.heap):wb.cell? ⟨R,0,none⟩=some u∧wb.cell? ⟨R,1,none⟩=some v∧∀j,wb.frozen? ⟨R,j,none⟩=false:=by
 have hb:∀j,(⟨R,j,none⟩:Addr).block<X.heap.size:=fun j=>by rw[hX];exact World.block_lt_of_cell? wa ⟨R,0,none⟩ r0
 have hc:∀p,X.cell? p=wa.cell? p:=fun p=>World.cell?_of_block (by rw[hX])
 have hf:∀p,X.frozen? p=wa.frozen? p:=fun p=>World.frozen?_of_block (by rw[hX])
 exact⟨((h.cell (hb 0)).trans (hc _)).trans r0,((h.cell (hb 1)).trans (hc _)).trans r1,fun j=>((h.frozen (hb j)).trans (hf _)).trans (rf j)⟩
theorem wJ {X wa:World} (h:Below X.heap.size X wa):X.heap.size≤wa.heap.size:=h.size
theorem row_cell {w:World} {B g cap n:Nat} {P:List Int} (h:w.ownsRow B 3 1 (.slice (some ⟨g,0,none⟩) n cap) n (P.map (Value.int .i64))) (hP:P.length=n) (m:Nat) (hm:m<n):w.cell? ⟨g,m,none⟩=some (.int .i64 (P.getD m 0)):=by
 rw[h.cellAt m (by omega)]
 simp[List.getD,hP,hm]
theorem sC:∀(ks s vs:List Int),vs.length≤ks.length→bQ s (ks.take vs.length) vs=bQ s ks vs
 | [],s,vs,_=>by simp
 | k::ks,s,[],_=>by simp[bQ]
 | k::ks,s,v::vs,h=>by
  simp only[List.length_cons,List.take_succ_cons,bQ]
  exact sC ks _ vs (by simpa using h)
theorem IsAt.grown {lo hi g:Nat} {w w':World} {a:Option Addr} {zs:List Int} (h:IsAt lo hi w a zs) (hg:w.grownBy w' (some g)) (hlo:g<lo) (_hhi:hi≤w.heap.size):IsAt lo hi w' a zs:=fun i hi'=>by
 obtain⟨b,off,ha,h1,h2,hc⟩:=h i hi'
 exact⟨b,off,ha,h1,h2,hg.cell hc (by simp;omega)⟩
theorem aP (w:World) (b i:Nat) (v:Value):w.grownBy (w.setCell ⟨b,i,none⟩ v) (some b):=⟨rfl,rfl,rfl,by simp,fun j _ hj=>Below.heap_setCell w ⟨b,i,none⟩ v j (fun h=>hj (by rw[h]))⟩
theorem bM {w w':World} (h:Below w.heap.size w w') (row:Option Nat):w.grownBy w' row:=⟨h.os,h.tape,h.output,h.size,fun i hi _=>h.block i hi⟩
variable (ra ga sa:Option Addr) (rc gc sc:Nat) (rs:List Int) (gs:List Gd) (ss:List St)
theorem apply_any (s:List Int) (g cap B:Nat) (w0 w:World) (ht:IsTx w0 ra ga sa rs gs ss) (h0:Below w0.heap.size w0 w) (hB:w0.heap.size≤B) (hs:w.ownsRow B 3 1 (.slice (some ⟨g,0,none⟩) s.length cap) s.length (s.map (Value.int .i64))) (h8:s.length=8) (hE:bA rs gs ss=0) :
  Calls Tryz.prog 261 #[.slice (some ⟨g,0,none⟩) s.length cap,.agg #[.slice ra rs.length rc,.slice ga gs.length gc,.slice sa ss.length sc]] w fun e w'=>∃va vc,e=.returned (.agg #[.bool (cW (bY s rs) gs),.slice va (bY s rs).length vc])∧IsAt w.heap.size w'.heap.size w' va (bY s rs)∧w'.ownsRow B 3 1 (.slice (some ⟨g,0,none⟩) s.length cap) s.length ((bQ s (aH ss) (aZ (bY s rs) gs ss)).map (Value.int .i64))∧w.grownBy w' (some g):=by
 obtain⟨hBg,hgw⟩:=hs.lt g rfl
 obtain⟨hm,_,hgg,hss⟩:=dH hE
 obtain⟨h4,_,h3,_⟩:=bL _ _ _ hm
 obtain⟨hrr,hrk⟩:=mO hE
 have hlen:(bY s rs).length=rs.length:=rX s rs
 have hRE:tV rs gs ss (bY s rs)=0:=by
  show aF _=_
  rw[aF,if_pos hE,aF]
  have:dX rs (bY s rs)=0:=if_pos hlen
  rw[this];rfl
 have CV:Hid (∀w',Below w.heap.size w w'→Calls Tryz.prog 276 #[.slice (some ⟨g,0,none⟩) s.length cap,.slice ra rs.length rc] w' (fun e w''=>∃a zc,e=.returned (.slice a (bY s rs).length zc)∧IsAt w'.heap.size w''.heap.size w'' a (bY s rs)∧(a=none→zc=0)∧Below w'.heap.size w' w'')):=fun w' hb=>
  vX s rs (some ⟨g,0,none⟩) ra cap rc w' ((ints_of_row hs).below hb) ((ht.below h0).r.below hb) h8 h4 hrr
 have CR:Hid (∀w' za zc,IsInts w' za (bY s rs)→(za=none→zc=0)→Below w.heap.size w w'→Calls Tryz.prog 184 #[.agg #[.slice ra rs.length rc,.slice ga gs.length gc,.slice sa ss.length sc],.slice za (bY s rs).length zc] w' (fun e w''=>∃va vc ma mc,e=.returned (.tuple #[.agg #[.bool (cW (bY s rs) gs),.slice va (bY s rs).length vc],.slice ma (aZ (bY s rs) gs ss).length mc,.int .i64 0])∧IsAt w'.heap.size w''.heap.size w'' va (bY s rs)∧IsAt w'.heap.size w''.heap.size w'' ma (aZ (bY s rs) gs ss)∧Below w'.heap.size w' w'')):=fun w' za zc hz hn hb=>by
  have h:=mB ra ga sa rc gc sc rs gs ss za zc (bY s rs) w' ((ht.below h0).below hb) hz hn
  have e1:runD rs gs ss (bY s rs)=cW (bY s rs) gs:=if_pos hRE
  have e2:zU rs gs ss (bY s rs)=bY s rs:=if_pos hRE
  have e3:runM rs gs ss (bY s rs)=aZ (bY s rs) gs ss:=if_pos hRE
  rw[e1,e2,e3,hRE]at h
  exact h
 have hML:(aZ (bY s rs) gs ss).length≤ss.length:=by unfold aZ;split <;> simp[fF]
 generalize hZ:bY s rs=Z at *
 generalize hM:aZ Z gs ss=M at *
 generalize hD:cW Z gs=D at *
 clear hZ hM hD hRE hlen hgg hss hm hrr hE
 have HS:=hs
 have hML':Hid (M.length≤(aH ss).length):=by show _≤_;rw[dO];exact hML
 have HB0:Hid (Below w0.heap.size w0 w):=h0
 have hSS:Hid (IsSs w0 sa ss):=ht.s
 have H8:Hid (s.length=8):=h8
 have HRK:Hid (bI (aH ss)=0):=hrk
 clear ht h0 h8 hrk hs
 go_enter Tryz.func261,Tryz.ntmps261
 go_upto_region 1 with fail
 have VB0:Below w.heap.size w ((w.alloc (.cells #[.slice ra rs.length rc,.slice ga gs.length gc,.slice sa ss.length sc] 95)).alloc (.cells #[.bool false,.slice none 0 0] 148)):=aA (aA (Below.refl _ _) _) _
 have y0:((w.alloc (.cells #[.slice ra rs.length rc,.slice ga gs.length gc,.slice sa ss.length sc] 95)).alloc (.cells #[.bool false,.slice none 0 0] 148)).cell? ⟨w.heap.size,0,none⟩=some (.slice ra rs.length rc):=by rw[World.cell?_alloc_lt _ _ _ (by simp)];simp
 have y1:((w.alloc (.cells #[.slice ra rs.length rc,.slice ga gs.length gc,.slice sa ss.length sc] 95)).alloc (.cells #[.bool false,.slice none 0 0] 148)).cell? ⟨w.heap.size,1,none⟩=some (.slice ga gs.length gc):=by rw[World.cell?_alloc_lt _ _ _ (by simp)];simp
 have y2:((w.alloc (.cells #[.slice ra rs.length rc,.slice ga gs.length gc,.slice sa ss.length sc] 95)).alloc (.cells #[.bool false,.slice none 0 0] 148)).cell? ⟨w.heap.size,2,none⟩=some (.slice sa ss.length sc):=by rw[World.cell?_alloc_lt _ _ _ (by simp)];simp
 have y3:((w.alloc (.cells #[.slice ra rs.length rc,.slice ga gs.length gc,.slice sa ss.length sc] 95)).alloc (.cells #[.bool false,.slice none 0 0] 148)).cell? ⟨w.heap.size+1,0,none⟩=some (.bool false):=by simp
 have y4:((w.alloc (.cells #[.slice ra rs.length rc,.slice ga gs.length gc,.slice sa ss.length sc] 95)).alloc (.cells #[.bool false,.slice none 0 0] 148)).cell? ⟨w.heap.size+1,1,none⟩=some (.slice none 0 0):=by simp
 have yf:∀j,((w.alloc (.cells #[.slice ra rs.length rc,.slice ga gs.length gc,.slice sa ss.length sc] 95)).alloc (.cells #[.bool false,.slice none 0 0] 148)).frozen? ⟨w.heap.size+1,j,none⟩=false:=fun j=>by simp
 have VB:Hid (Below w.heap.size w ((w.alloc (.cells #[.slice ra rs.length rc,.slice ga gs.length gc,.slice sa ss.length sc] 95)).alloc (.cells #[.bool false,.slice none 0 0] 148))):=VB0
 have hV2:w.heap.size+2≤((w.alloc (.cells #[.slice ra rs.length rc,.slice ga gs.length gc,.slice sa ss.length sc] 95)).alloc (.cells #[.bool false,.slice none 0 0] 148)).heap.size:=by simp
 clear VB0
 generalize ((w.alloc (.cells #[.slice ra rs.length rc,.slice ga gs.length gc,.slice sa ss.length sc] 95)).alloc (.cells #[.bool false,.slice none 0 0] 148))=V at *
 have KS:∀w',Below V.heap.size V w'→w'.cell? ⟨w.heap.size,0,none⟩=some (.slice ra rs.length rc)∧w'.cell? ⟨w.heap.size,1,none⟩=some (.slice ga gs.length gc)∧w'.cell? ⟨w.heap.size,2,none⟩=some (.slice sa ss.length sc)∧Hid (Below V.heap.size V w'):=fun w' h=>⟨aB h y0,aB h y1,aB h y2,h⟩
 have HKS:Hid (∀w',Below V.heap.size V w'→w'.cell? ⟨w.heap.size,0,none⟩=some (.slice ra rs.length rc)∧w'.cell? ⟨w.heap.size,1,none⟩=some (.slice ga gs.length gc)∧w'.cell? ⟨w.heap.size,2,none⟩=some (.slice sa ss.length sc)∧Hid (Below V.heap.size V w')):=KS
 have HS':Hid (w.ownsRow B 3 1 (.slice (some ⟨g,0,none⟩) s.length cap) s.length (s.map (Value.int .i64))):=HS
 clear KS HS
 go_cut [5,6,7] (fun r m e wx=>∃R va vc ma mc,r=.pointer (some ⟨R,0,none⟩)∧m=.slice ma M.length mc∧e=.int .i64 0∧V.heap.size≤R∧wx.cell? ⟨R,0,none⟩=some (.bool D)∧wx.cell? ⟨R,1,none⟩=some (.slice va Z.length vc)∧IsAt V.heap.size wx.heap.size wx va Z∧IsAt V.heap.size wx.heap.size wx ma M∧Below V.heap.size V wx)
 case first=>
  clear y0 y1 y2 y3 y4 yf
  go_region_held3 (fun w'=>w'.cell? ⟨w.heap.size,0,none⟩=some (.slice ra rs.length rc)∧w'.cell? ⟨w.heap.size,1,none⟩=some (.slice ga gs.length gc)∧w'.cell? ⟨w.heap.size,2,none⟩=some (.slice sa ss.length sc)∧Hid (Below V.heap.size V w')) ((refine HKS.out _ ?_;go_split_ands;repeat (first | assumption | exact Below.refl _ _ | exact Hid.out (by assumption) | refine aD ?_ | refine aA ?_ _ | refine aI ?_ (by first | exact Nat.le_refl _ | omega | (simp;done) | (simp at *;omega)) _ | refine aC ?_ (by assumption))))
   (first
    | (go_at_call 276;refine(CV.out _ ?_).mono ?_;(refine aC VB.out ?_;go_split_ands;exact Hid.out (by assumption));rintro e wa ⟨za,zc,rfl,hza,hzn,hba⟩;have hwa:=wJ hba;(first | (obtain⟨r0,r1,rf⟩:=oT (V:=V) hba rfl) | skip))
    | (go_at_call 184;refine(CR.out _ za zc ?_ hzn ?_).mono ?_;(repeat (first | exact hza.ints (Nat.le_refl _) | refine IsInts.below ?_ (aD (Below.refl _ _)) | refine IsInts.below ?_ (aA (Below.refl _ _) _)));(refine aC VB.out ?_;go_split_ands;exact Hid.out (by assumption));rintro e wb ⟨va,vc,ma,mc,rfl,hva,hma,hbb⟩;have hwb:=wJ hbb;(first | (obtain⟨t0,t1,tf⟩:=oT (V:=wa) hbb rfl) | (revert r0;intro r0;obtain⟨t0,t1,tf⟩:=fresh_on hbb r0 r1 rf rfl) | skip)))
  all_goals (go_wp2_with fail;go_meet)
  all_goals (
   have e1:V.heap.size≤wa.heap.size:=by first | exact hwa | (have h:=hwa;simp at h;omega)
   have e2:wa.heap.size≤wb.heap.size:=by first | exact hwb | (have h:=hwb;simp at h;omega)
   go_split_ands
   first
    | exact⟨_,va,vc,ma,mc,rfl,rfl,rfl,by omega,by simp,by simp,(hva.below (aA (Below.refl _ _) _)).widen (by first | exact e1 | (simp;omega)) (by simp),(hma.below (aA (Below.refl _ _) _)).widen (by first | exact e1 | (simp;omega)) (by simp),Hid.out (by assumption)⟩
    | exact⟨_,va,vc,ma,mc,rfl,rfl,rfl,by first | exact Nat.le_refl _ | exact e1,by simp[go_sem,t0],by simp[go_sem,t1],((hva.set ⟨_,0,none⟩ _ (.inl (by first | (simp;done) | (have h:=hwa;simp at h ⊢;omega)))).set ⟨_,1,none⟩ _ (.inl (by first | (simp;done) | (have h:=hwa;simp at h ⊢;omega)))).widen (by first | exact e1 | (simp;omega)) (by simp),((hma.set ⟨_,0,none⟩ _ (.inl (by first | (simp;done) | (have h:=hwa;simp at h ⊢;omega)))).set ⟨_,1,none⟩ _ (.inl (by first | (simp;done) | (have h:=hwa;simp at h ⊢;omega)))).widen (by first | exact e1 | (simp;omega)) (by simp),Hid.out (by assumption)⟩)
 case rest=>
  obtain⟨R,va,vc,ma,mc,rfl,rfl,rfl,hR,c0,c1,hva,hma,hbc⟩:=hcut
  go_wp2_with fail
  refine(aO [0] _ 1 _ (by simp) rfl (cD _ _ _ (by simp))).mono ?_
  rintro e W2 ⟨rfl,rfl⟩
  have U:Below wc.heap.size wc (wc.alloc (.cells #[.int .i64 0] 22)):=aA (Below.refl _ _) _
  have UV:Below V.heap.size V (wc.alloc (.cells #[.int .i64 0] 22)):=aC hbc U
  have z2:=aB UV y2
  have z3:=aB UV y3
  have z4:=aB UV y4
  have zf:∀j,(wc.alloc (.cells #[.int .i64 0] 22)).frozen? ⟨w.heap.size+1,j,none⟩=false:=fun j=>(UV.frozen (p:=⟨w.heap.size+1,j,none⟩) (by show w.heap.size+1<_;omega)).trans (yf j)
  have d0:=aB U c0
  have d1:=aB U c1
  have hva2:Hid (IsAt V.heap.size wc.heap.size (wc.alloc (.cells #[.int .i64 0] 22)) va Z):=hva.below U
  have hma2:Hid (IsAt V.heap.size wc.heap.size (wc.alloc (.cells #[.int .i64 0] 22)) ma M):=hma.below U
  have hW:Hid (Below w.heap.size w (wc.alloc (.cells #[.int .i64 0] 22))):=aC VB.out UV
  have hrow:Hid ((wc.alloc (.cells #[.int .i64 0] 22)).ownsRow B 3 1 (.slice (some ⟨g,0,none⟩) s.length cap) s.length (s.map (Value.int .i64))):=dA HS'.out hW.out
  have hwcs:Hid (wc.heap.size≤(wc.alloc (.cells #[.int .i64 0] 22)).heap.size):=U.size
  have hRlt:R<(wc.alloc (.cells #[.int .i64 0] 22)).heap.size:=World.block_lt_of_cell? _ _ d0
  have hVs:V.heap.size≤(wc.alloc (.cells #[.int .i64 0] 22)).heap.size:=UV.size
  clear U UV y0 y1 y2 y3 y4 yf c0 c1 hva hma hbc HS' HKS CV CR
  generalize (wc.alloc (.cells #[.int .i64 0] 22))=W at *
  have far:∀{wr:World},W.grownBy wr (some g)→∀(b:Nat) j v,b≠g→W.cell? ⟨b,j,none⟩=some v→wr.cell? ⟨b,j,none⟩=some v:=fun hg b j v hne h=>hg.cell h (by simpa using hne)
  go_wp2
  go_loopw [8,9,25] (fun _ _ i wr=>∃k:Nat,k≤M.length∧i=.int .i64 k∧wr.ownsRow B 3 1 (.slice (some ⟨g,0,none⟩) s.length cap) s.length ((bQ s ((aH ss).take k) (M.take k)).map (Value.int .i64))∧W.grownBy wr (some g)) (fun _ _ i _=>M.length - (intOf i).toNat)
  case atStart=>exact⟨0,Nat.zero_le _,rfl,by simpa[bQ]using hrow.out,World.grownBy.refl _ _⟩
  case round=>
   obtain⟨k,hk,rfl,hown,hgr⟩:=hrel
   by_cases hlt:k<M.length
   ·obtain⟨b,off,rfl,hb1,hb2,m0⟩:=hma2.out k hlt
    have hks:k<ss.length:=by omega
    obtain⟨b',off',rfl,hb',k0,_⟩:=hSS.out k hks
    have hkl:k<(aH ss).length:=by rw[dO];exact hks
    obtain⟨hz,hz'⟩:=rY (aH ss) HRK.out k hkl
    have HT:Hid (bQ s ((aH ss).take (k+1)) (M.take (k+1))=(bQ s ((aH ss).take k) (M.take k)).set ((aH ss).getD k 0).toNat (M.getD k 0)):=pM (aH ss) s M k hkl hlt
    have k1:W.cell? ⟨b',off'+k*6,none⟩=some (.int .i64 ((aH ss).getD k 0)):=by
     rw[aBd ss k hks]
     exact(aB (aC HB0.out hW.out) k0)
    generalize (aH ss).getD k 0=z at *
    obtain⟨m,rfl⟩:=Int.eq_ofNat_of_zero_le hz
    have hms:m<s.length:=by have:=H8.out;omega
    have q0:=far hgr _ _ _ (by omega) m0
    have q1:=far hgr _ _ _ (by omega) k1
    have q2:=far hgr _ _ _ (by omega) z2
    have hPl:(bQ s ((aH ss).take k) (M.take k)).length=s.length:=mJ _ _ _
    have q3:=row_cell hown hPl m hms
    have q4:wr.frozen? ⟨g,m,none⟩=false:=hown.frozenAt m
    have R1:∀u:Int,(wr.setCell ⟨g,m,none⟩ (.int .i64 u)).ownsRow B 3 1 (.slice (some ⟨g,0,none⟩) s.length cap) s.length (((bQ s ((aH ss).take k) (M.take k)).set m u).map (Value.int .i64)):=fun u=>by
     have h:=hown.stored m (.int .i64 u)
     rw[List.map_set]
     exact h.1
    have R2:∀u:Value,W.grownBy (wr.setCell ⟨g,m,none⟩ u) (some g):=fun u=>hgr.trans (aP wr g m u)
    have R3:Hid ((wr.setCell ⟨g,m,none⟩ (.int .i64 (M.getD k 0))).ownsRow B 3 1 (.slice (some ⟨g,0,none⟩) s.length cap) s.length ((bQ s ((aH ss).take (k+1)) (M.take (k+1))).map (Value.int .i64))):=by
     rw[HT.out];exact R1 _
    have R4:Hid (W.grownBy (wr.setCell ⟨g,m,none⟩ (.int .i64 (M.getD k 0))) (some g)):=R2 _
    generalize (bQ s ((aH ss).take k) (M.take k)).getD m 0=y at *
    generalize M.getD k 0=y' at *
    clear R1 R2 hown hgr hPl m0 k0 k1 z2 z3 z4 zf d0 d1 hSS hz hz'
    go_wp2
    go_roundw
    case rel=>exact⟨k+1,by omega,by go_num,R3.out,R4.out⟩
    case measure=>simp[intOf];omega
   ·have hkk:k=M.length:=by omega
    have hfin:Hid (wr.ownsRow B 3 1 (.slice (some ⟨g,0,none⟩) s.length cap) s.length ((bQ s (aH ss) M).map (Value.int .i64))):=by
     have h:=hown
     rw[hkk,List.take_of_length_le (Nat.le_refl M.length),sC _ _ _ hML'.out]at h
     exact h
    have q0:=far hgr _ _ _ (by omega) d0
    have q1:=far hgr _ _ _ (by omega) d1
    have q3:=far hgr _ _ _ (by omega) z3
    have q4:=far hgr _ _ _ (by omega) z4
    have qf:∀j,wr.frozen? ⟨w.heap.size+1,j,none⟩=false:=fun j=>(hgr.frozen_far ⟨w.heap.size+1,j,none⟩ (by show w.heap.size+1<_;omega) (by simp;omega)).trans (zf j)
    have hvr:Hid (IsAt V.heap.size wr.heap.size wr va Z):=(hva2.out.grown hgr (by omega) hwcs.out).widen (Nat.le_refl _) (Nat.le_trans hwcs.out hgr.size)
    have hG:Hid (w.grownBy wr (some g)):=(bM hW.out _).trans hgr
    clear hown hgr z2 z3 z4 zf d0 d1 far hva2 hma2 hSS hrow
    go_wp2
    have r0:((wr.setCell ⟨w.heap.size+1,0,none⟩ (.bool D)).setCell ⟨w.heap.size+1,1,none⟩ (.slice va Z.length vc)).cell? ⟨w.heap.size+1,0,none⟩=some (.bool D):=by simp[go_sem,q3]
    have r1:((wr.setCell ⟨w.heap.size+1,0,none⟩ (.bool D)).setCell ⟨w.heap.size+1,1,none⟩ (.slice va Z.length vc)).cell? ⟨w.heap.size+1,1,none⟩=some (.slice va Z.length vc):=by simp[go_sem,q4]
    refine bodyPost_ret (v:=.agg #[.bool D,.slice va Z.length vc]) (by simp[results,Tryz.results261,go_sem,r0,r1]) rfl ⟨va,vc,rfl,?_,?_,?_⟩
    ·exact((hvr.out.set ⟨w.heap.size+1,0,none⟩ _ (.inl (by show w.heap.size+1<_;omega))).set ⟨w.heap.size+1,1,none⟩ _ (.inl (by show w.heap.size+1<_;omega))).widen (by omega) (by simp)
    ·exact(hfin.out.kept (aP wr (w.heap.size+1) 0 _) (.inr (by simp[Value.ownBlock];omega))).kept (aP _ (w.heap.size+1) 1 _) (.inr (by simp[Value.ownBlock];omega))
    ·exact(hG.out.andThen (aP wr (w.heap.size+1) 0 _) (fun j hj=>by injection hj with hj;subst hj;left;omega)).andThen (aP _ (w.heap.size+1) 1 _) (fun j hj=>by injection hj with hj;subst hj;left;omega)
end
theorem u8_cells (x:Int):∀u∈[Value.int .u8 x],u.oneCell'=true:=ints_oneCell .u8 [x]
theorem yW {P:Nat} {w w5:World} {v:Value} {o:Obj} (hc:w.cell? ⟨P,0,none⟩=some v) (hf:w.frozen? ⟨P,0,none⟩=false) (hg:(w.alloc o).grownBy w5 v.ownBlock) (h1:∀g,v.ownBlock=some g→P+1≤g∧g<w.heap.size) (h2:∀g,v.ownBlock=some g→∃c fz,w.heap[g]?=some (.cells c 5 fz)):w5.cell? ⟨P,0,none⟩=some v∧w5.frozen? ⟨P,0,none⟩=false∧WK P w w5:=by
 have hP:P<w.heap.size:=World.block_lt_of_cell? w ⟨P,0,none⟩ hc
 have key:∀b,b<w.heap.size→(v.ownBlock≠some b)→w5.heap[b]?=w.heap[b]?:=fun b hb hne=>(hg.block b (by simp;omega) (fun e=>hne e.symm)).trans (Below.heap_alloc _ _ _ hb)
 have eP:=key P hP (fun e=>by have:=h1 P e;omega)
 refine⟨(World.cell?_of_block (w:=w) (w':=w5) (a:=⟨P,0,none⟩) eP).trans hc,(World.frozen?_of_block (w:=w) (w':=w5) (a:=⟨P,0,none⟩) eP).trans hf,⟨hg.os,hg.tape,hg.output,Nat.le_trans (by simp) hg.size,fun b hb hbP hor=>key b hb (fun e=>?_)⟩⟩
 rcases hor with h | h
 ·have:=h1 b e;omega
 ·obtain⟨c,fz,hh⟩:=h2 b e
  exact h c fz hh
theorem cN (P:Nat) (n:Int) (bs:List Int) (w:World) (h:WrS P w bs) (hl:bs.length≤100000) :
  Calls Tryz.prog 65 #[.pointer (some ⟨P,0,none⟩),.int .i64 n] w fun e w'=>e=.returned (.tuple #[])∧WrS P w' (bs++[n%256])∧WK P w w':=by
 obtain⟨i0,hi,hz0,hz1,hz2⟩:=info_parts Tryz.info5
 obtain⟨v,hc,hf,hown⟩:=h
 have hP:P<w.heap.size:=World.block_lt_of_cell? w ⟨P,0,none⟩ hc
 have HRB:Hid (∀g,v.ownBlock=some g→P+1≤g∧g<w.heap.size):=fun g hg=>hown.lt g hg
 have HRK:Hid (∀g,v.ownBlock=some g→∃c fz,w.heap[g]?=some (.cells c 5 fz)):=Lib.ownsRow_kind hown
 have HO:Hid (w.ownsRow (P+1) 5 1 v bs.length (bs.map (Value.int .u8))):=hown
 have HC:Hid (w.cell? ⟨P,0,none⟩=some v):=hc
 have HF:Hid (w.frozen? ⟨P,0,none⟩=false):=hf
 have HX:Hid (∀(o:Obj) (w5:World),(w.alloc o).grownBy w5 v.ownBlock→w5.cell? ⟨P,0,none⟩=some v∧w5.frozen? ⟨P,0,none⟩=false∧WK P w w5):=fun o w5 hg=>yW hc hf hg HRB.out HRK.out
 clear hown
 go_enter Tryz.func65,Tryz.ntmps65
 go_wp2_with (first
  | (at_builtin;refine wpList_append_own _ rfl _ _ 52 rfl (P+1) 5 i0 (.int .u8 0) 1 1 Tryz.underlying52 hi hz0 hz1 hz2 rfl (by decide) _ _ _ rfl (HO.out.alloc _) _ 1 1 [.int .u8 _] rfl rfl (cell_one_new _ _ _) (u8_cells _) (by unfold maxLen;omega) (by omega) (by simp;omega) ?_;intro v' w5 hown' hgrow _;obtain⟨g,cap,hv,hg1,hg2⟩:=hown'.form (Nat.succ_pos _);subst hv;obtain⟨hc5,hf5,hk5⟩:=HX.out _ w5 hgrow;have HO5:Hid _:=hown';have HK5:Hid (WK P w w5):=hk5;clear hown' hgrow hk5 hc hf)
  | go_in)
 have hne:P≠g:=by omega
 have h5:=HO5.out
 go_end0
 refine⟨rfl,⟨_,aK hc5,by simpa using hf5,?_⟩,HK5.out.trans ⟨rfl,rfl,rfl,by simp,fun b hb hbP _=>Below.heap_setCell _ _ _ _ hbP⟩⟩
 rw[List.length_append,List.map_append]
 exact World.ownsRow.kept h5 (aP w5 P 0 _) (Or.inr (fun e=>by simp[Value.ownBlock]at e;omega))
end Go.Proofs.YtcgpkonfneofdaaGreatDoor
