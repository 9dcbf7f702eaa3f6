/- Conditions: those that each theorem states. -/
import Derived.Test.YtcgpkonfneofdaaGreatDoorSTool
set_option maxRecDepth 100000
set_option maxHeartbeats 8000000
namespace Go.Proofs.YtcgpkonfneofdaaGreatDoor
open Go.RowKit
section
def cL (n:Nat) (g:Gd):Int:=aF [iT g.k,bD g.ak g.an n,bD g.bk g.bn n]
def cU (n:Nat) (s:St):Int:=aF [iN s.op,bD s.ak s.an n,bD s.bk s.bn n]
theorem kB {α:Type} (f:α→Int) (l:List α) (d:α) (k:Nat) (h:k<l.length):aF ((l.map f).drop k)=if f (l.getD k d)=0 then aF ((l.map f).drop (k+1)) else f (l.getD k d):=by
 rw[gG (l.map f) k 0 (by simpa using h)]
 have e:(l.map f).getD k 0=f (l.getD k d):=by simp[List.getD,h]
 rw[e]
 rfl
theorem ext5 {W w':World} {p1 p2 p3 p4 p5:Addr} {v1 v2 v3 v4 v5:Value} (hb:Below W.heap.size W w') (q1:W.cell? p1=some v1) (q2:W.cell? p2=some v2) (q3:W.cell? p3=some v3) (q4:W.cell? p4=some v4) (q5:W.cell? p5=some v5) :
  Below W.heap.size W w'∧w'.cell? p1=some v1∧w'.cell? p2=some v2∧w'.cell? p3=some v3∧w'.cell? p4=some v4∧w'.cell? p5=some v5:=⟨hb,aB hb q1,aB hb q2,aB hb q3,aB hb q4,aB hb q5⟩
variable (ra ga sa:Option Addr) (rc gc sc:Nat) (rs:List Int) (gs:List Gd) (ss:List St)
theorem kL (w:World) (ht:IsTx w ra ga sa rs gs ss) :
  Calls Tryz.prog 140 #[.agg #[.slice ra rs.length rc,.slice ga gs.length gc,.slice sa ss.length sc]] w fun e w'=>((aF (gs.map (cL rs.length))=0∧e=.returned (.tuple #[]))∨(¬aF (gs.map (cL rs.length))=0∧e=.panicked [{v:=.iface 22 (.int .i64 (aF (gs.map (cL rs.length)))),recovered:=false}]))∧Below w.heap.size w w':=by
 have hwr:Hid ((Lit.int .i64 (rs.length:Int)).wf=true):=WalkArith.wf_i64 (by have:=ht.lr;unfold maxLen at this;omega)
 obtain⟨_,hz,_,_,hl,_⟩:=ht
 unfold maxLen at hl
 go_enter Tryz.func140,Tryz.ntmps140
 go_wp2
 go_loopw [3,4,5,9] (fun _ _ _ i wr=>∃k:Nat,k≤gs.length∧i=.int .i64 k∧Hid (aF (gs.map (cL rs.length))=aF ((gs.map (cL rs.length)).drop k))∧Below (w.heap.size+1) (w.alloc (.cells #[.slice ra rs.length rc,.slice ga gs.length gc,.slice sa ss.length sc] 95)) wr) (fun _ _ _ i _=>gs.length - (intOf i).toNat)
 case atStart=>exact⟨0,Nat.zero_le _,rfl,rfl,Below.refl _ _⟩
 case round=>
  obtain⟨k',hk,rfl,hno,hnx⟩:=hrel
  have hsz:w.heap.size+1≤wr.heap.size:=by have:=hnx.size;simpa using this
  have hnx':Below w.heap.size w wr:=(aA (Below.refl _ _) _).trans (hnx.mono (by omega))
  by_cases hlt:k'<gs.length
  ·obtain⟨b,off,rfl,hb,c0,c1,c2,c3,c4⟩:=hz k' hlt
   have up:∀j u,w.cell? ⟨b,j,none⟩=some u→wr.cell? ⟨b,j,none⟩=some u:=fun j u h=>
    (hnx.cell (p:=⟨b,j,none⟩) (Nat.lt_succ_of_lt hb)).trans ((World.cell?_alloc_lt _ _ ⟨b,j,none⟩ hb).trans h)
   have d0:=up _ _ c0
   have d1:=up _ _ c1
   have d2:=up _ _ c2
   have d3:=up _ _ c3
   have d4:=up _ _ c4
   have qb:wr.cell? ⟨w.heap.size,0,none⟩=some (.slice ra rs.length rc):=(hnx.cell (p:=⟨w.heap.size,0,none⟩) (Nat.lt_succ_self _)).trans (by simp)
   have hs:Hid (aF (gs.map (cL rs.length))=if cL rs.length (gs.getD k' g0)=0 then aF ((gs.map (cL rs.length)).drop (k'+1)) else cL rs.length (gs.getD k' g0)):=hno.out.trans (kB (cL rs.length) gs g0 k' hlt)
   clear c0 c1 c2 c3 c4 up hz hno
   generalize (gs.getD k' g0)=s at *
   obtain⟨k,ak,an,bk,bn⟩:=s
   simp only at d0 d1 d2 d3 d4
   by_cases hE:cL rs.length ⟨k,ak,an,bk,bn⟩=0
   ·have HN:Hid (aF (gs.map (cL rs.length))=aF ((gs.map (cL rs.length)).drop (k'+1))):=hs.out.trans (if_pos hE)
    have HE:Hid (aF [iT k,bD ak an rs.length,bD bk bn rs.length]=0):=hE
    clear hs hE
    go_wp2_with fail
    refine(lJ k 0 0 _).mono ?_
    rintro e W ⟨rfl,hbW⟩
    have hWr:Below wr.heap.size wr W:=by repeat (first | assumption | exact Below.refl _ _ | refine aD ?_ | refine aA ?_ _ | refine aC ?_ (by assumption))
    have hW:Below w.heap.size w W:=aC hnx' hWr
    have q0:W.cell? ⟨w.heap.size,0,none⟩=some (.slice ra rs.length rc):=aB hWr qb
    have y1:W.cell? ⟨wr.heap.size,1,none⟩=some (.int .i64 ak):=(hbW.cell (by simp)).trans (by simp)
    have y2:W.cell? ⟨wr.heap.size,2,none⟩=some (.int .i64 an):=(hbW.cell (by simp)).trans (by simp)
    have y3:W.cell? ⟨wr.heap.size,3,none⟩=some (.int .i64 bk):=(hbW.cell (by simp)).trans (by simp)
    have y4:W.cell? ⟨wr.heap.size,4,none⟩=some (.int .i64 bn):=(hbW.cell (by simp)).trans (by simp)
    have RB:Hid (Below (w.heap.size+1) (w.alloc _) W):=hnx.trans (hWr.mono hsz)
    have HWr:Hid (Below wr.heap.size wr W):=hWr
    generalize hG:wr.heap.size=G at *
    clear hbW hWr d0 d1 d2 d3 d4 qb hnx
    go_wp2_with fail
    go_region_held3 (fun w'=>Below W.heap.size W w'∧w'.cell? ⟨w.heap.size,0,none⟩=some (.slice ra rs.length rc)∧w'.cell? ⟨G,1,none⟩=some (.int .i64 ak)∧w'.cell? ⟨G,2,none⟩=some (.int .i64 an)∧w'.cell? ⟨G,3,none⟩=some (.int .i64 bk)∧w'.cell? ⟨G,4,none⟩=some (.int .i64 bn)) ((go_split_ands;refine ext5 ?_ q0 y1 y2 y3 y4;repeat (first | assumption | exact Below.refl _ _ | refine aD ?_ | refine aA ?_ _ | refine aC ?_ (by assumption))))
     (first
      | (go_at_call_of 170 (Value.agg #[.int .i64 ak,.int .i64 an]);refine(cT ak an rs.length _ hwr.out).mono ?_;rintro e w' ⟨rfl,rfl⟩)
      | (go_at_call_of 170 (Value.agg #[.int .i64 bk,.int .i64 bn]);refine(cT bk bn rs.length _ hwr.out).mono ?_;rintro e w' ⟨rfl,rfl⟩)
      | (go_at_call 15;refine(aO [iT k,bD ak an rs.length,bD bk bn rs.length] _ 3 _ (by simp) HE.out ?_).mono ?_;(exact vF _ _ _ _ _ (by simp));rintro e w' ⟨rfl,rfl⟩))
    go_wp2
    go_roundw
    case rel=>
     refine⟨k'+1,by omega,by go_num,HN,RB.out.trans (Below.mono (B:=W.heap.size) ?_ (Nat.le_trans hsz (by rw[←hG];exact HWr.out.size)))⟩
     go_split_ands
     repeat (first | assumption | exact Below.refl _ _ | refine aD ?_ | refine aA ?_ _ | refine aC ?_ (by assumption))
    case measure=>simp[intOf];omega
   ·have HV:Hid (aF (gs.map (cL rs.length))=aF [iT k,bD ak an rs.length,bD bk bn rs.length]):=hs.out.trans (if_neg hE)
    have HE:Hid (¬aF [iT k,bD ak an rs.length,bD bk bn rs.length]=0):=hE
    have HF:Hid (¬aF (gs.map (cL rs.length))=0):=by rw[HV.out];exact hE
    clear hs hE
    go_wp2_with fail
    refine(lJ k 0 0 _).mono ?_
    rintro e W ⟨rfl,hbW⟩
    have hWr:Below wr.heap.size wr W:=by repeat (first | assumption | exact Below.refl _ _ | refine aD ?_ | refine aA ?_ _ | refine aC ?_ (by assumption))
    have hW:Below w.heap.size w W:=aC hnx' hWr
    have q0:W.cell? ⟨w.heap.size,0,none⟩=some (.slice ra rs.length rc):=aB hWr qb
    have y1:W.cell? ⟨wr.heap.size,1,none⟩=some (.int .i64 ak):=(hbW.cell (by simp)).trans (by simp)
    have y2:W.cell? ⟨wr.heap.size,2,none⟩=some (.int .i64 an):=(hbW.cell (by simp)).trans (by simp)
    have y3:W.cell? ⟨wr.heap.size,3,none⟩=some (.int .i64 bk):=(hbW.cell (by simp)).trans (by simp)
    have y4:W.cell? ⟨wr.heap.size,4,none⟩=some (.int .i64 bn):=(hbW.cell (by simp)).trans (by simp)
    have RB:Hid (Below (w.heap.size+1) (w.alloc _) W):=hnx.trans (hWr.mono hsz)
    have HWr:Hid (Below wr.heap.size wr W):=hWr
    generalize hG:wr.heap.size=G at *
    clear hbW hWr d0 d1 d2 d3 d4 qb hnx
    go_wp2_with fail
    go_region_held (fun w'=>Below W.heap.size W w'∧w'.cell? ⟨w.heap.size,0,none⟩=some (.slice ra rs.length rc)∧w'.cell? ⟨G,1,none⟩=some (.int .i64 ak)∧w'.cell? ⟨G,2,none⟩=some (.int .i64 an)∧w'.cell? ⟨G,3,none⟩=some (.int .i64 bk)∧w'.cell? ⟨G,4,none⟩=some (.int .i64 bn)) ((go_split_ands;refine ext5 ?_ q0 y1 y2 y3 y4;repeat (first | assumption | exact Below.refl _ _ | refine aD ?_ | refine aA ?_ _ | refine aC ?_ (by assumption))))
     (first
      | (go_at_call_of 170 (Value.agg #[.int .i64 ak,.int .i64 an]);refine(cT ak an rs.length _ hwr.out).mono ?_;rintro e w' ⟨rfl,rfl⟩)
      | (go_at_call_of 170 (Value.agg #[.int .i64 bk,.int .i64 bn]);refine(cT bk bn rs.length _ hwr.out).mono ?_;rintro e w' ⟨rfl,rfl⟩)
      | (go_at_call 15;refine(dM (cH [iT k,bD ak an rs.length,bD bk bn rs.length] _ 3 _ (by simp) HE.out ?_) (.tuple #[])).mono ?_;(exact vF _ _ _ _ _ (by simp));rintro e w' (⟨rfl,rfl⟩ | ⟨hF,rfl,rfl⟩);(refine⟨rfl,.inr ⟨HF.out,by rw[HV.out]⟩,aC hW ?_⟩;go_split_ands;repeat (first | assumption | exact Below.refl _ _ | refine aD ?_ | refine aA ?_ _ | refine aC ?_ (by assumption)))))
    exact(‹Hid False› : Hid False).out.elim
  ·have H':Hid (aF (gs.map (cL rs.length))=0):=by
    have h0:=hno.out
    rw[List.drop_of_length_le (by simp;omega)]at h0
    exact h0
   clear hno hz hnx
   go_wp2
   go_end0
   exact⟨.inl ⟨H'.out,rfl⟩,hnx'⟩
theorem lZ (w:World) (ht:IsTx w ra ga sa rs gs ss) :
  Calls Tryz.prog 141 #[.agg #[.slice ra rs.length rc,.slice ga gs.length gc,.slice sa ss.length sc]] w fun e w'=>((aF (ss.map (cU rs.length))=0∧e=.returned (.tuple #[]))∨(¬aF (ss.map (cU rs.length))=0∧e=.panicked [{v:=.iface 22 (.int .i64 (aF (ss.map (cU rs.length)))),recovered:=false}]))∧Below w.heap.size w w':=by
 have hwr:Hid ((Lit.int .i64 (rs.length:Int)).wf=true):=WalkArith.wf_i64 (by have:=ht.lr;unfold maxLen at this;omega)
 obtain⟨_,_,hz,_,_,hl⟩:=ht
 unfold maxLen at hl
 go_enter Tryz.func141,Tryz.ntmps141
 go_wp2
 go_loopw [3,4,5,9] (fun _ _ _ i wr=>∃k:Nat,k≤ss.length∧i=.int .i64 k∧Hid (aF (ss.map (cU rs.length))=aF ((ss.map (cU rs.length)).drop k))∧Below (w.heap.size+1) (w.alloc (.cells #[.slice ra rs.length rc,.slice ga gs.length gc,.slice sa ss.length sc] 95)) wr) (fun _ _ _ i _=>ss.length - (intOf i).toNat)
 case atStart=>exact⟨0,Nat.zero_le _,rfl,rfl,Below.refl _ _⟩
 case round=>
  obtain⟨k',hk,rfl,hno,hnx⟩:=hrel
  have hsz:w.heap.size+1≤wr.heap.size:=by have:=hnx.size;simpa using this
  have hnx':Below w.heap.size w wr:=(aA (Below.refl _ _) _).trans (hnx.mono (by omega))
  by_cases hlt:k'<ss.length
  ·obtain⟨b,off,rfl,hb,c0,c1,c2,c3,c4,c5⟩:=hz k' hlt
   have up:∀j u,w.cell? ⟨b,j,none⟩=some u→wr.cell? ⟨b,j,none⟩=some u:=fun j u h=>
    (hnx.cell (p:=⟨b,j,none⟩) (Nat.lt_succ_of_lt hb)).trans ((World.cell?_alloc_lt _ _ ⟨b,j,none⟩ hb).trans h)
   have d0:=up _ _ c0
   have d1:=up _ _ c1
   have d2:=up _ _ c2
   have d3:=up _ _ c3
   have d4:=up _ _ c4
   have d5:=up _ _ c5
   have qb:wr.cell? ⟨w.heap.size,0,none⟩=some (.slice ra rs.length rc):=(hnx.cell (p:=⟨w.heap.size,0,none⟩) (Nat.lt_succ_self _)).trans (by simp)
   have hs:Hid (aF (ss.map (cU rs.length))=if cU rs.length (ss.getD k' s0)=0 then aF ((ss.map (cU rs.length)).drop (k'+1)) else cU rs.length (ss.getD k' s0)):=hno.out.trans (kB (cU rs.length) ss s0 k' hlt)
   clear c0 c1 c2 c3 c4 c5 up hz hno
   generalize (ss.getD k' s0)=s at *
   obtain⟨key,op,ak,an,bk,bn⟩:=s
   simp only at d0 d1 d2 d3 d4 d5
   by_cases hE:cU rs.length ⟨key,op,ak,an,bk,bn⟩=0
   ·have HN:Hid (aF (ss.map (cU rs.length))=aF ((ss.map (cU rs.length)).drop (k'+1))):=hs.out.trans (if_pos hE)
    have HE:Hid (aF [iN op,bD ak an rs.length,bD bk bn rs.length]=0):=hE
    clear hs hE
    go_wp2_with fail
    refine(mI op 0 0 _).mono ?_
    rintro e W ⟨rfl,hbW⟩
    have hWr:Below wr.heap.size wr W:=by repeat (first | assumption | exact Below.refl _ _ | refine aD ?_ | refine aA ?_ _ | refine aC ?_ (by assumption))
    have hW:Below w.heap.size w W:=aC hnx' hWr
    have q0:W.cell? ⟨w.heap.size,0,none⟩=some (.slice ra rs.length rc):=aB hWr qb
    have y1:W.cell? ⟨wr.heap.size,2,none⟩=some (.int .i64 ak):=(hbW.cell (by simp)).trans (by simp)
    have y2:W.cell? ⟨wr.heap.size,3,none⟩=some (.int .i64 an):=(hbW.cell (by simp)).trans (by simp)
    have y3:W.cell? ⟨wr.heap.size,4,none⟩=some (.int .i64 bk):=(hbW.cell (by simp)).trans (by simp)
    have y4:W.cell? ⟨wr.heap.size,5,none⟩=some (.int .i64 bn):=(hbW.cell (by simp)).trans (by simp)
    have RB:Hid (Below (w.heap.size+1) (w.alloc _) W):=hnx.trans (hWr.mono hsz)
    have HWr:Hid (Below wr.heap.size wr W):=hWr
    generalize hG:wr.heap.size=G at *
    clear hbW hWr d0 d1 d2 d3 d4 d5 qb hnx
    go_wp2_with fail
    go_region_held3 (fun w'=>Below W.heap.size W w'∧w'.cell? ⟨w.heap.size,0,none⟩=some (.slice ra rs.length rc)∧w'.cell? ⟨G,2,none⟩=some (.int .i64 ak)∧w'.cell? ⟨G,3,none⟩=some (.int .i64 an)∧w'.cell? ⟨G,4,none⟩=some (.int .i64 bk)∧w'.cell? ⟨G,5,none⟩=some (.int .i64 bn)) ((go_split_ands;refine ext5 ?_ q0 y1 y2 y3 y4;repeat (first | assumption | exact Below.refl _ _ | refine aD ?_ | refine aA ?_ _ | refine aC ?_ (by assumption))))
     (first
      | (go_at_call_of 170 (Value.agg #[.int .i64 ak,.int .i64 an]);refine(cT ak an rs.length _ hwr.out).mono ?_;rintro e w' ⟨rfl,rfl⟩)
      | (go_at_call_of 170 (Value.agg #[.int .i64 bk,.int .i64 bn]);refine(cT bk bn rs.length _ hwr.out).mono ?_;rintro e w' ⟨rfl,rfl⟩)
      | (go_at_call 15;refine(aO [iN op,bD ak an rs.length,bD bk bn rs.length] _ 3 _ (by simp) HE.out ?_).mono ?_;(exact vF _ _ _ _ _ (by simp));rintro e w' ⟨rfl,rfl⟩))
    go_wp2
    go_roundw
    case rel=>
     refine⟨k'+1,by omega,by go_num,HN,RB.out.trans (Below.mono (B:=W.heap.size) ?_ (Nat.le_trans hsz (by rw[←hG];exact HWr.out.size)))⟩
     go_split_ands
     repeat (first | assumption | exact Below.refl _ _ | refine aD ?_ | refine aA ?_ _ | refine aC ?_ (by assumption))
    case measure=>simp[intOf];omega
   ·have HV:Hid (aF (ss.map (cU rs.length))=aF [iN op,bD ak an rs.length,bD bk bn rs.length]):=hs.out.trans (if_neg hE)
    have HE:Hid (¬aF [iN op,bD ak an rs.length,bD bk bn rs.length]=0):=hE
    have HF:Hid (¬aF (ss.map (cU rs.length))=0):=by rw[HV.out];exact hE
    clear hs hE
    go_wp2_with fail
    refine(mI op 0 0 _).mono ?_
    rintro e W ⟨rfl,hbW⟩
    have hWr:Below wr.heap.size wr W:=by repeat (first | assumption | exact Below.refl _ _ | refine aD ?_ | refine aA ?_ _ | refine aC ?_ (by assumption))
    have hW:Below w.heap.size w W:=aC hnx' hWr
    have q0:W.cell? ⟨w.heap.size,0,none⟩=some (.slice ra rs.length rc):=aB hWr qb
    have y1:W.cell? ⟨wr.heap.size,2,none⟩=some (.int .i64 ak):=(hbW.cell (by simp)).trans (by simp)
    have y2:W.cell? ⟨wr.heap.size,3,none⟩=some (.int .i64 an):=(hbW.cell (by simp)).trans (by simp)
    have y3:W.cell? ⟨wr.heap.size,4,none⟩=some (.int .i64 bk):=(hbW.cell (by simp)).trans (by simp)
    have y4:W.cell? ⟨wr.heap.size,5,none⟩=some (.int .i64 bn):=(hbW.cell (by simp)).trans (by simp)
    have RB:Hid (Below (w.heap.size+1) (w.alloc _) W):=hnx.trans (hWr.mono hsz)
    have HWr:Hid (Below wr.heap.size wr W):=hWr
    generalize hG:wr.heap.size=G at *
    clear hbW hWr d0 d1 d2 d3 d4 d5 qb hnx
    go_wp2_with fail
    go_region_held (fun w'=>Below W.heap.size W w'∧w'.cell? ⟨w.heap.size,0,none⟩=some (.slice ra rs.length rc)∧w'.cell? ⟨G,2,none⟩=some (.int .i64 ak)∧w'.cell? ⟨G,3,none⟩=some (.int .i64 an)∧w'.cell? ⟨G,4,none⟩=some (.int .i64 bk)∧w'.cell? ⟨G,5,none⟩=some (.int .i64 bn)) ((go_split_ands;refine ext5 ?_ q0 y1 y2 y3 y4;repeat (first | assumption | exact Below.refl _ _ | refine aD ?_ | refine aA ?_ _ | refine aC ?_ (by assumption))))
     (first
      | (go_at_call_of 170 (Value.agg #[.int .i64 ak,.int .i64 an]);refine(cT ak an rs.length _ hwr.out).mono ?_;rintro e w' ⟨rfl,rfl⟩)
      | (go_at_call_of 170 (Value.agg #[.int .i64 bk,.int .i64 bn]);refine(cT bk bn rs.length _ hwr.out).mono ?_;rintro e w' ⟨rfl,rfl⟩)
      | (go_at_call 15;refine(dM (cH [iN op,bD ak an rs.length,bD bk bn rs.length] _ 3 _ (by simp) HE.out ?_) (.tuple #[])).mono ?_;(exact vF _ _ _ _ _ (by simp));rintro e w' (⟨rfl,rfl⟩ | ⟨hF,rfl,rfl⟩);(refine⟨rfl,.inr ⟨HF.out,by rw[HV.out]⟩,aC hW ?_⟩;go_split_ands;repeat (first | assumption | exact Below.refl _ _ | refine aD ?_ | refine aA ?_ _ | refine aC ?_ (by assumption)))))
    exact(‹Hid False› : Hid False).out.elim
  ·have H':Hid (aF (ss.map (cU rs.length))=0):=by
    have h0:=hno.out
    rw[List.drop_of_length_le (by simp;omega)]at h0
    exact h0
   clear hno hz hnx
   go_wp2
   go_end0
   exact⟨.inl ⟨H'.out,rfl⟩,hnx'⟩
end
section
def bA (rs:List Int) (gs:List Gd) (ss:List St):Int:=aF [bF rs.length gs.length ss.length,dT rs ss,aF (gs.map (cL rs.length)),aF (ss.map (cU rs.length))]
variable (ra ga sa:Option Addr) (rc gc sc:Nat) (rs:List Int) (gs:List Gd) (ss:List St)
theorem lA (w:World) (ht:IsTx w ra ga sa rs gs ss) (h:aF (gs.map (cL rs.length))=0) :
  Calls Tryz.prog 140 #[.agg #[.slice ra rs.length rc,.slice ga gs.length gc,.slice sa ss.length sc]] w fun e w'=>e=.returned (.tuple #[])∧Below w.heap.size w w':=
 (kL ra ga sa rc gc sc rs gs ss w ht).mono fun _ _ ⟨hc,hb⟩=>⟨hc.elim (fun x=>x.2) (fun x=>absurd h x.1),hb⟩
theorem qL (w:World) (ht:IsTx w ra ga sa rs gs ss) (h:¬aF (gs.map (cL rs.length))=0) :
  Calls Tryz.prog 140 #[.agg #[.slice ra rs.length rc,.slice ga gs.length gc,.slice sa ss.length sc]] w fun e w'=>e=.panicked [{v:=.iface 22 (.int .i64 (aF (gs.map (cL rs.length)))),recovered:=false}]∧Below w.heap.size w w':=
 (kL ra ga sa rc gc sc rs gs ss w ht).mono fun _ _ ⟨hc,hb⟩=>⟨hc.elim (fun x=>absurd x.1 h) (fun x=>x.2),hb⟩
theorem xQ (w:World) (ht:IsTx w ra ga sa rs gs ss) (h:aF (ss.map (cU rs.length))=0) :
  Calls Tryz.prog 141 #[.agg #[.slice ra rs.length rc,.slice ga gs.length gc,.slice sa ss.length sc]] w fun e w'=>e=.returned (.tuple #[])∧Below w.heap.size w w':=
 (lZ ra ga sa rc gc sc rs gs ss w ht).mono fun _ _ ⟨hc,hb⟩=>⟨hc.elim (fun x=>x.2) (fun x=>absurd h x.1),hb⟩
theorem uA (w:World) (ht:IsTx w ra ga sa rs gs ss) (h:¬aF (ss.map (cU rs.length))=0) :
  Calls Tryz.prog 141 #[.agg #[.slice ra rs.length rc,.slice ga gs.length gc,.slice sa ss.length sc]] w fun e w'=>e=.panicked [{v:=.iface 22 (.int .i64 (aF (ss.map (cU rs.length)))),recovered:=false}]∧Below w.heap.size w w':=
 (lZ ra ga sa rc gc sc rs gs ss w ht).mono fun _ _ ⟨hc,hb⟩=>⟨hc.elim (fun x=>absurd x.1 h) (fun x=>x.2),hb⟩
theorem chk1_many (p:Nat) (w:World) (h0:w.cell? ⟨p,0,none⟩=some (.slice ra rs.length rc)) (h1:w.cell? ⟨p,1,none⟩=some (.slice ga gs.length gc)) (h2:w.cell? ⟨p,2,none⟩=some (.slice sa ss.length sc)) (ht:IsTx w ra ga sa rs gs ss) (hm:¬bF rs.length gs.length ss.length=0) :
  Calls Tryz.prog 138 #[.pointer (some ⟨p,0,none⟩)] w fun e w'=>e=.panicked [{v:=.iface 22 (.int .i64 (2)),recovered:=false}]∧Below w.heap.size w w':=by
 have HM:Hid (¬bF rs.length gs.length ss.length=0):=hm
 clear hm
 go_enter Tryz.func138,Tryz.ntmps138
 go_wp2_with fail
 refine(tI ra ga sa rc gc sc rs gs ss _ ht HM.out).mono ?_
 rintro e w1 ⟨rfl,hb1⟩
 go_wp2
 exact⟨rfl,rfl,hb1⟩
theorem chk1_keys (p:Nat) (w:World) (h0:w.cell? ⟨p,0,none⟩=some (.slice ra rs.length rc)) (h1:w.cell? ⟨p,1,none⟩=some (.slice ga gs.length gc)) (h2:w.cell? ⟨p,2,none⟩=some (.slice sa ss.length sc)) (ht:IsTx w ra ga sa rs gs ss) (hm:bF rs.length gs.length ss.length=0) (hk:¬dT rs ss=0) :
  Calls Tryz.prog 138 #[.pointer (some ⟨p,0,none⟩)] w fun e w'=>e=.panicked [{v:=.iface 22 (.int .i64 (dT rs ss)),recovered:=false}]∧Below w.heap.size w w':=by
 have HM:Hid (bF rs.length gs.length ss.length=0):=hm
 have HK:Hid (¬dT rs ss=0):=hk
 clear hm hk
 go_enter Tryz.func138,Tryz.ntmps138
 go_wp2_with fail
 refine(uB ra ga sa rc gc sc rs gs ss _ ht HM.out HK.out).mono ?_
 rintro e w1 ⟨rfl,hb1⟩
 go_wp2
 exact⟨rfl,rfl,hb1⟩
theorem chk1_guards (p:Nat) (w:World) (h0:w.cell? ⟨p,0,none⟩=some (.slice ra rs.length rc)) (h1:w.cell? ⟨p,1,none⟩=some (.slice ga gs.length gc)) (h2:w.cell? ⟨p,2,none⟩=some (.slice sa ss.length sc)) (ht:IsTx w ra ga sa rs gs ss) (hm:bF rs.length gs.length ss.length=0) (hk:dT rs ss=0) (hg:¬aF (gs.map (cL rs.length))=0) :
  Calls Tryz.prog 138 #[.pointer (some ⟨p,0,none⟩)] w fun e w'=>e=.panicked [{v:=.iface 22 (.int .i64 (aF (gs.map (cL rs.length)))),recovered:=false}]∧Below w.heap.size w w':=by
 have HM:Hid (bF rs.length gs.length ss.length=0):=hm
 have HK:Hid (dT rs ss=0):=hk
 have HG:Hid (¬aF (gs.map (cL rs.length))=0):=hg
 clear hm hk hg
 go_enter Tryz.func138,Tryz.ntmps138
 go_wp2_with fail
 refine(kF ra ga sa rc gc sc rs gs ss _ ht HM.out HK.out).mono ?_
 rintro e w1 ⟨rfl,hb1⟩
 have B1:=hb1
 have k00:=aB B1 h0
 have k01:=aB B1 h1
 have k02:=aB B1 h2
 go_wp2_with fail
 refine(qL ra ga sa rc gc sc rs gs ss _ (ht.below B1) HG.out).mono ?_
 rintro e w2 ⟨rfl,hb2⟩
 go_wp2
 exact⟨rfl,rfl,aC B1 hb2⟩
theorem chk1_sets (p:Nat) (w:World) (h0:w.cell? ⟨p,0,none⟩=some (.slice ra rs.length rc)) (h1:w.cell? ⟨p,1,none⟩=some (.slice ga gs.length gc)) (h2:w.cell? ⟨p,2,none⟩=some (.slice sa ss.length sc)) (ht:IsTx w ra ga sa rs gs ss) (hm:bF rs.length gs.length ss.length=0) (hk:dT rs ss=0) (hg:aF (gs.map (cL rs.length))=0) (hs:¬aF (ss.map (cU rs.length))=0) :
  Calls Tryz.prog 138 #[.pointer (some ⟨p,0,none⟩)] w fun e w'=>e=.panicked [{v:=.iface 22 (.int .i64 (aF (ss.map (cU rs.length)))),recovered:=false}]∧Below w.heap.size w w':=by
 have HM:Hid (bF rs.length gs.length ss.length=0):=hm
 have HK:Hid (dT rs ss=0):=hk
 have HG:Hid (aF (gs.map (cL rs.length))=0):=hg
 have HS:Hid (¬aF (ss.map (cU rs.length))=0):=hs
 clear hm hk hg hs
 go_enter Tryz.func138,Tryz.ntmps138
 go_wp2_with fail
 refine(kF ra ga sa rc gc sc rs gs ss _ ht HM.out HK.out).mono ?_
 rintro e w1 ⟨rfl,hb1⟩
 have B1:=hb1
 have k00:=aB B1 h0
 have k01:=aB B1 h1
 have k02:=aB B1 h2
 go_wp2_with fail
 refine(lA ra ga sa rc gc sc rs gs ss _ (ht.below B1) HG.out).mono ?_
 rintro e w2 ⟨rfl,hb2⟩
 have B2:=aC B1 hb2
 have k10:=aB B2 h0
 have k11:=aB B2 h1
 have k12:=aB B2 h2
 go_wp2_with fail
 refine(uA ra ga sa rc gc sc rs gs ss _ (ht.below B2) HS.out).mono ?_
 rintro e w3 ⟨rfl,hb3⟩
 go_wp2
 exact⟨rfl,rfl,aC B2 hb3⟩
theorem chk1_ok (p:Nat) (w:World) (h0:w.cell? ⟨p,0,none⟩=some (.slice ra rs.length rc)) (h1:w.cell? ⟨p,1,none⟩=some (.slice ga gs.length gc)) (h2:w.cell? ⟨p,2,none⟩=some (.slice sa ss.length sc)) (ht:IsTx w ra ga sa rs gs ss) (hm:bF rs.length gs.length ss.length=0) (hk:dT rs ss=0) (hg:aF (gs.map (cL rs.length))=0) (hs:aF (ss.map (cU rs.length))=0) :
  Calls Tryz.prog 138 #[.pointer (some ⟨p,0,none⟩)] w fun e w'=>e=.returned (.bool true)∧Below w.heap.size w w':=by
 have HM:Hid (bF rs.length gs.length ss.length=0):=hm
 have HK:Hid (dT rs ss=0):=hk
 have HG:Hid (aF (gs.map (cL rs.length))=0):=hg
 have HS:Hid (aF (ss.map (cU rs.length))=0):=hs
 clear hm hk hg hs
 go_enter Tryz.func138,Tryz.ntmps138
 go_wp2_with fail
 refine(kF ra ga sa rc gc sc rs gs ss _ ht HM.out HK.out).mono ?_
 rintro e w1 ⟨rfl,hb1⟩
 have B1:=hb1
 have k00:=aB B1 h0
 have k01:=aB B1 h1
 have k02:=aB B1 h2
 go_wp2_with fail
 refine(lA ra ga sa rc gc sc rs gs ss _ (ht.below B1) HG.out).mono ?_
 rintro e w2 ⟨rfl,hb2⟩
 have B2:=aC B1 hb2
 have k10:=aB B2 h0
 have k11:=aB B2 h1
 have k12:=aB B2 h2
 go_wp2_with fail
 refine(xQ ra ga sa rc gc sc rs gs ss _ (ht.below B2) HS.out).mono ?_
 rintro e w3 ⟨rfl,hb3⟩
 have B3:=aC B2 hb3
 go_wp2
 go_ret
 exact⟨rfl,B3⟩
theorem kZ (b:Bool) (x:Int) (w:World)
  (h:Calls Tryz.prog 137 #[.func (.func 138) #[] #[.pointer (some ⟨w.heap.size,0,none⟩)]] (w.alloc (.cells #[.slice ra rs.length rc,.slice ga gs.length gc,.slice sa ss.length sc] 95)) fun e' w'=>e'=.returned (.tuple #[.bool b,.int .i64 x])∧Below (w.alloc (.cells #[.slice ra rs.length rc,.slice ga gs.length gc,.slice sa ss.length sc] 95)).heap.size (w.alloc (.cells #[.slice ra rs.length rc,.slice ga gs.length gc,.slice sa ss.length sc] 95)) w') :
  Calls Tryz.prog 102 #[.agg #[.slice ra rs.length rc,.slice ga gs.length gc,.slice sa ss.length sc]] w fun e' w'=>e'=.returned (.int .i64 x)∧Below w.heap.size w w':=by
 have hmf:∀(fn:Fn) (first cap:Array Value) (w:World),(Instr.makeFunc fn first cap).run Tryz.prog w=.ok (.func fn first cap) w:=fun _ _ _ _=>rfl
 have H:Hid (Calls Tryz.prog 137 #[.func (.func 138) #[] #[.pointer (some ⟨w.heap.size,0,none⟩)]] (w.alloc (.cells #[.slice ra rs.length rc,.slice ga gs.length gc,.slice sa ss.length sc] 95)) fun e' w'=>e'=.returned (.tuple #[.bool b,.int .i64 x])∧Below (w.alloc (.cells #[.slice ra rs.length rc,.slice ga gs.length gc,.slice sa ss.length sc] 95)).heap.size (w.alloc (.cells #[.slice ra rs.length rc,.slice ga gs.length gc,.slice sa ss.length sc] 95)) w'):=h
 clear h
 go_enter Tryz.func102,Tryz.ntmps102
 go_wp2_with fail
 refine H.out.mono ?_
 clear H
 rintro e w1 ⟨rfl,hb⟩
 have Hb:=aC (aA (Below.refl w.heap.size w) _) hb
 clear hb
 go_wp2
 go_ret
 exact⟨rfl,Hb⟩
theorem tH (h:¬bF rs.length gs.length ss.length=0):bA rs gs ss=2:=by
 unfold bA;rw[aF,if_neg h];exact aAr _ _ _ h
theorem chk_keys (hm:bF rs.length gs.length ss.length=0) (h:¬dT rs ss=0):bA rs gs ss=dT rs ss:=by
 unfold bA;rw[aF,if_pos hm,aF,if_neg h]
theorem chk_guards (hm:bF rs.length gs.length ss.length=0) (hk:dT rs ss=0) (h:¬aF (gs.map (cL rs.length))=0):bA rs gs ss=aF (gs.map (cL rs.length)):=by
 unfold bA;rw[aF,if_pos hm,aF,if_pos hk,aF,if_neg h]
theorem chk_sets (hm:bF rs.length gs.length ss.length=0) (hk:dT rs ss=0) (hg:aF (gs.map (cL rs.length))=0) (h:¬aF (ss.map (cU rs.length))=0):bA rs gs ss=aF (ss.map (cU rs.length)):=by
 unfold bA;rw[aF,if_pos hm,aF,if_pos hk,aF,if_pos hg,aF,if_neg h]
theorem chk_ok (hm:bF rs.length gs.length ss.length=0) (hk:dT rs ss=0) (hg:aF (gs.map (cL rs.length))=0) (h:aF (ss.map (cU rs.length))=0):bA rs gs ss=0:=by
 unfold bA;rw[aF,if_pos hm,aF,if_pos hk,aF,if_pos hg,aF,if_pos h];rfl
theorem box_cells (w:World) (o:Obj):((w.alloc (.cells #[.slice ra rs.length rc,.slice ga gs.length gc,.slice sa ss.length sc] 95)).alloc o).cell? ⟨w.heap.size,0,none⟩=some (.slice ra rs.length rc)∧((w.alloc (.cells #[.slice ra rs.length rc,.slice ga gs.length gc,.slice sa ss.length sc] 95)).alloc o).cell? ⟨w.heap.size,1,none⟩=some (.slice ga gs.length gc)∧((w.alloc (.cells #[.slice ra rs.length rc,.slice ga gs.length gc,.slice sa ss.length sc] 95)).alloc o).cell? ⟨w.heap.size,2,none⟩=some (.slice sa ss.length sc):=by
 refine⟨?_,?_,?_⟩ <;> (rw[World.cell?_alloc_lt _ _ _ (by simp)];simp)
theorem cZ (w:World) (ht:IsTx w ra ga sa rs gs ss) :
  Calls Tryz.prog 102 #[.agg #[.slice ra rs.length rc,.slice ga gs.length gc,.slice sa ss.length sc]] w fun e' w'=>e'=.returned (.int .i64 (bA rs gs ss))∧Below w.heap.size w w':=by
 obtain⟨h0,h1,h2⟩:=box_cells ra ga sa rc gc sc rs gs ss w (.cells #[.int .i64 0] 22)
 have ht':IsTx ((w.alloc (.cells #[.slice ra rs.length rc,.slice ga gs.length gc,.slice sa ss.length sc] 95)).alloc (.cells #[.int .i64 0] 22)) ra ga sa rs gs ss:=ht.below (aA (aA (Below.refl _ _) _) _)
 by_cases hm:bF rs.length gs.length ss.length=0
 ·by_cases hk:dT rs ss=0
  ·by_cases hg:aF (gs.map (cL rs.length))=0
   ·by_cases hs:aF (ss.map (cU rs.length))=0
    ·rw[chk_ok rs gs ss hm hk hg hs]
     exact kZ ra ga sa rc gc sc rs gs ss true 0 w (xY _ _ _ ((chk1_ok ra ga sa rc gc sc rs gs ss _ _ h0 h1 h2 ht' hm hk hg hs).mono (fun _ _ h=>⟨h.1,by simpa using h.2⟩)))
    ·rw[chk_sets rs gs ss hm hk hg hs]
     exact kZ ra ga sa rc gc sc rs gs ss false _ w (gS _ _ _ ((chk1_sets ra ga sa rc gc sc rs gs ss _ _ h0 h1 h2 ht' hm hk hg hs).mono (fun _ _ h=>⟨h.1,by simpa using h.2⟩)))
   ·rw[chk_guards rs gs ss hm hk hg]
    exact kZ ra ga sa rc gc sc rs gs ss false _ w (gS _ _ _ ((chk1_guards ra ga sa rc gc sc rs gs ss _ _ h0 h1 h2 ht' hm hk hg).mono (fun _ _ h=>⟨h.1,by simpa using h.2⟩)))
  ·rw[chk_keys rs gs ss hm hk]
   exact kZ ra ga sa rc gc sc rs gs ss false _ w (gS _ _ _ ((chk1_keys ra ga sa rc gc sc rs gs ss _ _ h0 h1 h2 ht' hm hk).mono (fun _ _ h=>⟨h.1,by simpa using h.2⟩)))
 ·rw[tH rs gs ss hm]
  exact kZ ra ga sa rc gc sc rs gs ss false _ w (gS _ _ _ ((chk1_many ra ga sa rc gc sc rs gs ss _ _ h0 h1 h2 ht' hm).mono (fun _ _ h=>⟨h.1,by simpa using h.2⟩)))
end
section
theorem lK (v e:Int) (he:e=0) (w:World):Calls Tryz.prog 155 #[.int .i64 v,.int .i64 e] w fun e' w'=>e'=.returned (.int .i64 v)∧w'=w.alloc (.cells #[.int .i64 0] 22):=by
 subst he
 go_enter Tryz.func155,Tryz.ntmps155
 go_wp2_with fail
 refine(aO [0] _ 1 _ (by simp) rfl (cD _ _ _ rfl)).mono ?_
 rintro e w' ⟨rfl,rfl⟩
 go_wp2
 go_ret
 exact⟨rfl,rfl⟩
theorem tA (v:Bool) (e:Int) (he:e=0) (w:World):Calls Tryz.prog 177 #[.bool v,.int .i64 e] w fun e' w'=>e'=.returned (.bool v)∧w'=w.alloc (.cells #[.int .i64 0] 22):=by
 subst he
 go_enter Tryz.func177,Tryz.ntmps177
 go_wp2_with fail
 refine(aO [0] _ 1 _ (by simp) rfl (cD _ _ _ rfl)).mono ?_
 rintro e w' ⟨rfl,rfl⟩
 go_wp2
 go_ret
 exact⟨rfl,rfl⟩
theorem eG (k n:Int) (zs:List Int) (za:Option Addr) (zc:Nat) (w:World) (hl:zs.length≤maxLen) (hz:IsInts w za zs) (h0:bD k n zs.length=0) :
  Calls Tryz.prog 275 #[.agg #[.int .i64 k,.int .i64 n],.slice za zs.length zc] w fun e' w'=>e'=.returned (.int .i64 (fI k n zs))∧Below w.heap.size w w':=by
 have HZ:Hid (IsInts w za zs):=hz
 have H0:Hid (bD k n zs.length=0):=h0
 clear hz h0
 go_enter Tryz.func275,Tryz.ntmps275
 go_wp2_with fail
 refine(value_any k n zs za zc _ hl (HZ.out.below (aA (Below.refl _ _) _))).mono ?_
 rintro e w' ⟨rfl,rfl⟩
 go_wp2_with fail
 refine(lK _ _ H0.out _).mono ?_
 rintro e w' ⟨rfl,rfl⟩
 go_wp2
 go_ret
 refine⟨rfl,?_⟩
 repeat (first | assumption | exact Below.refl _ _ | refine aD ?_ | refine aA ?_ _ | refine aC ?_ (by assumption))
def gHold (zs:List Int) (g:Gd):Bool:=sT g.k (fI g.ak g.an zs) (fI g.bk g.bn zs)
def cW (zs:List Int):List Gd→Bool
 | []=>true
 | g::t=>if gHold zs g then cW zs t else false
theorem allG_step (zs:List Int) (l:List Gd) (k:Nat) (h:k<l.length):cW zs (l.drop k)=if gHold zs (l.getD k g0) then cW zs (l.drop (k+1)) else false:=by
 rw[gG l k g0 h];rfl
theorem gErr_zero {n:Nat} {k ak an bk bn:Int} (h:cL n ⟨k,ak,an,bk,bn⟩=0):iT k=0∧bD ak an n=0∧bD bk bn n=0:=by
 have:=aR _ h
 exact⟨by simpa using this 0,by simpa using this 1,by simpa using this 2⟩
theorem sErr_zero {n:Nat} {key k ak an bk bn:Int} (h:cU n ⟨key,k,ak,an,bk,bn⟩=0):iN k=0∧bD ak an n=0∧bD bk bn n=0:=by
 have:=aR _ h
 exact⟨by simpa using this 0,by simpa using this 1,by simpa using this 2⟩
theorem nH {α:Type} (f:α→Int) (l:List α) (d:α) (h:aF (l.map f)=0) (k:Nat) (hk:k<l.length):f (l.getD k d)=0:=by
 have:=aR _ h k
 rw[←this]
 simp[List.getD,hk]
variable (ra ga sa:Option Addr) (rc gc sc:Nat) (rs:List Int) (gs:List Gd) (ss:List St) (za:Option Addr) (zc:Nat) (zs:List Int)
theorem lU (w:World) (ht:IsTx w ra ga sa rs gs ss) (hz:IsInts w za zs) (hzl0:zs.length≤maxLen) (hlen:zs.length=rs.length) (hg0:aF (gs.map (cL rs.length))=0) :
  Calls Tryz.prog 258 #[.agg #[.slice ra rs.length rc,.slice ga gs.length gc,.slice sa ss.length sc],.slice za zs.length zc] w fun e w'=>e=.returned (.bool (cW zs gs))∧Below w.heap.size w w':=by
 have hzl:Hid (zs.length≤maxLen):=hzl0
 have HZ:Hid (IsInts w za zs):=hz
 have HG:Hid (aF (gs.map (cL rs.length))=0):=hg0
 have HL:Hid (zs.length=rs.length):=hlen
 obtain⟨_,hgs,_,_,hl,_⟩:=ht
 unfold maxLen at hl
 clear hzl0 hz hg0 hlen
 go_enter Tryz.func258,Tryz.ntmps258
 go_wp2
 go_loopw [6,10] (fun _ i wr=>∃k:Nat,k≤gs.length∧i=.int .i64 k∧Hid (cW zs gs=cW zs (gs.drop k))∧Below (w.heap.size+1) (w.alloc (.cells #[.slice ra rs.length rc,.slice ga gs.length gc,.slice sa ss.length sc] 95)) wr) (fun _ i _=>gs.length - (intOf i).toNat)
 case atStart=>exact⟨0,Nat.zero_le _,rfl,rfl,Below.refl _ _⟩
 case round=>
  obtain⟨k',hk,rfl,hno,hnx⟩:=hrel
  have hsz:w.heap.size+1≤wr.heap.size:=by have:=hnx.size;simpa using this
  have hnx':Below w.heap.size w wr:=(aA (Below.refl _ _) _).trans (hnx.mono (by omega))
  by_cases hlt:k'<gs.length
  ·obtain⟨b,off,rfl,hb,c0,c1,c2,c3,c4⟩:=hgs k' hlt
   have up:∀j u,w.cell? ⟨b,j,none⟩=some u→wr.cell? ⟨b,j,none⟩=some u:=fun j u h=>
    (hnx.cell (p:=⟨b,j,none⟩) (Nat.lt_succ_of_lt hb)).trans ((World.cell?_alloc_lt _ _ ⟨b,j,none⟩ hb).trans h)
   have d0:=up _ _ c0
   have d1:=up _ _ c1
   have d2:=up _ _ c2
   have d3:=up _ _ c3
   have d4:=up _ _ c4
   have hs:Hid (cW zs gs=if gHold zs (gs.getD k' g0) then cW zs (gs.drop (k'+1)) else false):=hno.out.trans (allG_step zs gs k' hlt)
   have hE:=nH _ gs g0 HG.out k' hlt
   clear c0 c1 c2 c3 c4 up hgs hno
   generalize (gs.getD k' g0)=s at *
   obtain⟨k,ak,an,bk,bn⟩:=s
   simp only at d0 d1 d2 d3 d4
   obtain⟨xA,xB,xC⟩:=gErr_zero hE
   rw[←HL.out]at xB xC
   have hA:Hid (iT k=0):=xA
   have hB:Hid (bD ak an zs.length=0):=xB
   have hC:Hid (bD bk bn zs.length=0):=xC
   clear hE xA xB xC
   by_cases hH:gHold zs ⟨k,ak,an,bk,bn⟩=true
   ·have HN:Hid (cW zs gs=cW zs (gs.drop (k'+1))):=hs.out.trans (if_pos hH)
    have HV:Hid (sT k (fI ak an zs) (fI bk bn zs)=true):=hH
    clear hs hH
    go_wp2_with fail
    have hWr:Below wr.heap.size wr (wr.alloc (.cells #[.int .i64 k,.int .i64 ak,.int .i64 an,.int .i64 bk,.int .i64 bn] 99)):=aA (Below.refl _ _) _
    have hW:Hid (Below w.heap.size w (wr.alloc (.cells #[.int .i64 k,.int .i64 ak,.int .i64 an,.int .i64 bk,.int .i64 bn] 99))):=aC hnx' hWr
    have hIW:Hid (IsInts (wr.alloc (.cells #[.int .i64 k,.int .i64 ak,.int .i64 an,.int .i64 bk,.int .i64 bn] 99)) za zs):=HZ.out.below hW.out
    have y0:(wr.alloc (.cells #[.int .i64 k,.int .i64 ak,.int .i64 an,.int .i64 bk,.int .i64 bn] 99)).cell? ⟨wr.heap.size,0,none⟩=some (.int .i64 k):=by simp
    have y1:(wr.alloc (.cells #[.int .i64 k,.int .i64 ak,.int .i64 an,.int .i64 bk,.int .i64 bn] 99)).cell? ⟨wr.heap.size,1,none⟩=some (.int .i64 ak):=by simp
    have y2:(wr.alloc (.cells #[.int .i64 k,.int .i64 ak,.int .i64 an,.int .i64 bk,.int .i64 bn] 99)).cell? ⟨wr.heap.size,2,none⟩=some (.int .i64 an):=by simp
    have y3:(wr.alloc (.cells #[.int .i64 k,.int .i64 ak,.int .i64 an,.int .i64 bk,.int .i64 bn] 99)).cell? ⟨wr.heap.size,3,none⟩=some (.int .i64 bk):=by simp
    have y4:(wr.alloc (.cells #[.int .i64 k,.int .i64 ak,.int .i64 an,.int .i64 bk,.int .i64 bn] 99)).cell? ⟨wr.heap.size,4,none⟩=some (.int .i64 bn):=by simp
    have RB:Hid (Below (w.heap.size+1) (w.alloc _) (wr.alloc (.cells #[.int .i64 k,.int .i64 ak,.int .i64 an,.int .i64 bk,.int .i64 bn] 99))):=hnx.trans (hWr.mono hsz)
    have HWr:Hid (Below wr.heap.size wr (wr.alloc (.cells #[.int .i64 k,.int .i64 ak,.int .i64 an,.int .i64 bk,.int .i64 bn] 99))):=hWr
    generalize wr.alloc (.cells #[.int .i64 k,.int .i64 ak,.int .i64 an,.int .i64 bk,.int .i64 bn] 99)=W at *
    generalize hG:wr.heap.size=G at *
    clear hWr d0 d1 d2 d3 d4 hnx
    go_region_held3 (fun w'=>Below W.heap.size W w'∧w'.cell? ⟨G,0,none⟩=some (.int .i64 k)∧w'.cell? ⟨G,1,none⟩=some (.int .i64 ak)∧w'.cell? ⟨G,2,none⟩=some (.int .i64 an)∧w'.cell? ⟨G,3,none⟩=some (.int .i64 bk)∧w'.cell? ⟨G,4,none⟩=some (.int .i64 bn)) ((go_split_ands;refine ext5 ?_ y0 y1 y2 y3 y4;repeat (first | assumption | exact Below.refl _ _ | refine aD ?_ | refine aA ?_ _ | refine aC ?_ (by assumption))))
     (first
      | (go_at_call_of 275 (Value.agg #[.int .i64 ak,.int .i64 an]);refine(eG ak an zs za zc _ hzl.out ?_ hB.out).mono ?_;(refine hIW.out.below ?_;go_split_ands;repeat (first | assumption | exact Below.refl _ _ | refine aD ?_ | refine aA ?_ _ | refine aC ?_ (by assumption)));rintro e w' ⟨rfl,hbx⟩)
      | (go_at_call_of 275 (Value.agg #[.int .i64 bk,.int .i64 bn]);refine(eG bk bn zs za zc _ hzl.out ?_ hC.out).mono ?_;(refine hIW.out.below ?_;go_split_ands;repeat (first | assumption | exact Below.refl _ _ | refine aD ?_ | refine aA ?_ _ | refine aC ?_ (by assumption)));rintro e w' ⟨rfl,hbx⟩)
      | (go_at_call 169;refine(lJ k (fI ak an zs) (fI bk bn zs) _).mono ?_;rintro e w' ⟨rfl,hbx⟩)
      | (go_at_call 177;refine(tA _ _ hA.out _).mono ?_;rintro e w' ⟨rfl,rfl⟩))
    rw[HV.out]
    go_wp2
    go_roundw
    case rel=>
     refine⟨k'+1,by omega,by go_num,HN,RB.out.trans (Below.mono (B:=W.heap.size) ?_ (Nat.le_trans hsz (by rw[←hG];exact HWr.out.size)))⟩
     go_split_ands
     repeat (first | assumption | exact Below.refl _ _ | refine aD ?_ | refine aA ?_ _ | refine aC ?_ (by assumption))
    case measure=>simp[intOf];omega
   ·have HN:Hid (cW zs gs=false):=hs.out.trans (if_neg hH)
    have hV:sT k (fI ak an zs) (fI bk bn zs)=false:=by simpa[gHold]using hH
    have HV:Hid (sT k (fI ak an zs) (fI bk bn zs)=false):=hV
    clear hs hH hV
    go_wp2_with fail
    have hWr:Below wr.heap.size wr (wr.alloc (.cells #[.int .i64 k,.int .i64 ak,.int .i64 an,.int .i64 bk,.int .i64 bn] 99)):=aA (Below.refl _ _) _
    have hW:Hid (Below w.heap.size w (wr.alloc (.cells #[.int .i64 k,.int .i64 ak,.int .i64 an,.int .i64 bk,.int .i64 bn] 99))):=aC hnx' hWr
    have hIW:Hid (IsInts (wr.alloc (.cells #[.int .i64 k,.int .i64 ak,.int .i64 an,.int .i64 bk,.int .i64 bn] 99)) za zs):=HZ.out.below hW.out
    have y0:(wr.alloc (.cells #[.int .i64 k,.int .i64 ak,.int .i64 an,.int .i64 bk,.int .i64 bn] 99)).cell? ⟨wr.heap.size,0,none⟩=some (.int .i64 k):=by simp
    have y1:(wr.alloc (.cells #[.int .i64 k,.int .i64 ak,.int .i64 an,.int .i64 bk,.int .i64 bn] 99)).cell? ⟨wr.heap.size,1,none⟩=some (.int .i64 ak):=by simp
    have y2:(wr.alloc (.cells #[.int .i64 k,.int .i64 ak,.int .i64 an,.int .i64 bk,.int .i64 bn] 99)).cell? ⟨wr.heap.size,2,none⟩=some (.int .i64 an):=by simp
    have y3:(wr.alloc (.cells #[.int .i64 k,.int .i64 ak,.int .i64 an,.int .i64 bk,.int .i64 bn] 99)).cell? ⟨wr.heap.size,3,none⟩=some (.int .i64 bk):=by simp
    have y4:(wr.alloc (.cells #[.int .i64 k,.int .i64 ak,.int .i64 an,.int .i64 bk,.int .i64 bn] 99)).cell? ⟨wr.heap.size,4,none⟩=some (.int .i64 bn):=by simp
    have RB:Hid (Below (w.heap.size+1) (w.alloc _) (wr.alloc (.cells #[.int .i64 k,.int .i64 ak,.int .i64 an,.int .i64 bk,.int .i64 bn] 99))):=hnx.trans (hWr.mono hsz)
    have HWr:Hid (Below wr.heap.size wr (wr.alloc (.cells #[.int .i64 k,.int .i64 ak,.int .i64 an,.int .i64 bk,.int .i64 bn] 99))):=hWr
    generalize wr.alloc (.cells #[.int .i64 k,.int .i64 ak,.int .i64 an,.int .i64 bk,.int .i64 bn] 99)=W at *
    generalize hG:wr.heap.size=G at *
    clear hWr d0 d1 d2 d3 d4 hnx
    go_region_held3 (fun w'=>Below W.heap.size W w'∧w'.cell? ⟨G,0,none⟩=some (.int .i64 k)∧w'.cell? ⟨G,1,none⟩=some (.int .i64 ak)∧w'.cell? ⟨G,2,none⟩=some (.int .i64 an)∧w'.cell? ⟨G,3,none⟩=some (.int .i64 bk)∧w'.cell? ⟨G,4,none⟩=some (.int .i64 bn)) ((go_split_ands;refine ext5 ?_ y0 y1 y2 y3 y4;repeat (first | assumption | exact Below.refl _ _ | refine aD ?_ | refine aA ?_ _ | refine aC ?_ (by assumption))))
     (first
      | (go_at_call_of 275 (Value.agg #[.int .i64 ak,.int .i64 an]);refine(eG ak an zs za zc _ hzl.out ?_ hB.out).mono ?_;(refine hIW.out.below ?_;go_split_ands;repeat (first | assumption | exact Below.refl _ _ | refine aD ?_ | refine aA ?_ _ | refine aC ?_ (by assumption)));rintro e w' ⟨rfl,hbx⟩)
      | (go_at_call_of 275 (Value.agg #[.int .i64 bk,.int .i64 bn]);refine(eG bk bn zs za zc _ hzl.out ?_ hC.out).mono ?_;(refine hIW.out.below ?_;go_split_ands;repeat (first | assumption | exact Below.refl _ _ | refine aD ?_ | refine aA ?_ _ | refine aC ?_ (by assumption)));rintro e w' ⟨rfl,hbx⟩)
      | (go_at_call 169;refine(lJ k (fI ak an zs) (fI bk bn zs) _).mono ?_;rintro e w' ⟨rfl,hbx⟩)
      | (go_at_call 177;refine(tA _ _ hA.out _).mono ?_;rintro e w' ⟨rfl,rfl⟩))
    rw[HV.out]
    go_wp2
    go_ret
    refine⟨by rw[HN.out];rfl,aC hW.out ?_⟩
    go_split_ands
    repeat (first | assumption | exact Below.refl _ _ | refine aD ?_ | refine aA ?_ _ | refine aC ?_ (by assumption))
  ·have H':Hid (cW zs gs=true):=by
    have h0:=hno.out
    rw[List.drop_of_length_le (by omega)]at h0
    exact h0
   clear hno hgs hnx
   go_wp2
   go_ret
   exact⟨by rw[H'.out];rfl,hnx'⟩
end
section
theorem setRow_old {w:World} {base g cap n size:Nat} {e:TypeId} {cur new:Array Value} {xs:List Value} (hl:xs.length=n*size) (hbg:base≤g) (hg:w.heap[g]?=some (.cells cur e (0,0))) (hnc:n≤cap) (hcm:cap≤maxLen) (hs:new.size=cap*size) (ht:new.toList.take (n*size)=xs) :
  (w.setRow g new).ownsRow base e size (.slice (some ⟨g,0,none⟩) n cap) n xs:=
 ⟨hl,.inr ⟨g,cap,new,rfl,hbg,setRow_heap w g cur _ e _ hg,hnc,hcm,hs,ht⟩⟩
theorem qE {P:Program} (w:World) (base:Nat) (t ty e:TypeId) (i:TypeInfo) (z:Value) (bytes:Nat) (ht:P.underlying t=some (.slice e)) (hi:P.info? e=some i) (hz:i.zero=some z)
  (hby:i.bytes=bytes) (hzs:z.cells.size=i.size) (hsz:0<i.size)
  (v:Value) (n:Nat) (xs:List Value) (hown:w.ownsRow base e i.size v n xs)
  (a:Addr) (m c:Nat) (news:List Value) (hl:news.length=m*i.size) (hnews:∀j u,news[j]?=some u→w.cell? (a.add j)=some u) (h1:∀u∈news,u.oneCell'=true)
  (h63:n+m≤maxLen) (hbytes:(n+m)*bytes≤140737488355328) (hbase:base≤w.heap.size) :
  ∃v' w',(Builtin.append_ #[t,t] ty #[v,.slice (some a) m c]).run P w=.ok v' w'∧w'.ownsRow base e i.size v' (n+m) (xs++news)∧w.grownBy w' v.ownBlock∧w'.ownsRow base e i.size v n xs:=by
 obtain⟨v',w',hr,h2,h3,_⟩:=run_append_own (P:=P) w base t ty e i z i.size bytes ht hi hz rfl hby hzs hsz v n xs hown a m c news hl hnews h1 h63 hbytes hbase
 refine⟨v',w',hr,h2,h3,?_⟩
 rcases hown.2 with ⟨rfl,rfl⟩ | ⟨g,cap,cur,rfl,hbg,hg,hnc,hcm,hcs,htake⟩
 ·exact⟨hown.1,.inl ⟨rfl,rfl⟩⟩
 ·by_cases hroom:n+m≤cap
  ·have hfit:n*i.size+news.length≤cur.size:=by rw[hl,hcs,←Nat.add_mul];exact Nat.mul_le_mul_right _ hroom
   have hr':=run_append_room (P:=P) w t ty e i ht hi g n cap cur hg a m c news hl hnews h1 hroom hfit
   rw[hr]at hr'
   injection hr' with _ hw
   subst hw
   refine setRow_old hown.1 hbg hg hnc hcm ?_ ?_
   ·simp only[List.size_toArray,List.length_append,List.length_take,List.length_drop,Array.length_toList]
    omega
   ·rw[htake,List.append_assoc,←hown.1]
    exact List.take_left
  ·have holds:∀j u,xs[j]?=some u→w.cell? ((⟨g,0,none⟩:Addr).add j)=some u:=hown.cells (g:=g) rfl
   have hsmall:n+m≤9223372036854775807:=by simp only[maxLen]at h63;omega
   have hb':(n+m)*i.bytes≤140737488355328:=by rw[hby];exact hbytes
   have hr':=run_append_grow (P:=P) w t ty e i z ht hi hz ⟨g,0,none⟩ n cap xs hown.1 holds a m c news hl hnews (by omega) (by omega) (growslice_fits (by omega) hb')
   rw[hr]at hr'
   injection hr' with _ hw
   subst hw
   exact⟨hown.1,.inr ⟨g,cap,cur,rfl,hbg,(Below.heap_alloc w.drew _ g (Array.getElem?_eq_some_iff.1 hg).1).trans hg,hnc,hcm,hcs,htake⟩⟩
theorem jH {P:Program} {w:World} {ops:Array Oper} {o:Oper} {a:Act} {K:Act→World→Prop} {Q:Exit→Act→World→Prop} {E:Prop} (hgd:o.guard=none) (s x:Operand) (t:TypeId)
  (ho:o.op=.call {callee:=.builtin .append,args:=#[s,x],argTypes:=#[t,t]})
  (base:Nat) (e:TypeId) (i:TypeInfo) (z:Value) (bytes:Nat) (ht:P.underlying t=some (.slice e)) (hi:P.info? e=some i) (hz:i.zero=some z)
  (hsize:i.size=1) (hby:i.bytes=bytes) (hzs:z.cells.size=1)
  (v:Value) (n:Nat) (xs:List Value) (hs:a.eval s=v) (hown:w.ownsRow base e 1 v n xs)
  (ad:Addr) (m c:Nat) (news:List Value) (hx:a.eval x=.slice (some ad) m c) (hl:news.length=m*1) (hnews:∀j u,news[j]?=some u→w.cell? (ad.add j)=some u) (h1:∀u∈news,u.oneCell'=true)
  (h63:n+m≤maxLen) (hbytes:(n+m)*bytes≤140737488355328) (hbase:base≤w.heap.size)
  (h:∀v' w',w'.ownsRow base e 1 v' (n+m) (xs++news)→w.grownBy w' v.ownBlock→w'.ownsRow base e 1 v n xs→K (a.put o.dst v') w') :
  if Region.wanted o (yielded ops a.tmps)=true then Oper.wp P o a w K Q else E:=by
 have hw:Region.wanted o (yielded ops a.tmps)=true:=by simp[Region.wanted,hgd]
 rw[if_pos hw]
 rw[←hsize]at hown hl hzs h
 obtain⟨v',w',hr,h2,h3,h4⟩:=qE (P:=P) w base t o.type e i z bytes ht hi hz hby hzs (by omega) v n xs hown ad m c news hl hnews h1 h63 hbytes hbase
 unfold Oper.wp execOp
 simp only[ho,resolve,invoke,builtin,Sem.run_bind,Sem.run_pure,Result.andThen_ok,List.map_toArray,List.map_cons,List.map_nil,hs,hx,hr]
 exact h v' w' h2 h3 h4
theorem dA {w w':World} {base:Nat} {e:TypeId} {size:Nat} {v:Value} {n:Nat} {xs:List Value} (h:w.ownsRow base e size v n xs) (hb:Below w.heap.size w w'):w'.ownsRow base e size v n xs:=by
 refine⟨h.1,?_⟩
 rcases h.2 with hn | ⟨g,cap,cur,rfl,hbg,hg,rest⟩
 ·exact .inl hn
 ·exact .inr ⟨g,cap,cur,rfl,hbg,(hb.block g (Array.getElem?_eq_some_iff.1 hg).1).trans hg,rest⟩
section
variable {B G k:Nat} {u:Value} {xs:List Value} {op ak an bk bn:Int} {W:World}
theorem rF {w1 w2:World} (hs:w1.cell? ⟨G,1,none⟩=some (.int .i64 op)∧w1.cell? ⟨G,2,none⟩=some (.int .i64 ak)∧w1.cell? ⟨G,3,none⟩=some (.int .i64 an)∧w1.cell? ⟨G,4,none⟩=some (.int .i64 bk)∧w1.cell? ⟨G,5,none⟩=some (.int .i64 bn)∧Hid (Below B W w1)∧Hid (w1.ownsRow B 3 1 u k xs)) (hB:B≤W.heap.size) (hb:Below w1.heap.size w1 w2):w2.cell? ⟨G,1,none⟩=some (.int .i64 op)∧w2.cell? ⟨G,2,none⟩=some (.int .i64 ak)∧w2.cell? ⟨G,3,none⟩=some (.int .i64 an)∧w2.cell? ⟨G,4,none⟩=some (.int .i64 bk)∧w2.cell? ⟨G,5,none⟩=some (.int .i64 bn)∧Hid (Below B W w2)∧Hid (w2.ownsRow B 3 1 u k xs):=by
 obtain⟨c1,c2,c3,c4,c5,hx,ho⟩:=hs
 exact⟨aB hb c1,aB hb c2,aB hb c3,aB hb c4,aB hb c5,hx.out.trans (hb.mono (Nat.le_trans hB hx.out.size)),dA ho.out hb⟩
theorem sv_grown {w1 w2:World} (hs:w1.cell? ⟨G,1,none⟩=some (.int .i64 op)∧w1.cell? ⟨G,2,none⟩=some (.int .i64 ak)∧w1.cell? ⟨G,3,none⟩=some (.int .i64 an)∧w1.cell? ⟨G,4,none⟩=some (.int .i64 bk)∧w1.cell? ⟨G,5,none⟩=some (.int .i64 bn)∧Hid (Below B W w1)∧Hid (w1.ownsRow B 3 1 u k xs)) (hB:B≤W.heap.size) (hg:w1.grownBy w2 u.ownBlock) (ho2:w2.ownsRow B 3 1 u k xs) (hG:∀j,u.ownBlock=some j→B≤j∧j<G):w2.cell? ⟨G,1,none⟩=some (.int .i64 op)∧w2.cell? ⟨G,2,none⟩=some (.int .i64 ak)∧w2.cell? ⟨G,3,none⟩=some (.int .i64 an)∧w2.cell? ⟨G,4,none⟩=some (.int .i64 bk)∧w2.cell? ⟨G,5,none⟩=some (.int .i64 bn)∧Hid (Below B W w2)∧Hid (w2.ownsRow B 3 1 u k xs):=by
 obtain⟨c1,c2,c3,c4,c5,hx,ho⟩:=hs
 have far:∀j v,w1.cell? ⟨G,j,none⟩=some v→w2.cell? ⟨G,j,none⟩=some v:=fun j v h=>
  (World.cell?_of_block (hg.block G (World.block_lt_of_cell? w1 ⟨G,j,none⟩ h) (fun e=>by have:=(hG G e.symm).2;omega))).trans h
 exact⟨far _ _ c1,far _ _ c2,far _ _ c3,far _ _ c4,far _ _ c5,hx.out.grown hg (Nat.le_trans hB hx.out.size) (fun j hj=>(hG j hj).1),ho2⟩
end
def sVal (zs:List Int) (s:St):Int:=rV s.op (fI s.ak s.an zs) (fI s.bk s.bn zs)
def fF (zs:List Int) (ss:List St):List Int:=ss.map (sVal zs)
theorem take_vals (zs:List Int) (ss:List St) (k:Nat) (h:k<ss.length):(fF zs ss).take (k+1)=(fF zs ss).take k++[sVal zs (ss.getD k s0)]:=by
 rw[List.take_succ_eq_append_getElem (by simpa[fF]using h)]
 simp[fF,List.getD,h]
variable (ra ga sa:Option Addr) (rc gc sc:Nat) (rs:List Int) (gs:List Gd) (ss:List St) (za:Option Addr) (zc:Nat) (zs:List Int)
theorem tU (w:World) (ht:IsTx w ra ga sa rs gs ss) (hz:IsInts w za zs) (hzl0:zs.length≤maxLen) (hlen:zs.length=rs.length) (hs0:aF (ss.map (cU rs.length))=0) (h3:ss.length≤3) :
  Calls Tryz.prog 259 #[.agg #[.slice ra rs.length rc,.slice ga gs.length gc,.slice sa ss.length sc],.slice za zs.length zc] w fun e w'=>∃v,e=.returned v∧w'.ownsRow (w.heap.size+1) 3 1 v ss.length ((fF zs ss).map (Value.int .i64))∧Below w.heap.size w w':=by
 have hzl:Hid (zs.length≤maxLen):=hzl0
 have HZ:Hid (IsInts w za zs):=hz
 have HG:Hid (aF (ss.map (cU rs.length))=0):=hs0
 have HL:Hid (zs.length=rs.length):=hlen
 obtain⟨i0,hi,hz0,hz1,hz2⟩:=info_parts Tryz.info3
 have hal:Hid ((fF zs ss).length=ss.length):=by simp[fF,Hid]
 obtain⟨_,_,hgs,_,_,_⟩:=ht
 obtain⟨B,hB⟩:∃B,B=w.heap.size+1:=⟨_,rfl⟩
 rw[←hB]
 clear hzl0 hz hs0 hlen
 go_enter Tryz.func259,Tryz.ntmps259
 go_wp2
 go_loopw [5,7,11] (fun v _ i wr=>∃k:Nat,k≤ss.length∧i=.int .i64 k∧wr.ownsRow B 3 1 v k (((fF zs ss).take k).map (Value.int .i64))∧Below B (w.alloc (.cells #[.slice ra rs.length rc,.slice ga gs.length gc,.slice sa ss.length sc] 95)) wr) (fun _ _ i _=>ss.length - (intOf i).toNat)
 case atStart=>exact⟨0,Nat.zero_le _,rfl,World.ownsRow_nil _ _ _ _,Below.refl _ _⟩
 case round=>
  obtain⟨k,hk,rfl,hown,hnx⟩:=hrel
  have hsz:B≤wr.heap.size:=by have:=hnx.size;simp at this;omega
  have hnx':Below w.heap.size w wr:=(aA (Below.refl _ _) _).trans (hnx.mono (by omega))
  by_cases hlt:k<ss.length
  ·obtain⟨b,off,rfl,hb,c0,c1,c2,c3,c4,c5⟩:=hgs k hlt
   have up:∀j u,w.cell? ⟨b,j,none⟩=some u→wr.cell? ⟨b,j,none⟩=some u:=fun j u h=>
    (hnx'.cell (p:=⟨b,j,none⟩) hb).trans h
   have d0:=up _ _ c0
   have d1:=up _ _ c1
   have d2:=up _ _ c2
   have d3:=up _ _ c3
   have d4:=up _ _ c4
   have d5:=up _ _ c5
   have HT:Hid ((fF zs ss).take (k+1)=(fF zs ss).take k++[sVal zs (ss.getD k s0)]):=take_vals zs ss k hlt
   have hE:=nH _ ss s0 HG.out k hlt
   clear c0 c1 c2 c3 c4 c5 up hgs
   generalize (ss.getD k s0)=s at *
   obtain⟨key,op,ak,an,bk,bn⟩:=s
   simp only at d0 d1 d2 d3 d4 d5
   obtain⟨xA,xB,xC⟩:=sErr_zero hE
   rw[←HL.out]at xB xC
   have hA:Hid (iN op=0):=xA
   have hBB:Hid (bD ak an zs.length=0):=xB
   have hC:Hid (bD bk bn zs.length=0):=xC
   clear hE xA xB xC
   go_wp2_with fail
   generalize hxs:((fF zs ss).take k).map (Value.int .i64)=xs at *
   have HXS:Hid (((fF zs ss).take k).map (Value.int .i64)=xs):=hxs
   have hWr:Below wr.heap.size wr (wr.alloc (.cells #[.int .i64 key,.int .i64 op,.int .i64 ak,.int .i64 an,.int .i64 bk,.int .i64 bn] 102)):=aA (Below.refl _ _) _
   have hW:Hid (Below w.heap.size w (wr.alloc (.cells #[.int .i64 key,.int .i64 op,.int .i64 ak,.int .i64 an,.int .i64 bk,.int .i64 bn] 102))):=aC hnx' hWr
   have y1:(wr.alloc (.cells #[.int .i64 key,.int .i64 op,.int .i64 ak,.int .i64 an,.int .i64 bk,.int .i64 bn] 102)).cell? ⟨wr.heap.size,1,none⟩=some (.int .i64 op):=by simp
   have y2:(wr.alloc (.cells #[.int .i64 key,.int .i64 op,.int .i64 ak,.int .i64 an,.int .i64 bk,.int .i64 bn] 102)).cell? ⟨wr.heap.size,2,none⟩=some (.int .i64 ak):=by simp
   have y3:(wr.alloc (.cells #[.int .i64 key,.int .i64 op,.int .i64 ak,.int .i64 an,.int .i64 bk,.int .i64 bn] 102)).cell? ⟨wr.heap.size,3,none⟩=some (.int .i64 an):=by simp
   have y4:(wr.alloc (.cells #[.int .i64 key,.int .i64 op,.int .i64 ak,.int .i64 an,.int .i64 bk,.int .i64 bn] 102)).cell? ⟨wr.heap.size,4,none⟩=some (.int .i64 bk):=by simp
   have y5:(wr.alloc (.cells #[.int .i64 key,.int .i64 op,.int .i64 ak,.int .i64 an,.int .i64 bk,.int .i64 bn] 102)).cell? ⟨wr.heap.size,5,none⟩=some (.int .i64 bn):=by simp
   have RB:Hid (Below B (w.alloc _) (wr.alloc (.cells #[.int .i64 key,.int .i64 op,.int .i64 ak,.int .i64 an,.int .i64 bk,.int .i64 bn] 102))):=hnx.trans (hWr.mono hsz)
   have HO:Hid ((wr.alloc (.cells #[.int .i64 key,.int .i64 op,.int .i64 ak,.int .i64 an,.int .i64 bk,.int .i64 bn] 102)).ownsRow B 3 1 u5 k xs):=hown.alloc _
   have hGo:Hid (∀j,u5.ownBlock=some j→B≤j∧j<wr.heap.size):=fun j hj=>hown.lt j hj
   have hBW:B≤(wr.alloc (.cells #[.int .i64 key,.int .i64 op,.int .i64 ak,.int .i64 an,.int .i64 bk,.int .i64 bn] 102)).heap.size:=by simp;omega
   generalize wr.alloc (.cells #[.int .i64 key,.int .i64 op,.int .i64 ak,.int .i64 an,.int .i64 bk,.int .i64 bn] 102)=W at *
   generalize wr.heap.size=G at *
   have HS0:Hid (W.cell? ⟨G,1,none⟩=some (.int .i64 op)∧W.cell? ⟨G,2,none⟩=some (.int .i64 ak)∧W.cell? ⟨G,3,none⟩=some (.int .i64 an)∧W.cell? ⟨G,4,none⟩=some (.int .i64 bk)∧W.cell? ⟨G,5,none⟩=some (.int .i64 bn)∧Hid (Below B W W)∧Hid (W.ownsRow B 3 1 u5 k xs)):=⟨y1,y2,y3,y4,y5,Below.refl _ _,HO⟩
   clear hWr d0 d1 d2 d3 d4 d5 hnx hown hxs HO y1 y2 y3 y4 y5
   have hupW:Hid (∀w',Below B W w'→Below w.heap.size w w'):=fun w' h=>hW.out.trans (h.mono (by omega))
   go_region_held3 (fun w'=>w'.cell? ⟨G,1,none⟩=some (.int .i64 op)∧w'.cell? ⟨G,2,none⟩=some (.int .i64 ak)∧w'.cell? ⟨G,3,none⟩=some (.int .i64 an)∧w'.cell? ⟨G,4,none⟩=some (.int .i64 bk)∧w'.cell? ⟨G,5,none⟩=some (.int .i64 bn)∧Hid (Below B W w')∧Hid (w'.ownsRow B 3 1 u5 k xs)) ((first | exact rF HS0.out hBW (aD (Below.refl _ _)) | exact rF (by assumption) hBW (by assumption) | exact rF (by assumption) hBW (aA (Below.refl _ _) _) | exact sv_grown (by assumption) hBW (by assumption) (by assumption) hGo.out))
    (first
     | (go_at_call_of 275 (Value.agg #[.int .i64 ak,.int .i64 an]);refine(eG ak an zs za zc _ hzl.out ?_ hBB.out).mono ?_;(refine HZ.out.below (hupW.out _ ?_);go_split_ands;(refine Hid.out ?_;assumption));rintro e w' ⟨rfl,hbx⟩)
     | (go_at_call_of 275 (Value.agg #[.int .i64 bk,.int .i64 bn]);refine(eG bk bn zs za zc _ hzl.out ?_ hC.out).mono ?_;(refine HZ.out.below (hupW.out _ ?_);go_split_ands;(refine Hid.out ?_;assumption));rintro e w' ⟨rfl,hbx⟩)
     | (go_at_call 171;refine(mI op (fI ak an zs) (fI bk bn zs) _).mono ?_;rintro e w' ⟨rfl,hbx⟩)
     | (go_at_call 155;refine(lK _ _ hA.out _).mono ?_;rintro e w' ⟨rfl,rfl⟩)
     | (refine jH (by rfl) _ _ _ (by rfl) B 3 i0 (.int .i64 0) 8 Tryz.underlying41 hi hz0 hz1 hz2 rfl u5 k xs (by rfl) ?_ _ 1 1 [.int .i64 (rV op (fI ak an zs) (fI bk bn zs))] (by rfl) (by rfl) (nG _ _ _ (by simp)) (ints_oneCell .i64 [_]) (by unfold maxLen;omega) (by omega) ?_ ?_;(go_split_ands;refine Hid.out ?_;assumption);(go_split_ands;refine Nat.le_trans hBW (Below.size (B:=B) (Hid.out ?_));assumption);intro v' w1 hown' hgrow hkeep))
   have R:w1.ownsRow B 3 1 v' (k+1) (((fF zs ss).take (k+1)).map (Value.int .i64)):=by
    rw[HT.out,List.map_append,HXS.out];exact hown'
   go_split_ands
   have RB2:Below B W w1:=by
    refine Hid.out ?_
    assumption
   have RB3:=RB.out.trans RB2
   clear hown' hgrow hkeep HS0
   go_wp2
   go_roundw
   case rel=>exact⟨k+1,by omega,by go_num,R,RB3⟩
   case measure=>simp[intOf];omega
  ·have R:wr.ownsRow B 3 1 u5 ss.length ((fF zs ss).map (Value.int .i64)):=by
    have hkk:k=ss.length:=by omega
    rw[hkk,List.take_of_length_le (by rw[hal.out];exact Nat.le_refl _)]at hown
    exact hown
   clear hown hnx hgs
   go_wp2
   go_ret
   exact⟨_,rfl,R,hnx'⟩
end
end Go.Proofs.YtcgpkonfneofdaaGreatDoor
