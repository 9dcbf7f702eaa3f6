/- Conditions: those that each theorem states. -/
import Derived.Test.YtcgpkonfneofdaaGreatDoorSPlayA
set_option maxRecDepth 100000
set_option maxHeartbeats 8000000
namespace Go.Proofs.YtcgpkonfneofdaaGreatDoor
open Go.RowKit
section
theorem xG (q:Q4) (x:Int) (hx:¬x=0) (w:World):Calls Tryz.prog 39 #[.agg #[.slice q.sa q.sn q.sc,.slice q.ra q.rn q.rc,.slice q.wa q.wn q.tc,.slice q.va q.vn q.vc],.int .i64 x] w fun e' w'=>e'=.panicked [{v:=.iface 22 (.int .i64 x),recovered:=false}]∧Below w.heap.size w w':=by
 have hW:Hid (Below w.heap.size w ((w.alloc (.cells #[.slice q.sa q.sn q.sc,.slice q.ra q.rn q.rc,.slice q.wa q.wn q.tc,.slice q.va q.vn q.vc] 45)).alloc (.cells #[.slice none 0 0,.slice none 0 0,.slice none 0 0,.slice none 0 0] 45))):=aA (aA (Below.refl _ _) _) _
 go_enter Tryz.func39,Tryz.ntmps39
 go_upto_region 1 with fail
 generalize ((w.alloc (.cells #[.slice q.sa q.sn q.sc,.slice q.ra q.rn q.rc,.slice q.wa q.wn q.tc,.slice q.va q.vn q.vc] 45)).alloc (.cells #[.slice none 0 0,.slice none 0 0,.slice none 0 0,.slice none 0 0] 45))=W at *
 go_wp2_with fail
 refine(cF [x] 0 x _ 1 _ (by simp) (by simp) (by simp) rfl hx (cD _ _ _ (by simp))).mono ?_
 rintro e w' ⟨rfl,rfl⟩
 go_wp2
 refine⟨rfl,rfl,aC hW.out (aA (Below.refl _ _) _)⟩
variable (la:Option Addr) (lc:Nat) (l:List TxA) (sa:Option Addr) (sc:Nat) (s:List Int) (pa:Option Addr) (pc:Nat) (pk:List Int)
end
section
def gL (l:List TxA) (S:SA) (m:Nat):List (Bool×List Int):=(List.range m).map (fun n=>(cW (S.vs.getD n []) (gX l n).gs,S.vs.getD n []))
theorem resL_len (l:List TxA) (S:SA) (m:Nat):(gL l S m).length=m:=by simp[gL]
theorem resL_step (l:List TxA) (S:SA) (m:Nat):gL l S (m+1)=gL l S m++[(cW (S.vs.getD m []) (gX l m).gs,S.vs.getD m [])]:=by
 unfold gL
 rw[List.range_succ,List.map_append]
 rfl
def mG (m:Int) (l:List TxA) (S:SA):Int:=if dB m l S=0 then (if jW m l S=true then 0 else 8) else dB m l S
def kN (m:Int) (l:List TxA) (S:SA):List (Bool×List Int):=if mG m l S=0 then gL l S l.length else []
theorem st_runE {m:Int} {l:List TxA} {S:SA} (h:dB m l S=0) {n:Nat} (hn:n<l.length):tV (gX l n).rs (gX l n).gs (gX l n).ss (S.vs.getD n [])=0∧S.vs.length=l.length:=by
 obtain⟨sh,rfl,_,_,hc,_,hf,_⟩:=cK h
 have f:=eK.1 hf
 have h1:bA (gX l n).rs (gX l n).gs (gX l n).ss=0:=fV hc n hn
 have h2:dX (gX l n).rs (S.vs.getD n [])=0:=if_pos (f.vn n hn)
 refine⟨?_,f.vs⟩
 unfold tV
 rw[h1,h2]
 rfl
theorem gotB_pan (b:Bool) (x:Int) (hx:¬x=0) (w:World):Calls Tryz.prog 177 #[.bool b,.int .i64 x] w fun e' w'=>e'=.panicked [{v:=.iface 22 (.int .i64 x),recovered:=false}]∧Below w.heap.size w w':=by
 go_enter Tryz.func177,Tryz.ntmps177
 go_wp2_with fail
 refine(cF [x] 0 x _ 1 _ (by simp) (by simp) (by simp) rfl hx (cD _ _ _ (by simp))).mono ?_
 rintro e w' ⟨rfl,rfl⟩
 go_wp2
 exact⟨rfl,rfl,aA (Below.refl _ _) _⟩
variable (la:Option Addr) (lc:Nat) (l:List TxA) (q:Q4) (S:SA)
theorem res1_ok (m:Int) (p z:Nat) (w:World) (p0:w.cell? ⟨p,0,none⟩=some (.int .i64 m)) (p1:w.cell? ⟨p,1,none⟩=some (.slice la l.length lc)) (z0:w.cell? ⟨z,0,none⟩=some (.slice q.sa q.sn q.sc)) (z1:w.cell? ⟨z,1,none⟩=some (.slice q.ra q.rn q.rc)) (z2:w.cell? ⟨z,2,none⟩=some (.slice q.wa q.wn q.tc)) (z3:w.cell? ⟨z,3,none⟩=some (.slice q.va q.vn q.vc)) (hl:IsTxs w la l) (hs:StaQ S q w) (hst:dB m l S=0) (hov:jW m l S=true) :
  Calls Tryz.prog 183 #[.pointer (some ⟨p,0,none⟩),.pointer (some ⟨z,0,none⟩)] w fun e w'=>∃v rl,e=.returned v∧ResRow w.heap.size w' v rl∧rl.map RsA.told=gL l S l.length∧Below w.heap.size w w':=by
 have hl8:l.length≤8:=by
  obtain⟨sh,_,_,_,hc,_⟩:=cK hst
  exact fE hc
 have CV:Hid (Calls Tryz.prog 178 #[.agg #[.int .i64 m,.slice la l.length lc],.agg #[.slice q.sa q.sn q.sc,.slice q.ra q.rn q.rc,.slice q.wa q.wn q.tc,.slice q.va q.vn q.vc]] w fun e w'=>e=.returned (.tuple #[.bool true,.int .i64 0])∧Below w.heap.size w w'):=by
  have h:=over_q (m:=m) (c:=lc) hl hs
  rw[hst,hov]at h
  exact h
 have HL:Hid (IsTxs w la l):=hl
 have HV:Hid (IsII w q.va S.vs):=hs.2.2.2.2.vs
 have HN:Hid (q.vn=S.vs.length):=hs.2.2.2.1
 have HST:Hid (dB m l S=0):=hst
 have Z3:Hid (w.cell? ⟨z,3,none⟩=some (.slice q.va q.vn q.vc)):=z3
 clear hl hs hst hov
 go_enter Tryz.func183,Tryz.ntmps183
 go_wp2_with fail
 refine CV.out.mono ?_
 rintro e w1 ⟨rfl,hb1⟩
 go_wp2_with fail
 refine(xH _ _).mono ?_
 rintro e w2 ⟨rfl,rfl⟩
 have gA:Below w.heap.size w (w1.alloc (.cells #[.int .i64 0] 22)):=aC hb1 (aA (Below.refl _ _) _)
 have p1:=aB gA p1
 have B2:Hid (Below w.heap.size w (w1.alloc (.cells #[.int .i64 0] 22))):=gA
 clear gA hb1 CV p0 z0 z1 z2 z3
 generalize w1.alloc (.cells #[.int .i64 0] 22)=W at *
 go_wp2
 clear p1
 go_loopw [3,21] (fun v i wr=>∃(k:Nat) (rl:List RsA),k≤l.length∧i=.int .i64 k∧Hid (ResRow w.heap.size wr v rl)∧Hid (rl.map RsA.told=gL l S k)∧Hid (Below w.heap.size w wr)) (fun _ i _=>l.length - (intOf i).toNat)
 case atStart=>exact⟨0,[],Nat.zero_le _,rfl,mH _ _,rfl,B2⟩
 case round=>
  clear B2
  obtain⟨k,rl,hk,rfl,hres,htold,hbl⟩:=hrel
  by_cases hlt:k<l.length
  ·obtain⟨b,off,rfl,hb,c0,c1,c2,hx⟩:=HL.out k hlt
   have d0:=aB hbl.out c0
   have d1:=aB hbl.out c1
   have d2:=aB hbl.out c2
   obtain⟨hrun,hvl⟩:=st_runE HST.out hlt
   obtain⟨vb,vo,za,zc,hva,hvb,r0,hz,hzn⟩:=HV.out k (by omega)
   have HX:Hid (IsX w (gX l k)):=hx
   have HT:Hid (gL l S (k+1)=gL l S k++[(cW (S.vs.getD k []) (gX l k).gs,S.vs.getD k [])]):=resL_step l S k
   have HR1:Hid ((gL l S k).length=k):=resL_len l S k
   have HZ:Hid (IsInts w za (S.vs.getD k [])):=hz
   have z3:=Z3.out
   have hvn:k<q.vn:=by rw[HN.out];omega
   rw[hva]at z3
   change wr.cell? ⟨b,off+k*3,none⟩=some (.slice (gX l k).ra (gX l k).rs.length (gX l k).rc) at d0
   change wr.cell? ⟨b,off+k*3+1,none⟩=some (.slice (gX l k).ga (gX l k).gs.length (gX l k).gc) at d1
   change wr.cell? ⟨b,off+k*3+2,none⟩=some (.slice (gX l k).sa (gX l k).ss.length (gX l k).sc) at d2
   generalize gX l k=x at *
   obtain⟨ra,ga,sa,rc,gc,sc,rs,gs,ss⟩:=x
   simp only at d0 d1 d2 hrun HT
   generalize S.vs.getD k []=Z at *
   have e1:runD rs gs ss Z=cW Z gs:=if_pos hrun
   have e2:zU rs gs ss Z=Z:=if_pos hrun
   generalize hD:cW Z gs=D at *
   obtain⟨M,hM⟩:∃M,M=(runM rs gs ss Z).length:=⟨_,rfl⟩
   have CX:Hid (∀w',Below w.heap.size w w'→Calls Tryz.prog 184 #[.agg #[.slice ra rs.length rc,.slice ga gs.length gc,.slice sa ss.length sc],.slice za Z.length zc] w' fun e w''=>∃va vc ma mc,e=.returned (.tuple #[.agg #[.bool D,.slice va Z.length vc],.slice ma M mc,.int .i64 0])∧IsAt w'.heap.size w''.heap.size w'' va Z∧Below w'.heap.size w' w''):=fun w' hb=>by
    have h:=mB ra ga sa rc gc sc rs gs ss za zc Z w' (HX.out.t.below hb) (HZ.out.below hb) hzn
    rw[e1,e2,hrun,←hM]at h
    refine h.mono ?_
    rintro e w'' ⟨va,vc,ma,mc,rfl,h1,_,h2⟩
    exact⟨va,vc,ma,mc,rfl,h1,h2⟩
   have hrl:rl.length≤100:=by
    have h:=congrArg List.length htold.out
    rw[List.length_map,HR1.out]at h
    omega
   have z3:=aB hbl.out z3
   have r0:=aB hbl.out r0
   clear c0 c1 c2 hx hz hrun e1 e2 hM HX HZ hb hvb hzn hva
   go_upto_region 7 with fail
   have gV:Below wr.heap.size wr (wr.alloc (.cells #[.slice ra rs.length rc,.slice ga gs.length gc,.slice sa ss.length sc] 95)):=aA (Below.refl _ _) _
   have x0':(wr.alloc (.cells #[.slice ra rs.length rc,.slice ga gs.length gc,.slice sa ss.length sc] 95)).cell? ⟨wr.heap.size,0,none⟩=some (.slice ra rs.length rc):=aG _ _ 95 _ 0 _ rfl rfl
   have x1':(wr.alloc (.cells #[.slice ra rs.length rc,.slice ga gs.length gc,.slice sa ss.length sc] 95)).cell? ⟨wr.heap.size,1,none⟩=some (.slice ga gs.length gc):=aG _ _ 95 _ 1 _ rfl rfl
   have x2':(wr.alloc (.cells #[.slice ra rs.length rc,.slice ga gs.length gc,.slice sa ss.length sc] 95)).cell? ⟨wr.heap.size,2,none⟩=some (.slice sa ss.length sc):=aG _ _ 95 _ 2 _ rfl rfl
   have z3:=aB gV z3
   have r0:=aB gV r0
   have hresV:Hid (ResRow w.heap.size (wr.alloc (.cells #[.slice ra rs.length rc,.slice ga gs.length gc,.slice sa ss.length sc] 95)) u3 rl):=hres.out.below gV
   have hblV:Hid (Below w.heap.size w (wr.alloc (.cells #[.slice ra rs.length rc,.slice ga gs.length gc,.slice sa ss.length sc] 95))):=aC hbl.out gV
   have hown:Hid (∀j,u3.ownBlock=some j→w.heap.size≤j∧j<(wr.alloc (.cells #[.slice ra rs.length rc,.slice ga gs.length gc,.slice sa ss.length sc] 95)).heap.size):=fun j hj=>hresV.out.1.lt j hj
   clear gV d0 d1 d2 hres hbl
   generalize (wr.alloc (.cells #[.slice ra rs.length rc,.slice ga gs.length gc,.slice sa ss.length sc] 95))=V at *
   generalize wr.heap.size=X at *
   have KS:Hid (∀w',Below V.heap.size V w'→w'.cell? ⟨X,0,none⟩=some (.slice ra rs.length rc)∧w'.cell? ⟨X,1,none⟩=some (.slice ga gs.length gc)∧w'.cell? ⟨X,2,none⟩=some (.slice sa ss.length sc)∧w'.cell? ⟨z,3,none⟩=some (.slice (some ⟨vb,vo,none⟩) q.vn q.vc)∧w'.cell? ⟨vb,vo+k,none⟩=some (.slice za Z.length zc)):=fun w' hb=>⟨aB hb x0',aB hb x1',aB hb x2',aB hb z3,aB hb r0⟩
   clear x0' x1' x2' z3 r0
   refine wp_region_held_drew (S:=(fun w'=>w'.cell? ⟨X,0,none⟩=some (.slice ra rs.length rc)∧w'.cell? ⟨X,1,none⟩=some (.slice ga gs.length gc)∧w'.cell? ⟨X,2,none⟩=some (.slice sa ss.length sc)∧w'.cell? ⟨z,3,none⟩=some (.slice (some ⟨vb,vo,none⟩) q.vn q.vc)∧w'.cell? ⟨vb,vo+k,none⟩=some (.slice za Z.length zc))) (by kernel_rfl) ?_ (fun hHeld=>?_)
   ·refine KS.out _ ?_
    exact aD (Below.refl _ _)
   refine tk 0 ?_
   refine tk 1 ?_
   refine tk 2 ?_
   refine tk 3 ?_
   refine tk 4 ?_
   refine tk 5 ?_
   refine wpAnyH_ready (rs:=[6,11]) (by kernel_rfl) (by simp) ?_
   refine Go.Proofs.YtcgpkonfneofdaaGreatDoor.rc (fun K hK=>?_) (Go.Proofs.YtcgpkonfneofdaaGreatDoor.rc (fun K hK=>?_) AllReadyH.nil)
   ·go_simp
    go_wp2_with (go_at_call 184;refine(CX.out _ (aC hblV.out (aD (Below.refl _ _)))).mono ?_;rintro e w3 ⟨va,vc,ma,mc,rfl,hva,hb3⟩)
    have B3:Hid (Below V.heap.size V w3):=aC (aD (Below.refl _ _)) hb3
    clear hHeld
    refine hK.out _ _ (KS.out _ B3.out) (fun hHeld=>?_)
    clear hK K
    refine tk 7 ?_
    refine tk 8 ?_
    refine tk 9 ?_
    refine tk 10 ?_
    refine r1 11 (fun K hK=>?_)
    go_simp
    skip
    clear hHeld
    refine hK.out _ _ (KS.out _ (aA B3.out _)) (fun hHeld=>?_)
    clear hK K
    refine r1 12 (fun K hK=>?_)
    go_simp
    have FB:Hid (Below V.heap.size V (w3.alloc (.cells #[.bool D,.slice va Z.length vc] 148))):=aA B3.out _
    clear hHeld
    refine hK.out _ _ (KS.out _ FB.out) (fun hHeld=>?_)
    clear hK K
    refine tk 13 ?_
    refine tk 14 ?_
    refine wpAnyH_done (by kernel_rfl) ?_ _
    have g0:(w3.alloc (.cells #[.bool D,.slice va Z.length vc] 148)).cell? ⟨w3.heap.size,0,none⟩=some (.bool D):=aG _ _ 148 _ 0 _ rfl rfl
    have g1:(w3.alloc (.cells #[.bool D,.slice va Z.length vc] 148)).cell? ⟨w3.heap.size,1,none⟩=some (.slice va Z.length vc):=aG _ _ 148 _ 1 _ rfl rfl
    have FI:Hid (IsAt V.heap.size (w3.alloc (.cells #[.bool D,.slice va Z.length vc] 148)).heap.size (w3.alloc (.cells #[.bool D,.slice va Z.length vc] 148)) va Z):=(hva.below (aA (Below.refl _ _) _)).widen (by simp) (by simp)
    clear hHeld hva hb3 B3 KS CX
    generalize (w3.alloc (.cells #[.bool D,.slice va Z.length vc] 148))=WF at *
    have hresW:Hid (ResRow w.heap.size WF u3 rl):=hresV.out.below FB.out
    have hblW:Hid (Below w.heap.size w WF):=aC hblV.out FB.out
    go_wp2_with fail
    refine(aO [0] _ 1 _ (by simp) rfl (cD _ _ _ (by simp))).mono ?_
    rintro e w4 ⟨rfl,rfl⟩
    have gU:Below WF.heap.size WF (WF.alloc (.cells #[.int .i64 0] 22)):=aA (Below.refl _ _) _
    have g0:=aB gU g0
    have g1:=aB gU g1
    have hresU:Hid (ResRow w.heap.size (WF.alloc (.cells #[.int .i64 0] 22)) u3 rl):=hresW.out.below gU
    have hblU:Hid (Below w.heap.size w (WF.alloc (.cells #[.int .i64 0] 22))):=aC hblW.out gU
    have FU:Hid (IsAt V.heap.size (WF.alloc (.cells #[.int .i64 0] 22)).heap.size (WF.alloc (.cells #[.int .i64 0] 22)) va Z):=(FI.out.below gU).widen (Nat.le_refl _) gU.size
    have hVw:Hid (w.heap.size≤V.heap.size):=hblV.out.size
    clear gU hresW hblW FI FB
    generalize (WF.alloc (.cells #[.int .i64 0] 22))=U at *
    have hfar:Hid (∀{zs:List Int} {q:Option Addr},IsAt V.heap.size U.heap.size U q zs→zs≠[]→∀ad,q=some ad→u3.ownBlock≠some ad.block):=fun h hne ad had e=>by
     obtain⟨b,off,ha',h1,_,_⟩:=h 0 (List.length_pos_iff.2 hne)
     rw[had]at ha'
     injection ha' with ha'
     subst ha'
     have:=(hown.out _ e).2
     simp at this
     omega
    go_wp2_with (first
     | (at_builtin;refine jG rfl _ _ rfl w.heap.size u3 rl ⟨va,vc,D,Z⟩ rfl (hresU.out.below (aA (Below.refl _ _) _)) ⟨U.heap.size,0,none⟩ 1 rfl (wX U D _ _ rfl) (((FU.out.below (aA (Below.refl _ _) _))).widen hVw.out (by simp)) (hfar.out FU.out) hrl (Nat.le_trans hblU.out.size (by simp)) ?_;intro v' w5 hres5 hg5)
     | go_in)
    have n2:Hid (ResRow w.heap.size w5 v' (rl++[⟨va,vc,D,Z⟩])):=hres5
    have n3:Hid ((rl++[(⟨va,vc,D,Z⟩:RsA)]).map RsA.told=gL l S (k+1)):=by show _=_;rw[HT.out,List.map_append,htold.out];rfl
    have n4:Hid (Below w.heap.size w w5):=(aA hblU.out _).grown hg5 (Nat.le_trans hblU.out.size (by simp)) (fun j e=>(hown.out j e).1)
    clear hres5 hg5 hresU hblU hfar g0 g1 FU
    go_wp2
    go_roundw
    case rel=>exact⟨k+1,rl++[⟨va,vc,D,Z⟩],by omega,by go_num,n2,n3,n4⟩
    case measure=>simp[intOf];omega
   ·go_simp
    clear hHeld
    refine hK.out _ _ (KS.out _ (aD (aA (Below.refl _ _) _))) (fun hHeld=>?_)
    clear hK K
    refine r1 6 (fun K hK=>?_)
    go_simp
    go_wp2_with (go_at_call 184;refine(CX.out _ (aC hblV.out (aD (aA (Below.refl _ _) _)))).mono ?_;rintro e w3 ⟨va,vc,ma,mc,rfl,hva,hb3⟩)
    have B3:Hid (Below V.heap.size V w3):=aC (aD (aA (Below.refl _ _) _)) hb3
    have f0:w3.cell? ⟨V.heap.size,0,none⟩=some (.bool false):=aB hb3 (aG V _ 148 _ 0 _ rfl rfl)
    have f1:w3.cell? ⟨V.heap.size,1,none⟩=some (.slice none 0 0):=aB hb3 (aG V _ 148 _ 1 _ rfl rfl)
    have ff:∀j,w3.frozen? ⟨V.heap.size,j,none⟩=false:=fun j=>(hb3.frozen (p:=⟨V.heap.size,j,none⟩) (by simp)).trans (cO V _ 148 _ j rfl)
    have FB:Hid (Below V.heap.size V ((w3.setCell ⟨V.heap.size,0,none⟩ (.bool D)).setCell ⟨V.heap.size,1,none⟩ (.slice va Z.length vc))):=aI (aI B3.out (Nat.le_refl _) _) (Nat.le_refl _) _
    clear hHeld
    refine hK.out _ _ (KS.out _ B3.out) (fun hHeld=>?_)
    clear hK K
    refine tk 7 ?_
    refine tk 8 ?_
    refine tk 9 ?_
    refine tk 10 ?_
    refine r1 12 (fun K hK=>?_)
    go_simp
    skip
    clear hHeld
    refine hK.out _ _ (KS.out _ FB.out) (fun hHeld=>?_)
    clear hK K
    refine tk 13 ?_
    refine tk 14 ?_
    refine wpAnyH_done (by kernel_rfl) ?_ _
    have g0:((w3.setCell ⟨V.heap.size,0,none⟩ (.bool D)).setCell ⟨V.heap.size,1,none⟩ (.slice va Z.length vc)).cell? ⟨V.heap.size,0,none⟩=some (.bool D):=aE (by decide) (aK f0)
    have g1:((w3.setCell ⟨V.heap.size,0,none⟩ (.bool D)).setCell ⟨V.heap.size,1,none⟩ (.slice va Z.length vc)).cell? ⟨V.heap.size,1,none⟩=some (.slice va Z.length vc):=aK (aE (by decide) f1)
    have FI:Hid (IsAt V.heap.size ((w3.setCell ⟨V.heap.size,0,none⟩ (.bool D)).setCell ⟨V.heap.size,1,none⟩ (.slice va Z.length vc)).heap.size ((w3.setCell ⟨V.heap.size,0,none⟩ (.bool D)).setCell ⟨V.heap.size,1,none⟩ (.slice va Z.length vc)) va Z):=((hva.set ⟨V.heap.size,0,none⟩ _ (.inl (by simp))).set ⟨V.heap.size,1,none⟩ _ (.inl (by simp))).widen (by simp) (by simp)
    clear hHeld f0 f1 ff hva hb3 B3 KS CX
    generalize ((w3.setCell ⟨V.heap.size,0,none⟩ (.bool D)).setCell ⟨V.heap.size,1,none⟩ (.slice va Z.length vc))=WF at *
    have hresW:Hid (ResRow w.heap.size WF u3 rl):=hresV.out.below FB.out
    have hblW:Hid (Below w.heap.size w WF):=aC hblV.out FB.out
    go_wp2_with fail
    refine(aO [0] _ 1 _ (by simp) rfl (cD _ _ _ (by simp))).mono ?_
    rintro e w4 ⟨rfl,rfl⟩
    have gU:Below WF.heap.size WF (WF.alloc (.cells #[.int .i64 0] 22)):=aA (Below.refl _ _) _
    have g0:=aB gU g0
    have g1:=aB gU g1
    have hresU:Hid (ResRow w.heap.size (WF.alloc (.cells #[.int .i64 0] 22)) u3 rl):=hresW.out.below gU
    have hblU:Hid (Below w.heap.size w (WF.alloc (.cells #[.int .i64 0] 22))):=aC hblW.out gU
    have FU:Hid (IsAt V.heap.size (WF.alloc (.cells #[.int .i64 0] 22)).heap.size (WF.alloc (.cells #[.int .i64 0] 22)) va Z):=(FI.out.below gU).widen (Nat.le_refl _) gU.size
    have hVw:Hid (w.heap.size≤V.heap.size):=hblV.out.size
    clear gU hresW hblW FI FB
    generalize (WF.alloc (.cells #[.int .i64 0] 22))=U at *
    have hfar:Hid (∀{zs:List Int} {q:Option Addr},IsAt V.heap.size U.heap.size U q zs→zs≠[]→∀ad,q=some ad→u3.ownBlock≠some ad.block):=fun h hne ad had e=>by
     obtain⟨b,off,ha',h1,_,_⟩:=h 0 (List.length_pos_iff.2 hne)
     rw[had]at ha'
     injection ha' with ha'
     subst ha'
     have:=(hown.out _ e).2
     simp at this
     omega
    go_wp2_with (first
     | (at_builtin;refine jG rfl _ _ rfl w.heap.size u3 rl ⟨va,vc,D,Z⟩ rfl (hresU.out.below (aA (Below.refl _ _) _)) ⟨U.heap.size,0,none⟩ 1 rfl (wX U D _ _ rfl) (((FU.out.below (aA (Below.refl _ _) _))).widen hVw.out (by simp)) (hfar.out FU.out) hrl (Nat.le_trans hblU.out.size (by simp)) ?_;intro v' w5 hres5 hg5)
     | go_in)
    have n2:Hid (ResRow w.heap.size w5 v' (rl++[⟨va,vc,D,Z⟩])):=hres5
    have n3:Hid ((rl++[(⟨va,vc,D,Z⟩:RsA)]).map RsA.told=gL l S (k+1)):=by show _=_;rw[HT.out,List.map_append,htold.out];rfl
    have n4:Hid (Below w.heap.size w w5):=(aA hblU.out _).grown hg5 (Nat.le_trans hblU.out.size (by simp)) (fun j e=>(hown.out j e).1)
    clear hres5 hg5 hresU hblU hfar g0 g1 FU
    go_wp2
    go_roundw
    case rel=>exact⟨k+1,rl++[⟨va,vc,D,Z⟩],by omega,by go_num,n2,n3,n4⟩
    case measure=>simp[intOf];omega
  ·have hkk:k=l.length:=by omega
   have n3:Hid (rl.map RsA.told=gL l S l.length):=by
    have h:=htold.out
    rw[hkk]at h
    exact h
   have hlt':¬k<l.length:=hlt
   clear htold
   go_wp2
   go_ret
   exact⟨_,rl,rfl,hres.out,n3.out,hbl.out⟩
theorem res1_pan (m:Int) (p z:Nat) (w:World) (p0:w.cell? ⟨p,0,none⟩=some (.int .i64 m)) (p1:w.cell? ⟨p,1,none⟩=some (.slice la l.length lc)) (z0:w.cell? ⟨z,0,none⟩=some (.slice q.sa q.sn q.sc)) (z1:w.cell? ⟨z,1,none⟩=some (.slice q.ra q.rn q.rc)) (z2:w.cell? ⟨z,2,none⟩=some (.slice q.wa q.wn q.tc)) (z3:w.cell? ⟨z,3,none⟩=some (.slice q.va q.vn q.vc)) (hl:IsTxs w la l) (hs:StaQ S q w) (hE:¬mG m l S=0) :
  Calls Tryz.prog 183 #[.pointer (some ⟨p,0,none⟩),.pointer (some ⟨z,0,none⟩)] w fun e w'=>e=.panicked [{v:=.iface 22 (.int .i64 (mG m l S)),recovered:=false}]∧Below w.heap.size w w':=by
 have CV:Hid (Calls Tryz.prog 178 #[.agg #[.int .i64 m,.slice la l.length lc],.agg #[.slice q.sa q.sn q.sc,.slice q.ra q.rn q.rc,.slice q.wa q.wn q.tc,.slice q.va q.vn q.vc]] w fun e w'=>e=.returned (.tuple #[.bool (jW m l S),.int .i64 (dB m l S)])∧Below w.heap.size w w'):=over_q (m:=m) (c:=lc) hl hs
 clear hl hs
 by_cases hst:dB m l S=0
 ·have e0:jW m l S=false:=by
   cases c:jW m l S with
   | false=>rfl
   | true=>exact absurd (by unfold mG;rw[if_pos hst,c];rfl) hE
  have e1:mG m l S=8:=by unfold mG;rw[if_pos hst,e0];rfl
  rw[hst,e0]at CV
  rw[e1]
  clear e0 e1 hst hE
  go_enter Tryz.func183,Tryz.ntmps183
  go_wp2_with fail
  refine CV.out.mono ?_
  rintro e w1 ⟨rfl,hb1⟩
  go_wp2_with fail
  refine(xH _ _).mono ?_
  rintro e w2 ⟨rfl,rfl⟩
  have gA:Hid (Below w.heap.size w (w1.alloc (.cells #[.int .i64 0] 22))):=aC hb1 (aA (Below.refl _ _) _)
  clear hb1
  generalize w1.alloc (.cells #[.int .i64 0] 22)=W at *
  go_wp2_with fail
  refine(cF [8] 0 8 _ 1 _ (by simp) (by simp) (by simp) rfl (by decide) (cD _ _ _ (by simp))).mono ?_
  rintro e w3 ⟨rfl,rfl⟩
  go_wp2
  exact⟨rfl,rfl,aA gA.out _⟩
 ·have e1:mG m l S=dB m l S:=if_neg hst
  rw[e1]
  have HE:Hid (¬dB m l S=0):=hst
  clear e1 hst hE
  generalize hx:dB m l S=x at *
  go_enter Tryz.func183,Tryz.ntmps183
  go_wp2_with fail
  refine CV.out.mono ?_
  rintro e w1 ⟨rfl,hb1⟩
  go_wp2_with fail
  refine(gotB_pan _ x HE.out _).mono ?_
  rintro e w2 ⟨rfl,hb2⟩
  go_wp2
  exact⟨rfl,rfl,aC hb1 hb2⟩
theorem pI (m:Int) (w:World) (hl:IsTxs w la l) (hs:StaQ S q w) :
  Calls Tryz.prog 154 #[.agg #[.int .i64 m,.slice la l.length lc],.agg #[.slice q.sa q.sn q.sc,.slice q.ra q.rn q.rc,.slice q.wa q.wn q.tc,.slice q.va q.vn q.vc]] w fun e w'=>∃xa xc,e=.returned (.tuple #[.slice xa (kN m l S).length xc,.int .i64 (mG m l S)])∧IsRes w' xa (kN m l S)∧Below w.heap.size w w':=by
 have hmf:∀(fn:Fn) (first cap:Array Value) (w:World),(Instr.makeFunc fn first cap).run Tryz.prog w=.ok (.func fn first cap) w:=fun _ _ _ _=>rfl
 obtain⟨W,hWe⟩:∃W:World,W=((w.alloc (.cells #[.int .i64 m,.slice la l.length lc] 29)).alloc (.cells #[.slice q.sa q.sn q.sc,.slice q.ra q.rn q.rc,.slice q.wa q.wn q.tc,.slice q.va q.vn q.vc] 45)):=⟨_,rfl⟩
 have hU:Hid (Below w.heap.size w W):=by subst hWe;exact(aA (aA (Below.refl _ _) _) _)
 have p0:W.cell? ⟨w.heap.size,0,none⟩=some (.int .i64 m):=by subst hWe;exact aB (aA (Below.refl _ _) _) (aG _ _ 29 _ 0 _ rfl rfl)
 have p1:W.cell? ⟨w.heap.size,1,none⟩=some (.slice la l.length lc):=by subst hWe;exact aB (aA (Below.refl _ _) _) (aG _ _ 29 _ 1 _ rfl rfl)
 have z0:W.cell? ⟨w.heap.size+1,0,none⟩=some (.slice q.sa q.sn q.sc):=by subst hWe;exact aG _ _ 45 _ 0 _ (by simp) rfl
 have z1:W.cell? ⟨w.heap.size+1,1,none⟩=some (.slice q.ra q.rn q.rc):=by subst hWe;exact aG _ _ 45 _ 1 _ (by simp) rfl
 have z2:W.cell? ⟨w.heap.size+1,2,none⟩=some (.slice q.wa q.wn q.tc):=by subst hWe;exact aG _ _ 45 _ 2 _ (by simp) rfl
 have z3:W.cell? ⟨w.heap.size+1,3,none⟩=some (.slice q.va q.vn q.vc):=by subst hWe;exact aG _ _ 45 _ 3 _ (by simp) rfl
 have CC:Hid (Calls Tryz.prog 182 #[.func (.func 183) #[] #[.pointer (some ⟨w.heap.size,0,none⟩),.pointer (some ⟨w.heap.size+1,0,none⟩)]] W fun e w'=>∃xa xc,e=.returned (.tuple #[.slice xa (kN m l S).length xc,.int .i64 (mG m l S)])∧IsRes w' xa (kN m l S)∧Below W.heap.size W w'):=by
  have g:Below W.heap.size W (W.alloc (.cells #[.int .i64 0] 22)):=aA (Below.refl _ _) _
  have p0:=aB g p0
  have p1:=aB g p1
  have z0:=aB g z0
  have z1:=aB g z1
  have z2:=aB g z2
  have z3:=aB g z3
  have hl':=hl.below (aC hU.out g)
  have hs':=hs.below (aC hU.out g)
  by_cases hE:mG m l S=0
  ·have e1:kN m l S=gL l S l.length:=if_pos hE
   have hst:dB m l S=0:=by
    by_cases c:dB m l S=0
    ·exact c
    ·have:mG m l S=dB m l S:=if_neg c
     omega
   have hov:jW m l S=true:=by
    cases c:jW m l S with
    | true=>rfl
    | false=>
     have:mG m l S=8:=by unfold mG;rw[if_pos hst,c];rfl
     omega
   rw[e1,hE]
   refine(yB 183 _ (fun _=>rfl) (fun v w'=>∃rl,ResRow (W.heap.size+1) w' v rl∧rl.map RsA.told=gL l S l.length) W (fun v w' h=>?_) ((res1_ok la lc l q S m _ _ _ p0 p1 z0 z1 z2 z3 hl' hs' hst hov).mono ?_)).mono ?_
   ·obtain⟨rl,h1,h2⟩:=h
    exact⟨rl,h1.kept (aP w' _ 0 _) (fun j e=>by injection e with e;omega),h2⟩
   ·rintro e w' ⟨v,rl,rfl,h1,h2,hb⟩
    exact⟨v,rfl,⟨rl,by simpa using h1,h2⟩,oI hb⟩
   ·rintro e w' ⟨v,rfl,⟨rl,h1,h2⟩,hb⟩
    obtain⟨xa,xc,rfl,h⟩:=h1.res
    rw[h2]at h ⊢
    exact⟨xa,xc,rfl,h,hb⟩
  ·have e1:kN m l S=[]:=if_neg hE
   rw[e1]
   refine(yC 183 _ (fun _=>rfl) _ W (pan_up (res1_pan la lc l q S m _ _ _ p0 p1 z0 z1 z2 z3 hl' hs' hE))).mono ?_
   rintro e w' ⟨rfl,hb⟩
   exact⟨none,0,rfl,fun _ hi=>absurd hi (Nat.not_lt_zero _),hb⟩
 have HWe:Hid (W=_):=hWe
 clear p0 p1 z0 z1 z2 z3 hl hs hWe
 go_enter Tryz.func154,Tryz.ntmps154
 go_upto_region 1 with fail
 rw[←HWe.out]
 clear HWe
 go_wp2_with fail
 refine CC.out.mono ?_
 clear CC
 rintro e w1 ⟨xa,xc,rfl,h,hb⟩
 have B1:Hid (Below w.heap.size w w1):=aC hU.out hb
 have H1:Hid (IsRes w1 xa (kN m l S)):=h
 clear hb h
 go_wp2
 go_ret2
 exact⟨xa,xc,rfl,H1.out,B1.out⟩
end
end Go.Proofs.YtcgpkonfneofdaaGreatDoor
