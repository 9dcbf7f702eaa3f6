/- Conditions: those that each theorem states. -/
import Derived.Test.YtcgpkonfneofdaaGreatDoorQAudC
import Derived.Test.YtcgpkonfneofdaaGreatDoorQDkH
import Derived.Test.YtcgpkonfneofdaaGreatDoorQEithB
set_option maxRecDepth 100000
set_option maxHeartbeats 8000000
namespace Go.Proofs.YtcgpkonfneofdaaGreatDoor
open Go.RowKit Go.Proofs.Tryz
open Go.Value renaming slice->J,int->Y,bool->bo,pointer->pd,agg->ag,tuple->tu,string->sg,iface->fc
open Go.IntKind renaming i64->I
open Go.Obj renaming cells->U
open Go.Ending renaming returned->rt,panicked->pg
open Option renaming some->M,none->Q
variable {R lo a O g:Nat} {b:World} {p:Prop} {c x:List UInt8}
theorem gotSteps_ok (a:Option Addr) (k c:Nat) (w:World):Calls prog 179 #[J a k c,Y I 0] w fun e' w'=>e'=rt (J a k c)/\w'=w.alloc (U #[Y I 0] 22):=by
 go_enter func179,ntmps179;exact vr
theorem gotB_ok (b:Bool) (w:World):Calls prog 177 #[bo b,Y I 0] w fun e' w'=>e'=rt (bo b)/\w'=w.alloc (U #[Y I 0] 22):=by
 go_enter func177,ntmps177;exact vr
theorem uM (q:Q4) (w:World):Calls prog 39 #[ag #[J q.sa q.sn q.sc,J q.ra q.rn q.rc,J q.wa q.wn q.tc,J q.va q.vn q.vc],Y I 0] w fun e' w'=>e'=rt (ag #[J q.sa q.sn q.sc,J q.ra q.rn q.rc,J q.wa q.wn q.tc,J q.va q.vn q.vc])/\Below w.heap.size w w':=by
 obtain⟨W,hWe⟩:=nm (((w.alloc (U #[J q.sa q.sn q.sc,J q.ra q.rn q.rc,J q.wa q.wn q.tc,J q.va q.vn q.vc] 45)).alloc (U #[J Q 0 0,J Q 0 0,J Q 0 0,J Q 0 0] 45)));have hW:Hid (Below w.heap.size w W):=by subst hWe;exact aA (aA br _) _
 have p0:W.cell? ⟨w.heap.size,0,Q⟩=J q.sa q.sn q.sc:=by subst hWe;exact aB (aA br _) (aF _ _ 45 _ 0 _ rfl rfl)
 have p1:W.cell? ⟨w.heap.size,1,Q⟩=J q.ra q.rn q.rc:=by subst hWe;exact aB (aA br _) (aF _ _ 45 _ 1 _ rfl rfl)
 have p2:W.cell? ⟨w.heap.size,2,Q⟩=J q.wa q.wn q.tc:=by subst hWe;exact aB (aA br _) (aF _ _ 45 _ 2 _ rfl rfl)
 have p3:W.cell? ⟨w.heap.size,3,Q⟩=J q.va q.vn q.vc:=by subst hWe;exact aB (aA br _) (aF _ _ 45 _ 3 _ rfl rfl)
 have r0:W.cell? ⟨w.heap.size+1,0,Q⟩=J Q 0 0:=by subst hWe;exact aF _ _ 45 _ 0 _ sm rfl
 have r1:W.cell? ⟨w.heap.size+1,1,Q⟩=J Q 0 0:=by subst hWe;exact aF _ _ 45 _ 1 _ sm rfl
 have r2:W.cell? ⟨w.heap.size+1,2,Q⟩=J Q 0 0:=by subst hWe;exact aF _ _ 45 _ 2 _ sm rfl
 have r3:W.cell? ⟨w.heap.size+1,3,Q⟩=J Q 0 0:=by subst hWe;exact aF _ _ 45 _ 3 _ sm rfl
 have rf:∀j,W.frozen? ⟨w.heap.size+1,j,Q⟩=false:=by subst hWe;exact fun j=>aU _ _ 45 _ j sm
 have sz:Hid (W.heap.size=w.heap.size+2):=by subst hWe;show _=_;simp
 have HWe:Hid (W=_):=hWe;clear hWe;go_enter func39,ntmps39
 go_upto_region 1 with fail
 rw[<-HWe.out];clear HWe
 go_wp2_with fail
 refine(aQ [0] _ 1 _ sm rfl (dS _ _ _ rfl)).mono ?_;rintro e w' ⟨rfl,rfl⟩;have gA:Below W.heap.size W (W.alloc (U #[Y I 0] 22)):=aA br _;have p0:=aB gA p0;have p1:=aB gA p1;have p2:=aB gA p2;have p3:=aB gA p3;have r0:=aB gA r0;have r1:=aB gA r1;have r2:=aB gA r2;have r3:=aB gA r3;have rf:=fun j=>(gA.frozen (p:=⟨w.heap.size+1,j,Q⟩) (by have:=sz.out;show w.heap.size+1<_;omega)).trans (rf j)
 have BF:=Hi (aC hW.out gA);clear gA;generalize W.alloc (U #[Y I 0] 22)=V at *;obtain⟨x0,x1,x2,x3⟩:=nY q r0 r1 r2 r3;have FB:Hid (Below w.heap.size w ((((V.setCell ⟨w.heap.size+1,0,Q⟩ (J q.sa q.sn q.sc)).setCell ⟨w.heap.size+1,1,Q⟩ (J q.ra q.rn q.rc)).setCell ⟨w.heap.size+1,2,Q⟩ (J q.wa q.wn q.tc)).setCell ⟨w.heap.size+1,3,Q⟩ (J q.va q.vn q.vc))):=aG (aG (aG (aG BF.out sm _) sm _) sm _) sm _
 go_wp2_with fail
 refine bodyPost_ret (v:=ag #[J q.sa q.sn q.sc,J q.ra q.rn q.rc,J q.wa q.wn q.tc,J q.va q.vn q.vc]) (by simp[results,results39,go_sem,x0,x1,x2,x3]) rfl ⟨rfl,FB.out⟩
section
theorem cU {w:World} {b i:Nat} {q:Q4} {u:Value} (hne:R≠b) (h:w.cell? ⟨b,i,Q⟩=M u):((((w.setCell ⟨R,0,Q⟩ (J q.sa q.sn q.sc)).setCell ⟨R,1,Q⟩ (J q.ra q.rn q.rc)).setCell ⟨R,2,Q⟩ (J q.wa q.wn q.tc)).setCell ⟨R,3,Q⟩ (J q.va q.vn q.vc)).cell? ⟨b,i,Q⟩=M u:=by
 rw[nt _ _ _ _ hne,nt _ _ _ _ hne,nt _ _ _ _ hne,nt _ _ _ _ hne];exact h
variable (la:Option Addr) (lc:Nat) (l:List TxA) (pa:Option Addr) (pc:Nat) (pk:List Int)
end
section
def KO (lo a O:Nat) (S:SA) (q:Q4) (w:World):Prop:=∀w':World,(∀b,lo<=b->(b<a∨O<b)->b<w.heap.size->w'.heap[b]?=w.heap[b]?)->w.heap.size<=w'.heap.size->StaQ S q w'
theorem KO.sta {S:SA} {q:Q4} {w:World} (h:KO lo a O S q w):StaQ S q w:=h w (fun _ _ _ _=>rfl) nr
theorem KO.staF {S:SA} {q:Q4} {w:World} (h:KO lo a O S q w):StaF lo S q w:=fun w' h1 h2=>h w' (fun b hb _ hs=>h1 b hb hs) h2
theorem KO.set {S:SA} {q:Q4} {w:World} (h:KO lo a O S q w) (ha:a<=R) (hR:R<=O) (j:Nat) (u:Value):KO lo a O S q (w.setCell ⟨R,j,Q⟩ u):=fun w' h1 h2=>h w' (fun b hl hb hs=>(h1 b hl hb (by rw[n9];exact hs)).trans (eB w R j u b om)) (by rw[n9]at h2;exact h2)
theorem KO.below {S:SA} {q:Q4} {w w':World} (h:KO lo a O S q w) (hb:Below w.heap.size w w'):KO lo a O S q w':=fun w2 h1 h2=>h w2 (fun b hl hO hs=>(h1 b hl hO (nd hs hb.size)).trans (hb.block b hs)) (nh hb.size h2)
theorem StaF.ko {lo':Nat} {S:SA} {q:Q4} {w:World} (h:StaF lo' S q w) (hl:lo<=lo') (hO:O<lo'):KO lo a O S q w:=fun w' h1 h2=>h w' (fun b hb hs=>h1 b om om hs) h2
theorem StaF.ko0 {S:SA} {q:Q4} {w w':World} (h:StaF lo S q w) (hb:Below w.heap.size w w'):KO lo w.heap.size O S q w':=fun w2 h1 h2=>h w2 (fun b hl hs=>(h1 b hl (Or.inl hs) (nd hs hb.size)).trans (hb.block b hs)) (nh hb.size h2)
variable (la:Option Addr) (lc:Nat) (l:List TxA) (pa:Option Addr) (pc:Nat) (pk s:List Int)
end
theorem zq (h:p:=by
 go_wp2_with fail
 refine(dK [x] 0 x _ 1 _ sm sm sm rfl hx (dS _ _ _ sm)).mono ?_;rintro e w' ⟨rfl,rfl⟩;go_wp2;refine⟨rfl,rfl,aC hW.out (aA br _)⟩):p:=h
section
theorem gotState_pan (q:Q4) (x:Int) (hx:¬x=0) (w:World):Calls prog 39 #[ag #[J q.sa q.sn q.sc,J q.ra q.rn q.rc,J q.wa q.wn q.tc,J q.va q.vn q.vc],Y I x] w fun e' w'=>e'=pg [{v:=fc 22 (Y I x),recovered:=false}]/\Below w.heap.size w w':=by
 have hW:Hid (Below w.heap.size w ((w.alloc (U #[J q.sa q.sn q.sc,J q.ra q.rn q.rc,J q.wa q.wn q.tc,J q.va q.vn q.vc] 45)).alloc (U #[J Q 0 0,J Q 0 0,J Q 0 0,J Q 0 0] 45))):=aA (aA br _) _;go_enter func39,ntmps39
 go_upto_region 1 with fail
 generalize ((w.alloc (U #[J q.sa q.sn q.sc,J q.ra q.rn q.rc,J q.wa q.wn q.tc,J q.va q.vn q.vc] 45)).alloc (U #[J Q 0 0,J Q 0 0,J Q 0 0,J Q 0 0] 45))=W at *;exact zq
variable (la:Option Addr) (lc:Nat) (l:List TxA) (sa:Option Addr) (sc:Nat) (s:List Int) (pa:Option Addr) (pc:Nat) (pk:List Int)
end
theorem vz (h:p:=by
 have n2:=Hi hres5;have n3:Hid ((rl++[(⟨va,vc,D,Z⟩:RsA)]).map RsA.told=jZ l S (k+1)):=by show _=_;rw[HT.out,ny,htold.out];rfl
 have n4:=Hi ((aA hblU.out _).grown hg5 (nh hblU.out.size sm) (fun j e=>(hown.out j e).1));clear hres5 hg5 hresU hblU hfar g0 g1 FU;go_wp2;go_roundw
 case rel=>exact⟨k+1,rl++[⟨va,vc,D,Z⟩],by omega,by go_num,n2,n3,n4⟩
 case measure=>simp[intOf];omega):p:=h
theorem xm (h:p:=by
 go_wp2_with fail
 refine(dK [x] 0 x _ 1 _ sm sm sm rfl hx (dS _ _ _ sm)).mono ?_;rintro e w' ⟨rfl,rfl⟩;go_wp2;exact⟨rfl,rfl,aA br _⟩):p:=h
theorem Ui (h:p:=by
 obtain⟨b,off,ha',h1,_,_⟩:=h 0 (List.length_pos_iff.2 hne);rw[had]at ha';injection ha' with ha'
 subst ha';have:=(hown.out _ e).2;simp at this;omega):p:=h
theorem Vy (h:p:=by
 refine h.mono ?_;rintro e w'' ⟨va,vc,ma,mc,rfl,h1,_,h2⟩;exact⟨va,vc,ma,mc,rfl,h1,h2⟩):p:=h
section
def jZ (l:List TxA) (S:SA) (m:Nat):List (Bool×List Int):=(List.range m).map (fun n=>(dU (S.vs.getD n []) (gX l n).gs,S.vs.getD n []))
theorem resL_len (l:List TxA) (S:SA) (m:Nat):(jZ l S m).length=m:=by simp[jZ]
theorem aAf (l:List TxA) (S:SA) (m:Nat):jZ l S (m+1)=jZ l S m++[(dU (S.vs.getD m []) (gX l m).gs,S.vs.getD m [])]:=by
 unfold jZ;rw[wu,ny];rfl
def lD (m:Int) (l:List TxA) (S:SA):Int:=if cZ m l S=0 then (if lY m l S=true then 0 else 8) else cZ m l S
def iV (m:Int) (l:List TxA) (S:SA):List (Bool×List Int):=if lD m l S=0 then jZ l S l.length else []
theorem st_runE {m:Int} {l:List TxA} {S:SA} (h:cZ m l S=0) {n:Nat} (hn:n<l.length):yX (gX l n).rs (gX l n).gs (gX l n).ss (S.vs.getD n [])=0/\S.vs.length=l.length:=by
 obtain⟨sh,rfl,_,_,hc,_,hf,_⟩:=aZ h;have f:=cH.1 hf;have h1:bP (gX l n).rs (gX l n).gs (gX l n).ss=0:=eG hc n hn;have h2:iS (gX l n).rs _=0:=if_pos (f.vn n hn);refine⟨?_,f.vs⟩;unfold yX;rw[h1,h2];rfl
theorem gotB_pan (b:Bool) (x:Int) (hx:¬x=0) (w:World):Calls prog 177 #[bo b,Y I x] w fun e' w'=>e'=pg [{v:=fc 22 (Y I x),recovered:=false}]/\Below w.heap.size w w':=by
 go_enter func177,ntmps177;exact xm
variable (la:Option Addr) (lc:Nat) (l:List TxA) (q:Q4) (S:SA)
theorem res1_ok (m:Int) (p z:Nat) (w:World) (p0:w.cell? ⟨p,0,Q⟩=Y I m) (p1:w.cell? ⟨p,1,Q⟩=J la l.length lc) (z0:w.cell? ⟨z,0,Q⟩=J q.sa q.sn q.sc) (z1:w.cell? ⟨z,1,Q⟩=J q.ra q.rn q.rc) (z2:w.cell? ⟨z,2,Q⟩=J q.wa q.wn q.tc) (z3:w.cell? ⟨z,3,Q⟩=J q.va q.vn q.vc) (hl:IsTxs w la l) (hs:StaQ S q w) (hst:cZ m l S=0) (hov:lY m l S=true) :
  Calls prog 183 #[pd (M ⟨p,0,Q⟩),pd (M ⟨z,0,Q⟩)] w fun e w'=>∃v rl,e=rt v/\ResRow w.heap.size w' v rl/\rl.map RsA.told=jZ l S l.length/\Below w.heap.size w w':=by
 have hl8:l.length<=8:=by
  obtain⟨sh,_,_,_,hc,_⟩:=aZ hst;exact cJ hc
 have CV:Hid (Kr 178 #[ag #[Y I m,J la l.length lc],ag #[J q.sa q.sn q.sc,J q.ra q.rn q.rc,J q.wa q.wn q.tc,J q.va q.vn q.vc]] w (tu #[bo true,Y I 0])):=by
  have h:=over_q (m:=m) (c:=lc) hl hs;rw[hst,hov]at h;exact h
 have HL:=Hi hl;have HV:=Hi hs.2.2.2.2.vs;have HN:=Hi hs.2.2.2.1;have HST:=Hi hst;have Z3:=Hi z3;clear hl hs hst hov;go_enter func183,ntmps183
 go_wp2_with fail
 refine CV.out.mono ?_;rintro e w1 ⟨rfl,hb1⟩
 go_wp2_with fail
 refine(gotB_ok _ _).mono ?_;rintro e w2 ⟨rfl,rfl⟩;have gA:Below _ w (w1.alloc (U #[Y I 0] 22)):=aC hb1 (aA br _);have p1:=aB gA p1;have B2:=Hi gA;clear gA hb1 CV p0 z0 z1 z2 z3;generalize w1.alloc (U #[Y I 0] 22)=W at *;go_wp2;clear p1
 go_loopw [3,21] (fun v i wr=>∃(k:Nat) (rl:List RsA),k<=l.length/\i=Y I k/\Hid (ResRow w.heap.size wr v rl)/\Hid (rl.map RsA.told=jZ l S k)/\Hid (Below w.heap.size w wr)) (fun _ i _=>l.length - (intOf i).toNat)
 case atStart=>exact⟨0,[],nz,rfl,kS _ _,rfl,B2⟩
 case round=>
  clear B2;obtain⟨k,rl,hk,rfl,hres,htold,hbl⟩:=hrel;by_cases hlt:k<l.length
  ·obtain⟨b,off,rfl,hb,c0,c1,c2,hx⟩:=HL.out k hlt;have d0:=aB hbl.out c0;have d1:=aB hbl.out c1;have d2:=aB hbl.out c2;obtain⟨hrun,hvl⟩:=st_runE HST.out hlt;obtain⟨vb,vo,za,zc,hva,hvb,r0,hz,hzn⟩:=HV.out k om;have HX:Hid (IsX w (gX l k)):=hx;have HT:=Hi (aAf l S k);have HR1:=Hi (resL_len l S k);have HZ:=Hi hz;have z3:=Z3.out;have hvn:k<q.vn:=by rw[HN.out];omega
   rw[hva]at z3;change wr.cell? ⟨b,off+k*3,Q⟩=M (J (gX l k).ra (gX l k).rs.length (gX l k).rc) at d0;change wr.cell? ⟨b,off+k*3+1,Q⟩=M (J (gX l k).ga (gX l k).gs.length (gX l k).gc) at d1;change wr.cell? ⟨b,off+k*3+2,Q⟩=M (J (gX l k).sa (gX l k).ss.length (gX l k).sc) at d2;generalize gX l k=x at *;obtain⟨ra,ga,sa,rc,gc,sc,rs,gs,ss⟩:=x;simp only at d0 d1 d2 hrun HT;generalize S.vs.getD k []=Z at *;have e1:runD rs gs ss Z=dU Z gs:=if_pos hrun;have e2:runV rs gs ss Z=Z:=if_pos hrun;generalize hD:dU Z gs=D at *;obtain⟨Mm,hM⟩:=nm ((runM rs gs ss Z).length)
   have CX:Hid (∀w',Below _ w w'->Calls _ 184 _ w' fun e w''=>∃va vc ma mc,e=rt (tu #[ag #[bo D,J va _ vc],J ma Mm mc,Y I 0])/\IsAt _ w''.heap.size w'' va Z/\Below _ w' w''):=fun w' hb=>by
    have h:=qB ra ga sa rc gc sc rs gs ss za zc Z w' (HX.out.t.below hb) (HZ.out.below hb) hzn;rw[e1,e2,hrun,<-hM]at h;exact Vy
   have hrl:rl.length<=100:=by
    exact zj
   have z3:=aB hbl.out z3;have r0:=aB hbl.out r0;clear c0 c1 c2 hx hz hrun e1 e2 hM HX HZ hb hvb hzn hva
   go_upto_region 7 with fail
   have gV:Below _ wr (wr.alloc (U #[J ra rs.length rc,J ga gs.length gc,J sa ss.length sc] 95)):=aA br _;have x0':(wr.alloc (U #[J ra rs.length rc,J ga gs.length gc,J sa ss.length sc] 95)).cell? _=J ra _ rc:=aF _ _ 95 _ 0 _ rfl rfl;have x1':(wr.alloc (U #[J ra rs.length rc,J ga gs.length gc,J sa ss.length sc] 95)).cell? _=J ga _ gc:=aF _ _ 95 _ 1 _ rfl rfl;have x2':(wr.alloc (U #[J ra rs.length rc,J ga gs.length gc,J sa ss.length sc] 95)).cell? _=J sa _ sc:=aF _ _ 95 _ 2 _ rfl rfl;have z3:=aB gV z3;have r0:=aB gV r0;have hresV:=Hi (hres.out.below gV);have hblV:=Hi (aC hbl.out gV);have hown:=Hi (fun j hj=>hresV.out.1.lt j hj);clear gV d0 d1 d2 hres hbl;generalize (wr.alloc (U #[J ra rs.length rc,J ga gs.length gc,J sa ss.length sc] 95))=V at *;generalize wr.heap.size=X at *;have KS:Hid (∀w',Below _ V w'->w'.cell? _=M _/\w'.cell? _=M _/\w'.cell? _=M _/\w'.cell? _=M _/\w'.cell? _=M _):=fun w' hb=>⟨aB hb x0',aB hb x1',aB hb x2',aB hb z3,aB hb r0⟩
   clear x0' x1' x2' z3 r0;refine wp_region_held_drew (S:=(fun w'=>w'.cell? ⟨X,0,Q⟩=J ra rs.length rc/\w'.cell? ⟨X,1,Q⟩=J ga gs.length gc/\w'.cell? ⟨X,2,Q⟩=J sa ss.length sc/\w'.cell? ⟨z,3,Q⟩=J (M ⟨vb,vo,Q⟩) q.vn q.vc/\w'.cell? ⟨vb,vo+k,Q⟩=J za Z.length zc)) kr ?_ (fun hHeld=>?_)
   ·exact vt
   refine tk 0 ?_;refine tk 1 ?_;refine tk 2 ?_;refine tk 3 ?_;refine tk 4 ?_;refine tk 5 ?_;refine wpAnyH_ready (rs:=[6,11]) kr sm ?_;refine rq (fun K hK=>?_) (rq (fun K hK=>?_) AllReadyH.nil)
   focus
    go_simp
    go_wp2_with (go_at_call 184;refine(CX.out _ (aC hblV.out (aD br))).mono ?_;rintro e w3 ⟨va,vc,ma,mc,rfl,hva,hb3⟩)
    have B3:=Hi (aC (aD br) hb3);clear hHeld;refine hK.out _ _ (KS.out _ B3.out) (fun hHeld=>?_);clear hK K;refine tk 7 ?_;refine tk 8 ?_;refine tk 9 ?_;refine tk 10 ?_;refine r1 11 (fun K hK=>?_);go_simp;skip;clear hHeld;refine hK.out _ _ (KS.out _ (aA B3.out _)) (fun hHeld=>?_);clear hK K;refine r1 12 (fun K hK=>?_);go_simp;have FB:Hid (Below _ V (w3.alloc (U #[bo D,J va Z.length vc] 148))):=aA B3.out _;clear hHeld;refine hK.out _ _ (KS.out _ FB.out) (fun hHeld=>?_);clear hK K;refine tk 13 ?_;refine tk 14 ?_;refine wpAnyH_done kr ?_ _;have g0:(w3.alloc (U #[bo D,J va Z.length vc] 148)).cell? _=bo D:=aF _ _ 148 _ 0 _ rfl rfl;have g1:(w3.alloc (U #[bo D,J va Z.length vc] 148)).cell? _=J va _ vc:=aF _ _ 148 _ 1 _ rfl rfl;have FI:Hid (letI E:=w3.alloc (U #[bo D,J va Z.length vc] 148);IsAt V.heap.size E.heap.size E va Z):=(hva.below (aA br _)).widen sm sm;clear hHeld hva hb3 B3 KS CX;generalize (w3.alloc (U #[bo D,J va Z.length vc] 148))=WF at *
   rotate_left
   focus
    go_simp;clear hHeld;refine hK.out _ _ (KS.out _ (aD (aA br _))) (fun hHeld=>?_);clear hK K;refine r1 6 (fun K hK=>?_);go_simp
    go_wp2_with (go_at_call 184;refine(CX.out _ (aC hblV.out (aD (aA br _)))).mono ?_;rintro e w3 ⟨va,vc,ma,mc,rfl,hva,hb3⟩)
    have B3:=Hi (aC (aD (aA br _)) hb3);have f0:w3.cell? _=bo false:=aB hb3 (aF V _ 148 _ 0 _ rfl rfl);have f1:w3.cell? _=J Q 0 0:=aB hb3 (aF V _ 148 _ 1 _ rfl rfl);have ff:=fun j=>(hb3.frozen (p:=⟨V.heap.size,j,Q⟩) sm).trans (aU V _ 148 _ j rfl)
    have FB:Hid (Below _ V ((w3.setCell ⟨V.heap.size,0,Q⟩ (bo D)).setCell ⟨V.heap.size,1,Q⟩ (J va Z.length vc))):=aG (aG B3.out nr _) nr _;clear hHeld;refine hK.out _ _ (KS.out _ B3.out) (fun hHeld=>?_);clear hK K;refine tk 7 ?_;refine tk 8 ?_;refine tk 9 ?_;refine tk 10 ?_;refine r1 12 (fun K hK=>?_);go_simp;skip;clear hHeld;refine hK.out _ _ (KS.out _ FB.out) (fun hHeld=>?_);clear hK K;refine tk 13 ?_;refine tk 14 ?_;refine wpAnyH_done kr ?_ _;have g0:((w3.setCell _ (bo D)).setCell ⟨_,1,Q⟩ (J va Z.length vc)).cell? _=M _:=aE dc (aK f0);have g1:((w3.setCell ⟨_,0,Q⟩ (bo D)).setCell _ _).cell? _=J va Z.length vc:=aK (aE dc f1);have FI:Hid (IsAt V.heap.size ((w3.setCell ⟨V.heap.size,0,Q⟩ (bo D)).setCell ⟨V.heap.size,1,Q⟩ (J va Z.length vc)).heap.size ((w3.setCell _ (bo D)).setCell _ (J va Z.length vc)) va Z):=((hva.set ⟨V.heap.size,0,Q⟩ _ (.inl sm)).set ⟨V.heap.size,1,Q⟩ _ (.inl sm)).widen sm sm;clear hHeld f0 f1 ff hva hb3 B3 KS CX;generalize ((w3.setCell ⟨V.heap.size,0,Q⟩ (bo D)).setCell ⟨V.heap.size,1,Q⟩ (J va Z.length vc))=WF at *
   rotate_left
   all_goals
    have hresW:=Hi (hresV.out.below FB.out);have hblW:=Hi (aC hblV.out FB.out)
    go_wp2_with fail
    refine(aQ [0] _ 1 _ sm rfl (dS _ _ _ sm)).mono ?_;rintro e w4 ⟨rfl,rfl⟩;have gU:Below _ WF (WF.alloc (U #[Y I 0] 22)):=aA br _;have g0:=aB gU g0;have g1:=aB gU g1;have hresU:=Hi (hresW.out.below gU);have hblU:=Hi (aC hblW.out gU);have FU:=Hi ((FI.out.below gU).widen nr gU.size);have hVw:=Hi hblV.out.size;clear gU hresW hblW FI FB;generalize (WF.alloc (U #[Y I 0] 22))=Uuu at *
    have hfar:Hid (∀{zs:List Int} {q:Option Addr},IsAt V.heap.size Uuu.heap.size Uuu q zs->zs≠[]->∀ad,q=M ad->_≠M ad.block):=fun h hne ad had e=>by
     exact Ui
    go_wp2_with (first
     | (at_builtin;refine iW rfl _ _ rfl w.heap.size u3 rl ⟨va,vc,D,Z⟩ rfl (hresU.out.below (aA br _)) ⟨Uuu.heap.size,0,Q⟩ 1 rfl (vS Uuu D _ _ rfl) (((FU.out.below (aA br _))).widen hVw.out sm) (hfar.out FU.out) hrl (nh hblU.out.size sm) ?_;intro v' w5 hres5 hg5)
     | go_in)
    exact vz
  ·have hkk:k=l.length:=om
   have n3:Hid (rl.map RsA.told=jZ l S l.length):=by
    have h:=htold.out;rw[hkk]at h;exact h
   have hlt':=hlt;clear htold;go_wp2;go_ret;exact⟨_,rl,rfl,hres.out,n3.out,hbl.out⟩
theorem res1_pan (m:Int) (p z:Nat) (w:World) (p0:w.cell? ⟨p,0,Q⟩=Y I m) (p1:w.cell? ⟨p,1,Q⟩=J la l.length lc) (z0:w.cell? ⟨z,0,Q⟩=J q.sa q.sn q.sc) (z1:w.cell? ⟨z,1,Q⟩=J q.ra q.rn q.rc) (z2:w.cell? ⟨z,2,Q⟩=J q.wa q.wn q.tc) (z3:w.cell? ⟨z,3,Q⟩=J q.va q.vn q.vc) (hl:IsTxs w la l) (hs:StaQ S q w) (hE:¬lD m l S=0) :
  Kp 183 #[pd (M ⟨p,0,Q⟩),pd (M ⟨z,0,Q⟩)] w (lD m l S):=by
 have CV:=Hi (over_q (m:=m) (c:=lc) hl hs);clear hl hs;by_cases hst:cZ m l S=0
 ·have e0:lY m l S=false:=by
   cases c:lY m l S with
   | false=>rfl
   | true=>exact absurd (by unfold lD;rw[if_pos hst,c];rfl) hE
  have e1:lD m l S=8:=by unfold lD;rw[if_pos hst,e0];rfl
  rw[hst,e0]at CV;rw[e1];clear e0 e1 hst hE;go_enter func183,ntmps183
  go_wp2_with fail
  refine CV.out.mono ?_;rintro e w1 ⟨rfl,hb1⟩
  go_wp2_with fail
  refine(gotB_ok _ _).mono ?_;rintro e w2 ⟨rfl,rfl⟩;have gA:Hid (Below _ w (w1.alloc (U #[Y I 0] 22))):=aC hb1 (aA br _);clear hb1;generalize w1.alloc (U #[Y I 0] 22)=W at *
  go_wp2_with fail
  refine(dK [8] 0 8 _ 1 _ sm sm sm rfl dc (dS _ _ _ sm)).mono ?_;rintro e w3 ⟨rfl,rfl⟩;go_wp2;exact⟨rfl,rfl,aA gA.out _⟩
 ·have e1:lD m l S=cZ m l S:=if_neg hst;rw[e1];have HE:=Hi hst;clear e1 hst hE;generalize hx:cZ m l S=x at *;go_enter func183,ntmps183
  go_wp2_with fail
  refine CV.out.mono ?_;rintro e w1 ⟨rfl,hb1⟩
  go_wp2_with fail
  refine(gotB_pan _ x HE.out _).mono ?_;rintro e w2 ⟨rfl,hb2⟩;go_wp2;exact⟨rfl,rfl,aC hb1 hb2⟩
theorem uE (m:Int) (w:World) (hl:IsTxs w la l) (hs:StaQ S q w) :
  Calls prog 154 #[ag #[Y I m,J la l.length lc],ag #[J q.sa q.sn q.sc,J q.ra q.rn q.rc,J q.wa q.wn q.tc,J q.va q.vn q.vc]] w fun e w'=>∃xa xc,e=rt (tu #[J xa (iV m l S).length xc,Y I (lD m l S)])/\IsRes w' xa (iV m l S)/\Below w.heap.size w w':=by
 obtain⟨W,hWe⟩:=nm (((w.alloc (U #[Y I m,J la l.length lc] 29)).alloc (U #[J q.sa q.sn q.sc,J q.ra q.rn q.rc,J q.wa q.wn q.tc,J q.va q.vn q.vc] 45)));have hU:Hid (Below w.heap.size w W):=by subst hWe;exact(aA (aA br _) _)
 have p0:W.cell? ⟨w.heap.size,0,Q⟩=Y I m:=by subst hWe;exact aB (aA br _) (aF _ _ 29 _ 0 _ rfl rfl)
 have p1:W.cell? ⟨w.heap.size,1,Q⟩=J la l.length lc:=by subst hWe;exact aB (aA br _) (aF _ _ 29 _ 1 _ rfl rfl)
 have z0:W.cell? ⟨w.heap.size+1,0,Q⟩=J q.sa q.sn q.sc:=by subst hWe;exact aF _ _ 45 _ 0 _ sm rfl
 have z1:W.cell? ⟨w.heap.size+1,1,Q⟩=J q.ra q.rn q.rc:=by subst hWe;exact aF _ _ 45 _ 1 _ sm rfl
 have z2:W.cell? ⟨w.heap.size+1,2,Q⟩=J q.wa q.wn q.tc:=by subst hWe;exact aF _ _ 45 _ 2 _ sm rfl
 have z3:W.cell? ⟨w.heap.size+1,3,Q⟩=J q.va q.vn q.vc:=by subst hWe;exact aF _ _ 45 _ 3 _ sm rfl
 have CC:Hid (Calls prog 182 #[.func (.func 183) #[] #[pd (M ⟨w.heap.size,0,Q⟩),pd (M ⟨w.heap.size+1,0,Q⟩)]] W fun e w'=>∃xa xc,e=rt (tu #[J xa (iV m l S).length xc,Y I (lD m l S)])/\IsRes w' xa (iV m l S)/\Below W.heap.size W w'):=by
  have g:Below _ W (W.alloc (U #[Y I 0] 22)):=aA br _;have p0:=aB g p0;have p1:=aB g p1;have z0:=aB g z0;have z1:=aB g z1;have z2:=aB g z2;have z3:=aB g z3;have hl':=hl.below (aC hU.out g);have hs':=hs.below (aC hU.out g);by_cases hE:lD m l S=0
  ·have e1:iV m l S=jZ l S _:=if_pos hE
   have hst:cZ m l S=0:=by
    by_cases c:cZ m l S=0
    ·exact c
    ·have:lD m l S=cZ m l S:=if_neg c;omega
   have hov:lY m l S=true:=by
    cases c:lY m l S with
    | true=>rfl
    | false=>
     have:lD m l S=8:=by unfold lD;rw[if_pos hst,c];rfl
     omega
   rw[e1,hE];refine(caughtRl_ret 183 _ (fun _=>rfl) (fun v w'=>∃rl,ResRow (W.heap.size+1) w' v rl/\rl.map RsA.told=jZ l S l.length) W (fun v w' h=>?_) ((res1_ok la lc l q S m _ _ _ p0 p1 z0 z1 z2 z3 hl' hs' hst hov).mono ?_)).mono ?_
   ·obtain⟨rl,h1,h2⟩:=h;exact⟨rl,h1.kept (aP w' _ 0 _) (fun j e=>by injection e with e;omega),h2⟩
   ·rintro e w' ⟨v,rl,rfl,h1,h2,hb⟩;exact⟨v,rfl,⟨rl,by simpa using h1,h2⟩,sY hb⟩
   ·rintro e w' ⟨v,rfl,⟨rl,h1,h2⟩,hb⟩;obtain⟨xa,xc,rfl,h⟩:=h1.res;rw[h2]at h ⊢;exact⟨xa,xc,rfl,h,hb⟩
  ·have e1:iV m l S=[]:=if_neg hE;rw[e1];refine(caughtRl_pan 183 _ (fun _=>rfl) _ W (pan_up (res1_pan la lc l q S m _ _ _ p0 p1 z0 z1 z2 z3 hl' hs' hE))).mono ?_;exact VJ
 have HWe:Hid (W=_):=hWe;clear p0 p1 z0 z1 z2 z3 hl hs hWe;go_enter func154,ntmps154
 go_upto_region 1 with fail
 rw[<-HWe.out];clear HWe
 go_wp2_with fail
 refine CC.out.mono ?_;clear CC;rintro e w1 ⟨xa,xc,rfl,h,hb⟩;have B1:=Hi (aC hU.out hb);have H1:=Hi h;clear hb h;go_wp2;go_ret2;exact⟨xa,xc,rfl,H1.out,B1.out⟩
end
theorem yw (h:p:=by
 obtain⟨k0,k1,k2,k3,k4,k5,k6⟩:=(H.out.on hb).cs;exact⟨k0,k1,k2,k3,k4,k5,k6,hb⟩):p:=h
section
theorem gotB_b (b:Bool) (w:World):Calls prog 177 #[bo b,Y I 0] w fun e' w'=>e'=rt (bo b)/\Below w.heap.size w w':=(gotB_ok b w).mono fun _ _ ⟨he,hw⟩=>⟨he,by rw[hw];exact aA br _⟩
theorem gotSteps_b (a:Option Addr) (k c:Nat) (w:World):Calls prog 179 #[J a k c,Y I 0] w fun e' w'=>e'=rt (J a k c)/\Below w.heap.size w w':=(gotSteps_ok a k c w).mono fun _ _ ⟨he,hw⟩=>⟨he,by rw[hw];exact aA br _⟩
structure Clk (P:Nat) (D:Nat->Prop) (m:Int) (la:Option Addr) (lc:Nat) (l:List TxA) (ba:Option Addr) (bc:Nat) (bg:List Int) (q:Q4) (S:SA) (w:World):Prop where
 cs:w.cell? ⟨P,0,Q⟩=Y I m/\w.cell? ⟨P,1,Q⟩=J la l.length lc/\w.cell? ⟨P,2,Q⟩=J ba bg.length bc/\w.cell? ⟨P,3,Q⟩=J q.sa q.sn q.sc/\w.cell? ⟨P,4,Q⟩=J q.ra q.rn q.rc/\w.cell? ⟨P,5,Q⟩=J q.wa q.wn q.tc/\w.cell? ⟨P,6,Q⟩=J q.va q.vn q.vc
 fz:∀j,w.frozen? ⟨P,j,Q⟩=false
 tx:∀w',Below P w w'->IsTxs w' la l
 dl:∀b,D b->P<b/\b<w.heap.size
 keep:∀w',w.heap.size<=w'.heap.size->(∀b,D b->w'.heap[b]?=w.heap[b]?)->StaQ S q w'/\IsInts w' ba bg
section
variable {P:Nat} {D:Nat->Prop} {m:Int} {la:Option Addr} {lc:Nat} {l:List TxA} {ba:Option Addr} {bc:Nat} {bg:List Int} {q:Q4} {S:SA} {w w':World}
theorem Clk.pl (h:Clk P D m la lc l ba bc bg q S w):P<w.heap.size:=np w ⟨P,0,Q⟩ h.cs.1
theorem Clk.frame (h:Clk P D m la lc l ba bc bg q S w) (hP:w'.heap[P]?=w.heap[P]?) (hb:Below P w w') (hD:∀b,D b->w'.heap[b]?=w.heap[b]?):Clk P D m la lc l ba bc bg q S w':=by
 have e:∀j,w'.cell? ⟨P,j,Q⟩=w.cell? _:=fun j=>nu hP
 refine⟨?_,fun j=>?_,fun w2 h2=>h.tx w2 (hb.trans h2),fun b hd=>⟨(h.dl b hd).1,nd (h.dl b hd).2 hb.size⟩,fun w2 h2 h3=>h.keep w2 (nh hb.size h2) (fun b hd=>(h3 b hd).trans (hD b hd))⟩
 ·simp only[e];exact h.cs
 ·rw[nv hP];exact h.fz j
theorem Clk.on (h:Clk P D m la lc l ba bc bg q S w) (hb:Below w.heap.size w w'):Clk P D m la lc l ba bc bg q S w':=
 h.frame (hb.block P h.pl) (hb.mono (wi h.pl)) (fun b hd=>hb.block b (h.dl b hd).2)
theorem Clk.txs (h:Clk P D m la lc l ba bc bg q S w):IsTxs w la l:=h.tx w br
theorem Clk.sta (h:Clk P D m la lc l ba bc bg q S w):StaQ S q w:=(h.keep w nr (fun _ _=>rfl)).1
theorem Clk.bgs (h:Clk P D m la lc l ba bc bg q S w):IsInts w ba bg:=(h.keep w nr (fun _ _=>rfl)).2
end
section
variable (P:Nat) (D:Nat->Prop) (m:Int) (la:Option Addr) (lc:Nat) (l:List TxA) (ba:Option Addr) (bc:Nat) (bg:List Int) (q:Q4) (S:SA) (w:World)
theorem clkOver (h:Clk P D m la lc l ba bc bg q S w) (hst:cZ m l S=0):Kr 149 #[pd (M ⟨P,0,Q⟩)] w (bo (lY m l S)):=by
 have H:=aI h
 have KS:Hid (∀w',Below _ w w'->w'.cell? _=M _/\w'.cell? _=M _/\w'.cell? _=M _/\w'.cell? _=M _/\w'.cell? _=M _/\w'.cell? _=M _/\w'.cell? _=M _/\Hid _):=fun w' hb=>by
  exact yw
 have CO:Hid (∀w',Below _ w w'->Calls _ 178 _ w' fun e w''=>e=rt _/\Below _ w' w''):=fun w' hb=>by
  have h:=over_q (c:=lc) (m:=m) (H.out.on hb).txs (H.out.on hb).sta;rw[hst]at h;exact h
 clear h hst H;go_enter func149,ntmps149
 go_upto_region 1 with fail
 refine wp_region_held_drew (S:=(fun w'=>w'.cell? ⟨P,0,Q⟩=Y I m/\w'.cell? ⟨P,1,Q⟩=J la l.length lc/\w'.cell? ⟨P,2,Q⟩=J ba bg.length bc/\w'.cell? ⟨P,3,Q⟩=J q.sa q.sn q.sc/\w'.cell? ⟨P,4,Q⟩=J q.ra q.rn q.rc/\w'.cell? ⟨P,5,Q⟩=J q.wa q.wn q.tc/\w'.cell? ⟨P,6,Q⟩=J q.va q.vn q.vc/\Hid (Below w.heap.size w w'))) kr ?_ (fun hHeld=>?_)
 ·exact KS.out _ (aD br)
 refine tk 0 ?_;refine tk 1 ?_;refine tk 2 ?_;refine tk 3 ?_;refine tk 4 ?_;refine tk 5 ?_;refine tk 6 ?_;refine tk 7 ?_;refine r1 8 (fun K hK=>?_);go_simp;obtain⟨k0,k1,k2,k3,k4,k5,k6,hbx⟩:=hHeld
 go_wp2_with (go_at_call 178;refine(CO.out _ hbx.out).mono ?_;rintro e w1 ⟨rfl,hb1⟩)
 have B1:=Hi (aC hbx.out hb1);clear k0 k1 k2 k3 k4 k5 k6 hbx hb1;have hHeld:=trivial;clear hHeld;refine hK.out _ _ (KS.out _ B1.out) (fun hHeld=>?_);clear hK K;refine tk 9 ?_;refine tk 10 ?_;refine r1 11 (fun K hK=>?_);go_simp;obtain⟨k0,k1,k2,k3,k4,k5,k6,hbx⟩:=hHeld
 go_wp2_with (go_at_call 177;refine(gotB_b _ _).mono ?_;rintro e w2 ⟨rfl,hb2⟩)
 have B2:=Hi (aC hbx.out hb2);clear hb2;clear k0 k1 k2 k3 k4 k5 k6 hbx;have hHeld:=trivial;clear hHeld;refine hK.out _ _ (KS.out _ B2.out) (fun hHeld=>?_);clear hK K;refine tk 12 ?_;refine wpAnyH_done kr ?_ _;go_wp2;exact UM
theorem clkOpen (h:Clk P D m la lc l ba bc bg q S w) (hst:cZ m l S=0):Calls prog 150 #[pd (M ⟨P,0,Q⟩)] w fun e w'=>∃xa xc,e=rt (J xa (cK m l S).length xc)/\IsSteps w' xa (cK m l S)/\Below w.heap.size w w':=by
 have H:=aI h
 have KS:Hid (∀w',Below _ w w'->w'.cell? _=M _/\w'.cell? _=M _/\w'.cell? _=M _/\w'.cell? _=M _/\w'.cell? _=M _/\w'.cell? _=M _/\w'.cell? _=M _/\Hid _):=fun w' hb=>by
  exact yw
 have CO:Hid (∀w',Below _ w w'->Calls _ 180 _ w' fun e w''=>∃xa xc,e=rt _/\IsSteps w'' xa _/\Below _ w' w''):=fun w' hb=>by
  have h:=can_q (c:=lc) (m:=m) (H.out.on hb).txs (H.out.on hb).sta;rw[hst]at h;exact h
 clear h hst H;go_enter func150,ntmps150
 go_upto_region 1 with fail
 refine wp_region_held_drew (S:=(fun w'=>w'.cell? ⟨P,0,Q⟩=Y I m/\w'.cell? ⟨P,1,Q⟩=J la l.length lc/\w'.cell? ⟨P,2,Q⟩=J ba bg.length bc/\w'.cell? ⟨P,3,Q⟩=J q.sa q.sn q.sc/\w'.cell? ⟨P,4,Q⟩=J q.ra q.rn q.rc/\w'.cell? ⟨P,5,Q⟩=J q.wa q.wn q.tc/\w'.cell? ⟨P,6,Q⟩=J q.va q.vn q.vc/\Hid (Below w.heap.size w w'))) kr ?_ (fun hHeld=>?_)
 ·exact KS.out _ (aD br)
 refine tk 0 ?_;refine tk 1 ?_;refine tk 2 ?_;refine tk 3 ?_;refine tk 4 ?_;refine tk 5 ?_;refine tk 6 ?_;refine tk 7 ?_;refine r1 8 (fun K hK=>?_);go_simp;obtain⟨k0,k1,k2,k3,k4,k5,k6,hbx⟩:=hHeld
 go_wp2_with (go_at_call 180;refine(CO.out _ hbx.out).mono ?_;rintro e w1 ⟨xa,xc,rfl,hX,hb1⟩;have HX:=aI hX;clear hX)
 have B1:=Hi (aC hbx.out hb1);clear k0 k1 k2 k3 k4 k5 k6 hbx hb1;have hHeld:=trivial;clear hHeld;refine hK.out _ _ (KS.out _ B1.out) (fun hHeld=>?_);clear hK K;refine tk 9 ?_;refine tk 10 ?_;refine r1 11 (fun K hK=>?_);go_simp;obtain⟨k0,k1,k2,k3,k4,k5,k6,hbx⟩:=hHeld
 go_wp2_with (go_at_call 179;refine(gotSteps_b _ _ _ _).mono ?_;rintro e w2 ⟨rfl,hb2⟩)
 have B2:=Hi (aC hbx.out hb2);have HX2:=Hi (HX.out.below hb2);clear hb2;clear k0 k1 k2 k3 k4 k5 k6 hbx;have hHeld:=trivial;clear hHeld;refine hK.out _ _ (KS.out _ B2.out) (fun hHeld=>?_);clear hK K;refine tk 12 ?_;refine wpAnyH_done kr ?_ _;go_wp2;go_ret;exact⟨xa,xc,rfl,HX2.out,B2.out⟩
end
end
theorem Um (h:p:=by
 refine h.tx w' (Below.trans ⟨hg.os,hg.tape,hg.output,hg.size,fun b hl=>?_⟩ h');exact hg.block b om (fun e=>by injection e with e;omega)):p:=h
theorem Vg (h:p:=by
 obtain⟨k0,k1,k2,k3,k4,k5,k6⟩:=(H.out.on (aC hU.out hb)).cs;exact⟨k0,k1,aB hb s0,aB hb s1,aB hb s2⟩):p:=h
theorem Xo (h:p:=by
 rw[iB _ _ _ _ _ hne,iB _ _ _ _ _ hne,iB _ _ _ _ _ hne,iB _ _ _ _ _ hne]):p:=h
section
section
variable {P:Nat} {D:Nat->Prop} {m:Int} {la:Option Addr} {lc:Nat} {l:List TxA} {ba:Option Addr} {bc:Nat} {bg:List Int} {q q2:Q4} {S S2:SA} {w w1 w2:World}
theorem iB (w:World) (P j:Nat) (u:Value) (b:Nat) (h:b≠P):(w.setCell ⟨P,j,Q⟩ u).heap[b]?=w.heap[b]?:=eB w P j u b h
theorem Clk.put (h:Clk P D m la lc l ba bc bg q S w) (hb1:Below w.heap.size w w1) (ha:w.heap.size<=a) (hs:StaF a S2 q2 w1) (hb2:Below w1.heap.size w1 w2) :
  letI Z:=(((w2.setCell ⟨P,3,Q⟩ (J q2.sa q2.sn q2.sc)).setCell ⟨P,4,Q⟩ (J q2.ra q2.rn q2.rc)).setCell ⟨P,5,Q⟩ (J q2.wa q2.wn q2.tc)).setCell ⟨P,6,Q⟩ (J q2.va q2.vn q2.vc);Clk P (fun b=>D b∨(a<=b/\b<w1.heap.size)) m la lc l ba bc bg q2 S2 Z/\w.grownBy Z (M P):=by
 have hP:=h.pl;have hb:=aC hb1 hb2;obtain⟨k0,k1,k2,k3,k4,k5,k6⟩:=(h.on hb).cs
 have blk:∀b,b≠P->((((w2.setCell ⟨P,3,Q⟩ (J q2.sa q2.sn q2.sc)).setCell ⟨P,4,Q⟩ (J q2.ra q2.rn q2.rc)).setCell ⟨P,5,Q⟩ (J q2.wa q2.wn q2.tc)).setCell ⟨P,6,Q⟩ (J q2.va q2.vn q2.vc)).heap[b]?=w2.heap[b]?:=fun b hne=>by
  exact Xo
 have hsz:((((w2.setCell ⟨P,3,Q⟩ (J q2.sa q2.sn q2.sc)).setCell ⟨P,4,Q⟩ (J q2.ra q2.rn q2.rc)).setCell ⟨P,5,Q⟩ (J q2.wa q2.wn q2.tc)).setCell ⟨P,6,Q⟩ (J q2.va q2.vn q2.vc)).heap.size=w2.heap.size:=by simp only[World.size_setCell]
 have hg:w.grownBy ((((w2.setCell ⟨P,3,Q⟩ _).setCell ⟨P,4,Q⟩ _).setCell ⟨P,5,Q⟩ _).setCell ⟨P,6,Q⟩ (J q2.va q2.vn q2.vc)) (M P):=⟨hb.os,hb.tape,hb.output,by rw[hsz];exact hb.size,fun b hl hne=>by
  have hne':b≠P:=fun e=>hne (by rw[e])
  rw[blk b hne',hb.block b hl]⟩
 refine⟨⟨⟨?_,?_,?_,?_,?_,?_,?_⟩,fun j=>?_,fun w' h'=>?_,fun b hd=>?_,fun w' h1 h2=>⟨?_,?_⟩⟩,hg⟩
 ·exact aE dc (aE dc (aE dc (aE dc k0)))
 ·exact aE dc (aE dc (aE dc (aE dc k1)))
 ·exact aE dc (aE dc (aE dc (aE dc k2)))
 ·exact aE dc (aE dc (aE dc (aK k3)))
 ·exact aE dc (aE dc (aK (aE dc k4)))
 ·exact aE dc (aK (aE dc (aE dc k5)))
 ·exact aK (aE dc (aE dc (aE dc k6)))
 ·have:=(h.on hb).fz j;exact Xd
 ·exact Um
 ·rw[hsz];rcases hd with hd | ⟨h1,h2⟩
  ·exact⟨(h.dl b hd).1,nd (h.dl b hd).2 hb.size⟩
  ·exact⟨by omega,nd h2 hb2.size⟩
 ·refine hs w' (fun b hl hh=>?_) (by rw[hsz]at h1;exact nh hb2.size h1);rw[h2 b (.inr ⟨hl,hh⟩),blk b om,hb2.block b hh]
 ·refine(h.keep w' (by rw[hsz]at h1;exact nh hb.size h1) (fun b hd=>?_)).2;have:=h.dl b hd;rw[h2 b (.inl hd),blk b om,hb.block b this.2]
end
section
variable (P:Nat) (D:Nat->Prop) (m:Int) (la:Option Addr) (lc:Nat) (l:List TxA) (ba:Option Addr) (bc:Nat) (bg:List Int) (q:Q4) (S:SA) (w:World)
theorem yE (kd n k:Int) (h:Clk P D m la lc l ba bc bg q S w) (hst:gM m l S kd n k=0):Calls prog 123 #[pd (M ⟨P,0,Q⟩),ag #[Y I kd,Y I n,Y I k]] w fun e w'=>e=rt (tu #[])/\∃(q2:Q4) (D2:Nat->Prop),Clk P D2 m la lc l ba bc bg q2 (lU m l S kd n k) w'/\(∀b,D2 b->D b∨w.heap.size<=b)/\w.grownBy w' (M P):=by
 have H:=aI h;obtain⟨W,hWe⟩:=nm ((w.alloc (U #[Y I kd,Y I n,Y I k] 33)));have hU:Hid (Below w.heap.size w W):=by subst hWe;exact aA br _
 have s0:W.cell? ⟨w.heap.size,0,Q⟩=Y I kd:=by subst hWe;exact aF _ _ 33 _ 0 _ rfl rfl
 have s1:W.cell? ⟨w.heap.size,1,Q⟩=Y I n:=by subst hWe;exact aF _ _ 33 _ 1 _ rfl rfl
 have s2:W.cell? ⟨w.heap.size,2,Q⟩=Y I k:=by subst hWe;exact aF _ _ 33 _ 2 _ rfl rfl
 have HWe:=aI hWe;clear hWe;obtain⟨k0,k1,k2,k3,k4,k5,k6⟩:=(H.out.on hU.out).cs
 have KS:Hid (∀w',Below _ W w'->w'.cell? _=M _/\w'.cell? _=M _/\w'.cell? _=M _/\w'.cell? _=M _/\w'.cell? _=M _):=fun w' hb=>by
  exact Vg
 have CD:Hid (∀w',Below _ W w'->Calls _ 158 _ w' fun e w''=>∃q2:Q4,e=rt _/\StaF _ _ q2 w''/\Below _ w' w''):=fun w' hb=>by
  have h:=do_q (c:=lc) (m:=m) kd n k (H.out.on (aC hU.out hb)).txs (H.out.on (aC hU.out hb)).sta;rw[hst]at h;exact h
 have PF0:Hid (∀(w2:World) (q2:Q4),Below W.heap.size W w2->((((w2.setCell ⟨P,3,Q⟩ (J q2.sa q2.sn q2.sc)).setCell ⟨P,4,Q⟩ (J q2.ra q2.rn q2.rc)).setCell ⟨P,5,Q⟩ (J q2.wa q2.wn q2.tc)).setCell ⟨P,6,Q⟩ (J q2.va q2.vn q2.vc)).cell? ⟨P,0,Q⟩=Y I m/\((((w2.setCell ⟨P,3,Q⟩ (J q2.sa q2.sn q2.sc)).setCell ⟨P,4,Q⟩ (J q2.ra q2.rn q2.rc)).setCell ⟨P,5,Q⟩ (J q2.wa q2.wn q2.tc)).setCell ⟨P,6,Q⟩ (J q2.va q2.vn q2.vc)).cell? ⟨P,1,Q⟩=J la l.length lc/\((((w2.setCell ⟨P,3,Q⟩ (J q2.sa q2.sn q2.sc)).setCell ⟨P,4,Q⟩ (J q2.ra q2.rn q2.rc)).setCell ⟨P,5,Q⟩ (J q2.wa q2.wn q2.tc)).setCell ⟨P,6,Q⟩ (J q2.va q2.vn q2.vc)).cell? ⟨w.heap.size,0,Q⟩=Y I kd/\((((w2.setCell ⟨P,3,Q⟩ (J q2.sa q2.sn q2.sc)).setCell ⟨P,4,Q⟩ (J q2.ra q2.rn q2.rc)).setCell ⟨P,5,Q⟩ (J q2.wa q2.wn q2.tc)).setCell ⟨P,6,Q⟩ (J q2.va q2.vn q2.vc)).cell? ⟨w.heap.size,1,Q⟩=Y I n/\((((w2.setCell ⟨P,3,Q⟩ (J q2.sa q2.sn q2.sc)).setCell ⟨P,4,Q⟩ (J q2.ra q2.rn q2.rc)).setCell ⟨P,5,Q⟩ (J q2.wa q2.wn q2.tc)).setCell ⟨P,6,Q⟩ (J q2.va q2.vn q2.vc)).cell? ⟨w.heap.size,2,Q⟩=Y I k):=fun w2 q2 hb=>by
  obtain⟨k0,k1,k2,k3,k4,k5,k6⟩:=(H.out.on (aC hU.out hb)).cs;have hne:=Nat.ne_of_lt H.out.pl;refine⟨aE dc (aE dc (aE dc (aE dc k0))),aE dc (aE dc (aE dc (aE dc k1))),?_,?_,?_⟩
  ·rw[nt _ _ _ _ hne,nt _ _ _ _ hne,nt _ _ _ _ hne,nt _ _ _ _ hne];exact aB hb s0
  ·rw[nt _ _ _ _ hne,nt _ _ _ _ hne,nt _ _ _ _ hne,nt _ _ _ _ hne];exact aB hb s1
  ·rw[nt _ _ _ _ hne,nt _ _ _ _ hne,nt _ _ _ _ hne,nt _ _ _ _ hne];exact aB hb s2
 clear h hst;go_enter func123,ntmps123
 go_upto_region 1 with fail
 rw[<-HWe.out];clear HWe;refine wp_region_held_drew (S:=(fun w'=>w'.cell? ⟨P,0,Q⟩=Y I m/\w'.cell? ⟨P,1,Q⟩=J la l.length lc/\w'.cell? ⟨w.heap.size,0,Q⟩=Y I kd/\w'.cell? ⟨w.heap.size,1,Q⟩=Y I n/\w'.cell? ⟨w.heap.size,2,Q⟩=Y I k)) kr ?_ (fun hHeld=>?_)
 ·exact vt
 refine tk 0 ?_;refine tk 1 ?_;refine tk 2 ?_;refine tk 3 ?_;refine tk 4 ?_;refine tk 5 ?_;refine tk 6 ?_;refine tk 7 ?_;refine tk 9 ?_;refine r1 8 (fun K hK=>?_);go_simp;skip;clear hHeld;refine hK.out _ _ (KS.out _ (aD br)) (fun hHeld=>?_);clear hK K;refine r1 10 (fun K hK=>?_);go_simp
 go_wp2_with (go_at_call 158;refine(CD.out _ (aD br)).mono ?_;rintro e w1 ⟨q2,rfl,hsf,hb1⟩)
 have B1:=Hi (aC (aD br) hb1);have HSF:=aI hsf;clear hb1 hsf;clear hHeld;refine hK.out _ _ (KS.out _ B1.out) (fun hHeld=>?_);clear hK K;refine tk 11 ?_;refine tk 12 ?_;refine r1 13 (fun K hK=>?_);go_simp
 go_wp2_with (go_at_call 39;refine(uM q2 _).mono ?_;rintro e w2 ⟨rfl,hb2⟩)
 have B2:=Hi (aC B1.out hb2);have HB2:=aI hb2;clear hb2;clear k3 k4 k5 k6;obtain⟨_,_,_,k3,k4,k5,k6⟩:=(H.out.on (aC hU.out B2.out)).cs;have zf:=(H.out.on (aC hU.out B2.out)).fz;have PF:=Hi (PF0.out w2 q2 B2.out);clear hHeld;refine hK.out _ _ (KS.out _ B2.out) (fun hHeld=>?_);clear hK K;refine tk 14 ?_;refine tk 15 ?_;refine r1 16 (fun K hK=>?_);go_simp;skip;clear hHeld;refine hK.out _ _ (PF.out) (fun hHeld=>?_);clear hK K;refine wpAnyH_done kr ?_ _;clear k0 k1 k2 k3 k4 k5 k6 hHeld zf;go_wp2;go_end0;obtain⟨hc,hg⟩:=H.out.put (aC hU.out B1.out) (a:=W.heap.size) hU.out.size HSF.out HB2.out;exact⟨rfl,q2,_,hc,fun b hd=>hd.elim .inl (fun h=>.inr (nh hU.out.size h.1)),hg⟩
theorem aBq (kd n k:Int) (h:Clk P D m la lc l ba bc bg q S w) (hst:¬gM m l S kd n k=0):Kp 123 #[pd (M ⟨P,0,Q⟩),ag #[Y I kd,Y I n,Y I k]] w (gM m l S kd n k):=by
 have H:=aI h;obtain⟨W,hWe⟩:=nm ((w.alloc (U #[Y I kd,Y I n,Y I k] 33)));have hU:Hid (Below w.heap.size w W):=by subst hWe;exact aA br _
 have s0:W.cell? ⟨w.heap.size,0,Q⟩=Y I kd:=by subst hWe;exact aF _ _ 33 _ 0 _ rfl rfl
 have s1:W.cell? ⟨w.heap.size,1,Q⟩=Y I n:=by subst hWe;exact aF _ _ 33 _ 1 _ rfl rfl
 have s2:W.cell? ⟨w.heap.size,2,Q⟩=Y I k:=by subst hWe;exact aF _ _ 33 _ 2 _ rfl rfl
 have HWe:=aI hWe;clear hWe;obtain⟨k0,k1,k2,k3,k4,k5,k6⟩:=(H.out.on hU.out).cs
 have KS:Hid (∀w',Below _ W w'->w'.cell? _=M _/\w'.cell? _=M _/\w'.cell? _=M _/\w'.cell? _=M _/\w'.cell? _=M _):=fun w' hb=>by
  exact Vg
 have CD:Hid (∀w',Below _ W w'->Calls _ 158 _ w' fun e w''=>∃q2:Q4,e=rt _/\StaF _ _ q2 w''/\Below _ w' w''):=fun w' hb=>by
  exact do_q (c:=lc) (m:=m) kd n k (H.out.on (aC hU.out hb)).txs (H.out.on (aC hU.out hb)).sta
 clear h;have HE:=aI hst;clear hst;go_enter func123,ntmps123
 go_upto_region 1 with fail
 rw[<-HWe.out];clear HWe;refine wp_region_held_drew (S:=(fun w'=>w'.cell? ⟨P,0,Q⟩=Y I m/\w'.cell? ⟨P,1,Q⟩=J la l.length lc/\w'.cell? ⟨w.heap.size,0,Q⟩=Y I kd/\w'.cell? ⟨w.heap.size,1,Q⟩=Y I n/\w'.cell? ⟨w.heap.size,2,Q⟩=Y I k)) kr ?_ (fun hHeld=>?_)
 ·exact vt
 refine tk 0 ?_;refine tk 1 ?_;refine tk 2 ?_;refine tk 3 ?_;refine tk 4 ?_;refine tk 5 ?_;refine tk 6 ?_;refine tk 7 ?_;refine tk 9 ?_;refine r1 8 (fun K hK=>?_);go_simp;skip;clear hHeld;refine hK.out _ _ (KS.out _ (aD br)) (fun hHeld=>?_);clear hK K;refine r1 10 (fun K hK=>?_);go_simp
 go_wp2_with (go_at_call 158;refine(CD.out _ (aD br)).mono ?_;rintro e w1 ⟨q2,rfl,hsf,hb1⟩)
 have B1:=Hi (aC (aD br) hb1);clear hb1 hsf;clear hHeld;refine hK.out _ _ (KS.out _ B1.out) (fun hHeld=>?_);clear hK K;refine tk 11 ?_;refine tk 12 ?_;refine r1 13 (fun K hK=>?_);go_simp
 go_wp2_with (go_at_call 39;refine(gotState_pan q2 _ HE.out _).mono ?_;rintro e w2 ⟨rfl,hb2⟩)
 have B2:=Hi (aC hU.out (aC B1.out hb2));exact⟨rfl,rfl,B2.out⟩
end
end
section
section
variable {P:Nat} {D E:Nat->Prop} {m:Int} {la:Option Addr} {lc:Nat} {l:List TxA} {ba:Option Addr} {bc:Nat} {bg:List Int} {q:Q4} {S:SA} {w:World}
structure Own (P:Nat) (E:Nat->Prop) (sa:Option Addr) (s:List Int) (w:World):Prop where
 dl:∀b,E b->P<b/\b<w.heap.size
 keep:∀w',w.heap.size<=w'.heap.size->(∀b,E b->w'.heap[b]?=w.heap[b]?)->IsInts w' sa s
theorem Own.ints {sa:Option Addr} {s:List Int} (h:Own P E sa s w):IsInts w sa s:=h.keep w nr (fun _ _=>rfl)
theorem Own.on {sa:Option Addr} {s:List Int} {w':World} (h:Own P E sa s w) (hg:w.grownBy w' (M P)):Own P E sa s w':=
 ⟨fun b hd=>⟨(h.dl b hd).1,nd (h.dl b hd).2 hg.size⟩,fun w2 h1 h2=>h.keep w2 (nh hg.size h1) (fun b hd=>(h2 b hd).trans (hg.block b (h.dl b hd).2 (fun e=>by injection e with e;have:=(h.dl b hd).1;omega)))⟩
theorem Clk.begun {sa:Option Addr} {sc:Nat} {s:List Int} (h:Clk P D m la lc l ba bc bg q S w) (hs:Own P E sa s w) :
  letI Z:=w.setCell ⟨P,2,Q⟩ (J sa s.length sc);Clk P (fun b=>D b∨E b) m la lc l sa sc s q S Z/\w.grownBy Z (M P):=by
 have hP:=h.pl;have hg:=aP w P 2 (J sa s.length sc);obtain⟨k0,k1,k2,k3,k4,k5,k6⟩:=h.cs;have hsz:(w.setCell ⟨P,2,Q⟩ (J sa s.length sc)).heap.size=w.heap.size:=n9 _ _ _;refine⟨⟨⟨aE dc k0,aE dc k1,aK k2,aE dc k3,aE dc k4,aE dc k5,aE dc k6⟩,fun j=>?_,fun w' h'=>?_,fun b hd=>?_,fun w' h1 h2=>⟨?_,?_⟩⟩,hg⟩
 ·have:=h.fz j;exact Xd
 ·exact Um
 ·rw[hsz];exact hd.elim (h.dl b) (hs.dl b)
 ·refine(h.keep w' (by rw[hsz]at h1;exact h1) (fun b hd=>?_)).1;have:=h.dl b hd;rw[h2 b (.inl hd),iB _ _ _ _ _ om]
 ·refine hs.keep w' (by rw[hsz]at h1;exact h1) (fun b hd=>?_);have:=hs.dl b hd;rw[h2 b (.inr hd),iB _ _ _ _ _ om]
theorem cN {a c:World} (h1:a.grownBy b (M P)) (h2:b.grownBy c (M P)):a.grownBy c (M P):=
 ⟨h2.os.trans h1.os,h2.tape.trans h1.tape,h2.output.trans h1.output,nh h1.size h2.size,fun k hk hne=>(h2.block k (nd hk h1.size) hne).trans (h1.block k hk hne)⟩
theorem bG {a:World} (h:Below a.heap.size a b):a.grownBy b (M P):=⟨h.os,h.tape,h.output,h.size,fun k hk _=>h.block k hk⟩
end
section
variable (P:Nat) (D E:Nat->Prop) (m:Int) (la:Option Addr) (lc:Nat) (l:List TxA) (ba:Option Addr) (bc:Nat) (bg:List Int) (q:Q4) (S:SA) (w:World)
theorem uV (sa:Option Addr) (sc:Nat) (s:List Int) (h:Clk P D m la lc l ba bc bg q S w) (hs:Own P E sa s w) (hst:jD m l s=0):Calls prog 18 #[pd (M ⟨P,0,Q⟩),J sa s.length sc] w fun e w'=>e=rt (tu #[])/\∃(q2:Q4) (D2:Nat->Prop),Clk P D2 m la lc l sa sc s q2 (cA m l s) w'/\(∀b,D2 b->D b∨E b∨w.heap.size<=b)/\w.grownBy w' (M P):=by
 have H:=aI h;have HO:=aI hs
 have CD:Hid (∀w',Below w.heap.size w w'->Calls prog 40 #[ag #[Y I m,J la l.length lc],J sa s.length sc] w' fun e w''=>∃q2:Q4,e=rt (tu #[ag #[J q2.sa q2.sn q2.sc,J q2.ra q2.rn q2.rc,J q2.wa q2.wn q2.tc,J q2.va q2.vn q2.vc],Y I 0])/\StaF w'.heap.size (cA m l s) q2 w''/\Below w'.heap.size w' w''):=fun w' hb=>by
  have h:=wI la lc l sa sc s m w' (H.out.on hb).txs ((HO.out.on (bG hb)).ints);rw[hst]at h;exact h
 clear h hst hs;go_enter func18,ntmps18;obtain⟨k0,k1,k2,k3,k4,k5,k6⟩:=H.out.cs
 go_wp2_with fail
 refine(CD.out _ br).mono ?_;rintro e w1 ⟨q2,rfl,hsf,hb1⟩;have B1:=aI hb1;have HSF:=aI hsf;clear hb1 hsf
 go_wp2_with fail
 refine(uM q2 _).mono ?_;rintro e w2 ⟨rfl,hb2⟩;have B2:=Hi (aC B1.out hb2);have HB2:=aI hb2;clear hb2 k0 k1 k2 k3 k4 k5 k6;obtain⟨_,_,k2,k3,k4,k5,k6⟩:=(H.out.on B2.out).cs;have zf:=(H.out.on B2.out).fz
 go_upto_region 1 with fail
 clear k2 k3 k4 k5 k6 zf;obtain⟨hc,hg⟩:=H.out.put B1.out (a:=w.heap.size) nr HSF.out HB2.out;have HC:=aI hc;have HG:=aI hg;clear hc hg;generalize ((((w2.setCell ⟨P,3,Q⟩ (J q2.sa q2.sn q2.sc)).setCell ⟨P,4,Q⟩ (J q2.ra q2.rn q2.rc)).setCell ⟨P,5,Q⟩ (J q2.wa q2.wn q2.tc)).setCell ⟨P,6,Q⟩ (J q2.va q2.vn q2.vc))=X at *;obtain⟨_,_,k2,_,_,_,_⟩:=HC.out.cs;have zf:=HC.out.fz;go_wp2;go_end0;obtain⟨hc,hg⟩:=HC.out.begun (sc:=sc) (HO.out.on HG.out);exact⟨rfl,q2,_,hc,fun b hd=>hd.elim (fun h=>h.elim .inl (fun h=>.inr (.inr h.1))) (fun h=>.inr (.inl h)),cN HG.out hg⟩
end
end
section
theorem ints_set {w:World} {k:Nat} {s:List Int} {v:Int} (hk:k<s.length) (_hg:g<w.heap.size) (hc:∀j,j<s.length->w.cell? ⟨g,j,Q⟩=Y I (s.getD j 0)):∀j,j<(s.set k v).length->(w.setCell ⟨g,k,Q⟩ (Y I v)).cell? ⟨g,0+j,Q⟩=Y I ((s.set k v).getD j 0):=by
 intro j hj;rw[we]at hj;rw[nw];by_cases e:j=k
 ·subst e;rw[aK (hc j hj)];simp[List.getD,hk]
 ·rw[aE e (hc j hj)];simp[List.getD,Ne.symm e]
theorem own_of_block {P:Nat} {w:World} {s:List Int} (hP:P<g) (hg:g<w.heap.size) (hc:∀j,j<s.length->w.cell? ⟨g,0+j,Q⟩=Y I (s.getD j 0)):Own P (fun b=>b=g) (M ⟨g,0,Q⟩) s w:=
 ⟨fun b e=>by subst e;exact⟨hP,hg⟩,fun w' h1 h2 j hj=>⟨g,0,rfl,nd hg h1,by rw[nu (a:=⟨g,0+j,Q⟩) (h2 g rfl)];exact hc j hj⟩⟩
section
variable (P:Nat) (D:Nat->Prop) (m:Int) (la:Option Addr) (lc:Nat) (l:List TxA) (ba:Option Addr) (bc:Nat) (bg:List Int) (q:Q4) (S:SA) (w:World)
theorem clkPut_ok (k:Nat) (v:Int) (hk:k<8) (h8:S.st.length=8) (h:Clk P D m la lc l ba bc bg q S w) (hst:jD m l (S.st.set k v)=0):Calls prog 120 #[pd (M ⟨P,0,Q⟩),Y I k,Y I v] w fun e w'=>e=rt (tu #[])/\∃(sa:Option Addr) (sc:Nat) (q2:Q4) (D2:Nat->Prop),Clk P D2 m la lc l sa sc (S.st.set k v) q2 (cA m l (S.st.set k v)) w'/\(∀b,D2 b->D b∨w.heap.size<=b)/\w.grownBy w' (M P):=by
 have H:=aI h;have hPl:=h.pl;obtain⟨k0,k1,k2,k3,k4,k5,k6⟩:=h.cs;have hsn:=h.sta.1.trans h8;rw[hsn]at k3;have CL:=Hi (nI 8 (fun k=>Y I (S.st.getD k 0)) (fun k _=>⟨_,rfl⟩) q.sa q.sc w dc (fun k hk=>h.sta.2.2.2.2.st k om));have H8:=aI h8;have HE:=aI hst;have i1:¬(8:Int)<=(k:Int):=om;have i2:(k:Int)<8:=om;clear h h8 hst k0 k1 k2 k4 k5 k6 hsn;go_enter func120,ntmps120
 go_wp2_with fail
 refine CL.out.mono ?_;rintro e w1 ⟨a',c',g,rfl,hN,hb1⟩;obtain⟨rfl,hlo,hg,hcs,hfz⟩:=hN.e dc;have B1:=aI hb1;have HC:=aI hcs;have z0:=hcs k hk;have zf:=hfz k;have hO:=own_of_block (P:=P) (g:=g) (w:=w1.setCell ⟨g,k,Q⟩ (Y I v)) (s:=S.st.set k v) om (by rw[n9];exact hg) (ints_set (by rw[H8.out];exact hk) hg (fun j hj=>HC.out j (by rw[<-H8.out];exact hj)));have hK:=(H.out.on hb1).frame (w':=w1.setCell ⟨g,k,Q⟩ (Y I v)) (iB _ _ _ _ _ om) ⟨rfl,rfl,rfl,by rw[n9];exact nr,fun b hb=>iB _ _ _ _ _ om⟩ (fun b hd=>iB _ _ _ _ _ (by have:=(H.out.dl b hd).2;omega));have CB:=uV P D (fun b=>b=g) m la lc l ba bc bg q S _ (M ⟨g,0,Q⟩) c' (S.st.set k v) hK hO HE.out;rw[we,H8.out]at CB;have HCB:=aI CB;have HLO:=aI hlo;clear hN hb1 hcs hfz hO hK CB HC CL k3 hlo
 go_wp2_with fail
 refine HCB.out.mono ?_;rintro e w2 ⟨rfl,q2,D2,hc,hd,hgr⟩;have R1:=aI hc;have R2:=aI hd;have R3:=aI hgr;clear hc hd hgr HCB;go_wp2;go_end0;have hsz:(w1.setCell ⟨g,k,Q⟩ (Y I v)).heap.size=w1.heap.size:=n9 _ _ _;have hgr:=R3.out;have hb:=B1.out;refine⟨rfl,M ⟨g,0,Q⟩,c',q2,D2,R1.out,fun b h=>?_,⟨hgr.os.trans hb.os,hgr.tape.trans hb.tape,hgr.output.trans hb.output,nh hb.size (by have:=hgr.size;rw[hsz]at this;exact this),fun b h1 h2=>?_⟩⟩
 ·rcases R2.out b h with h | h | h
  ·exact .inl h
  ·rw[h];exact .inr HLO.out
  ·rw[hsz]at h;exact .inr (nh hb.size h)
 ·have:=HLO.out;rw[hgr.block b (by rw[hsz];exact nd h1 hb.size) h2,iB _ _ _ _ _ om,hb.block b h1]
theorem clkPut_bad (k:Nat) (v:Int) (hk:8<=k):Kp 120 #[pd (M ⟨P,0,Q⟩),Y I k,Y I v] w 3:=by
 have i1:(8:Int)<=(k:Int):=om;go_enter func120,ntmps120
 go_wp2_with fail
 refine(dR [3] _ _ _ dc dc (fun j hj=>by
  have:j=0:=by simpa using hj
  subst this;exact aF _ _ 22 _ 0 _ rfl rfl)).mono ?_
 rintro e w2 ⟨rfl,rfl⟩;go_wp2;exact⟨rfl,rfl,aA br _⟩
end
end
section
theorem gotR_ok (a:Option Addr) (k c:Nat) (w:World):Calls prog 153 #[J a k c,Y I 0] w fun e' w'=>e'=rt (J a k c)/\Below w.heap.size w w':=by
 go_enter func153,ntmps153
 go_wp2_with fail
 refine(aQ [0] _ 1 _ sm rfl (dS _ _ _ rfl)).mono ?_;rintro e w' ⟨rfl,rfl⟩;go_wp2;go_ret;exact⟨rfl,aA br _⟩
theorem gotR_pan (a:Option Addr) (k c:Nat) (x:Int) (hx:¬x=0) (w:World):Calls prog 153 #[J a k c,Y I x] w fun e' w'=>e'=pg [{v:=fc 22 (Y I x),recovered:=false}]/\Below w.heap.size w w':=by
 go_enter func153,ntmps153;exact xm
theorem gotI_ok (v:Int) (w:World):Calls prog 155 #[Y I v,Y I 0] w fun e' w'=>e'=rt (Y I v)/\Below w.heap.size w w':=(pH v 0 rfl w).mono fun _ _ ⟨he,hw⟩=>⟨he,by rw[hw];exact aA br _⟩
section
variable (P:Nat) (D:Nat->Prop) (m:Int) (la:Option Addr) (lc:Nat) (l:List TxA) (ba:Option Addr) (bc:Nat) (bg:List Int) (q:Q4) (S:SA) (w:World)
theorem clkAudit_bad (h:Clk P D m la lc l ba bc bg q S w) (hst:¬lD m l S=0):Kp 119 #[pd (M ⟨P,0,Q⟩)] w (lD m l S):=by
 have H:=aI h
 have KS:Hid (∀w',Below _ w w'->w'.cell? _=M _/\w'.cell? _=M _/\w'.cell? _=M _/\w'.cell? _=M _/\w'.cell? _=M _/\w'.cell? _=M _/\w'.cell? _=M _/\Hid _):=fun w' hb=>by
  exact yw
 have CR:Hid (∀w',Below w.heap.size w w'->Calls prog 154 #[ag #[Y I m,J la l.length lc],ag #[J q.sa q.sn q.sc,J q.ra q.rn q.rc,J q.wa q.wn q.tc,J q.va q.vn q.vc]] w' fun e w''=>∃xa xc,e=rt (tu #[J xa (iV m l S).length xc,Y I (lD m l S)])/\IsRes w'' xa (iV m l S)/\Below w'.heap.size w' w''):=fun w' hb=>by
  have h:=uE la lc l q S m w' (H.out.on hb).txs (H.out.on hb).sta;exact h
 have HE:=aI hst;clear h hst;go_enter func119,ntmps119
 go_upto_region 1 with fail
 refine wp_region_held_drew (S:=(fun w'=>w'.cell? ⟨P,0,Q⟩=Y I m/\w'.cell? ⟨P,1,Q⟩=J la l.length lc/\w'.cell? ⟨P,2,Q⟩=J ba bg.length bc/\w'.cell? ⟨P,3,Q⟩=J q.sa q.sn q.sc/\w'.cell? ⟨P,4,Q⟩=J q.ra q.rn q.rc/\w'.cell? ⟨P,5,Q⟩=J q.wa q.wn q.tc/\w'.cell? ⟨P,6,Q⟩=J q.va q.vn q.vc/\Hid (Below w.heap.size w w'))) kr ?_ (fun hHeld=>?_)
 ·exact vt
 refine tk 0 ?_;refine tk 1 ?_;refine tk 2 ?_;refine tk 3 ?_;refine tk 4 ?_;refine tk 5 ?_;refine tk 6 ?_;refine tk 7 ?_;refine r1 8 (fun K hK=>?_);go_simp;obtain⟨k0,k1,k2,k3,k4,k5,k6,hbx⟩:=hHeld
 go_wp2_with (go_at_call 154;refine(CR.out _ hbx.out).mono ?_;rintro e w1 ⟨xa,xc,rfl,hR,hb1⟩)
 have B1:=Hi (aC hbx.out hb1);clear hb1 hR;clear k0 k1 k2 k3 k4 k5 k6 hbx;have hHeld:=trivial;clear hHeld;refine hK.out _ _ (KS.out _ B1.out) (fun hHeld=>?_);clear hK K;refine tk 9 ?_;refine tk 10 ?_;refine r1 11 (fun K hK=>?_);go_simp
 go_wp2_with (go_at_call 153;refine(gotR_pan _ _ _ _ HE.out _).mono ?_;rintro e w2 ⟨rfl,hb2⟩)
 have B2:=Hi (aC B1.out hb2);exact⟨rfl,rfl,B2.out⟩
theorem clkAudit_ok (h:Clk P D m la lc l ba bc bg q S w) (hst:lD m l S=0) (ha:kI bg l S.st (iV m l S)=0):Kr 119 #[pd (M ⟨P,0,Q⟩)] w (Y I (jE bg l S.st (iV m l S))):=by
 have H:=aI h
 have KS:Hid (∀w',Below _ w w'->w'.cell? _=M _/\w'.cell? _=M _/\w'.cell? _=M _/\w'.cell? _=M _/\w'.cell? _=M _/\w'.cell? _=M _/\w'.cell? _=M _/\Hid _):=fun w' hb=>by
  exact yw
 have CR:Hid (∀w',Below w.heap.size w w'->Calls prog 154 #[ag #[Y I m,J la l.length lc],ag #[J q.sa q.sn q.sc,J q.ra q.rn q.rc,J q.wa q.wn q.tc,J q.va q.vn q.vc]] w' fun e w''=>∃xa xc,e=rt (tu #[J xa (iV m l S).length xc,Y I 0])/\IsRes w'' xa (iV m l S)/\Below w'.heap.size w' w''):=fun w' hb=>by
  have h:=uE la lc l q S m w' (H.out.on hb).txs (H.out.on hb).sta;rw[hst]at h;exact h
 have hsn:=Hi h.sta.1
 have CA:Hid (∀w',Below w.heap.size w w'->∀xa xc,IsRes w' xa (iV m l S)->Kr 156 #[J ba bg.length bc,J la l.length lc,J q.sa q.sn q.sc,J xa (iV m l S).length xc] w' (tu #[Y I (jE bg l S.st (iV m l S)),Y I 0])):=fun w' hb xa xc hR=>by
  have h:=audit_any ba la q.sa xa bc lc q.sc xc bg l S.st (iV m l S) w' (H.out.on hb).bgs (H.out.on hb).txs (H.out.on hb).sta.2.2.2.2.st hR;rw[ha,<-hsn.out]at h;exact h
 clear h hst ha;go_enter func119,ntmps119
 go_upto_region 1 with fail
 refine wp_region_held_drew (S:=(fun w'=>w'.cell? ⟨P,0,Q⟩=Y I m/\w'.cell? ⟨P,1,Q⟩=J la l.length lc/\w'.cell? ⟨P,2,Q⟩=J ba bg.length bc/\w'.cell? ⟨P,3,Q⟩=J q.sa q.sn q.sc/\w'.cell? ⟨P,4,Q⟩=J q.ra q.rn q.rc/\w'.cell? ⟨P,5,Q⟩=J q.wa q.wn q.tc/\w'.cell? ⟨P,6,Q⟩=J q.va q.vn q.vc/\Hid (Below w.heap.size w w'))) kr ?_ (fun hHeld=>?_)
 ·exact vt
 refine tk 0 ?_;refine tk 1 ?_;refine tk 2 ?_;refine tk 3 ?_;refine tk 4 ?_;refine tk 5 ?_;refine tk 6 ?_;refine tk 7 ?_;refine r1 8 (fun K hK=>?_);go_simp;obtain⟨k0,k1,k2,k3,k4,k5,k6,hbx⟩:=hHeld
 go_wp2_with (go_at_call 154;refine(CR.out _ hbx.out).mono ?_;rintro e w1 ⟨xa,xc,rfl,hR,hb1⟩)
 have B1:=Hi (aC hbx.out hb1);have HR:=aI hR;clear hb1 hR;clear k0 k1 k2 k3 k4 k5 k6 hbx;have hHeld:=trivial;clear hHeld;refine hK.out _ _ (KS.out _ B1.out) (fun hHeld=>?_);clear hK K;refine tk 9 ?_;refine tk 10 ?_;refine r1 11 (fun K hK=>?_);go_simp;obtain⟨k0,k1,k2,k3,k4,k5,k6,hbx⟩:=hHeld
 go_wp2_with (go_at_call 153;refine(gotR_ok _ _ _ _).mono ?_;rintro e w2 ⟨rfl,hb2⟩)
 have B2:=Hi (aC hbx.out hb2);have HR2:=aI (HR.out.below hb2);clear hb2;clear k0 k1 k2 k3 k4 k5 k6 hbx;have hHeld:=trivial;clear hHeld;refine hK.out _ _ (KS.out _ B2.out) (fun hHeld=>?_);clear hK K;refine tk 12 ?_;refine wpAnyH_done kr ?_ _;clear hHeld
 go_upto_region 2 with fail
 refine wp_region_held_drew (S:=(fun w'=>w'.cell? ⟨P,0,Q⟩=Y I m/\w'.cell? ⟨P,1,Q⟩=J la l.length lc/\w'.cell? ⟨P,2,Q⟩=J ba bg.length bc/\w'.cell? ⟨P,3,Q⟩=J q.sa q.sn q.sc/\w'.cell? ⟨P,4,Q⟩=J q.ra q.rn q.rc/\w'.cell? ⟨P,5,Q⟩=J q.wa q.wn q.tc/\w'.cell? ⟨P,6,Q⟩=J q.va q.vn q.vc/\Hid (Below w.heap.size w w'))) kr ?_ (fun hHeld=>?_)
 ·refine KS.out _ ?_;exact aD B2.out
 refine tk 0 ?_;refine tk 1 ?_;refine tk 2 ?_;refine tk 3 ?_;refine tk 4 ?_;refine tk 5 ?_;refine tk 6 ?_;refine tk 7 ?_;refine tk 8 ?_;refine tk 9 ?_;refine tk 10 ?_;refine tk 11 ?_;refine tk 12 ?_;refine tk 13 ?_;refine tk 14 ?_;refine r1 15 (fun K hK=>?_);go_simp;obtain⟨k0,k1,k2,k3,k4,k5,k6,hbx⟩:=hHeld
 go_wp2_with (go_at_call 156;refine(CA.out _ hbx.out xa xc (HR2.out.below (aD br))).mono ?_;rintro e w3 ⟨rfl,hb3⟩)
 have B3:=Hi (aC hbx.out hb3);clear hb3;clear k0 k1 k2 k3 k4 k5 k6 hbx;have hHeld:=trivial;clear hHeld;refine hK.out _ _ (KS.out _ B3.out) (fun hHeld=>?_);clear hK K;refine tk 16 ?_;refine tk 17 ?_;refine r1 18 (fun K hK=>?_);go_simp;obtain⟨k0,k1,k2,k3,k4,k5,k6,hbx⟩:=hHeld
 go_wp2_with (go_at_call 155;refine(gotI_ok _ _).mono ?_;rintro e w4 ⟨rfl,hb4⟩)
 have B4:=Hi (aC hbx.out hb4);clear hb4;clear k0 k1 k2 k3 k4 k5 k6 hbx;have hHeld:=trivial;clear hHeld;refine hK.out _ _ (KS.out _ B4.out) (fun hHeld=>?_);clear hK K;refine tk 19 ?_;refine wpAnyH_done kr ?_ _;clear hHeld;go_wp2;go_ret;exact⟨rfl,B4.out⟩
end
end
section
structure RX (m:Int) (l:List TxA) (X:Nat->SA) (K:Nat):Prop where
 st:∀i,i<=K->cZ m l (X i)=0
 ov:∀i,i<=K->lY m l (X i)=decide (i=K)
 can:∀i,i<K->0<(cK m l (X i)).length
 dz:∀i,i<K->gM m l (X i) (((cK m l (X i)).getD 0 (0,0,0)).1:Nat) (((cK m l (X i)).getD 0 (0,0,0)).2.1:Nat) (((cK m l (X i)).getD 0 (0,0,0)).2.2:Nat)=0
 nx:∀i,i<K->lU m l (X i) (((cK m l (X i)).getD 0 (0,0,0)).1:Nat) (((cK m l (X i)).getD 0 (0,0,0)).2.1:Nat) (((cK m l (X i)).getD 0 (0,0,0)).2.2:Nat)=X (i+1)
 few:K<=64
section
variable (P:Nat) (D:Nat->Prop) (m:Int) (la:Option Addr) (lc:Nat) (l:List TxA) (ba:Option Addr) (bc:Nat) (bg:List Int) (q:Q4) (w:World)
theorem clkRest (X:Nat->SA) (K:Nat) (h:Clk P D m la lc l ba bc bg q (X 0) w) (hX:RX m l X K):Calls prog 118 #[pd (M ⟨P,0,Q⟩)] w fun e w'=>e=rt (Y I (K:Nat))/\∃(q2:Q4) (D2:Nat->Prop),Clk P D2 m la lc l ba bc bg q2 (X K) w'/\(∀b,D2 b->D b∨w.heap.size<=b)/\w.grownBy w' (M P):=by
 have HX:=aI hX;have hK:=hX.few;have H0:=aI h;clear h hX;go_enter func118,ntmps118;go_wp2
 go_loopw [3] (fun c wr=>∃(i:Nat) (q2:Q4) (D2:Nat->Prop),i<=K/\c=Y I (i:Nat)/\Hid (Clk P D2 m la lc l ba bc bg q2 (X i) wr)/\Hid (∀b,D2 b->D b∨w.heap.size<=b)/\Hid (w.grownBy wr (M P))) (fun c _=>K - (intOf c).toNat)
 case atStart=>exact⟨0,q,D,nz,rfl,H0,fun b h=>.inl h,bG br⟩
 case round=>
  clear H0;obtain⟨i,q2,D2,hi,rfl,HC,HD,HG⟩:=hrel
  have CV:Hid (Kr 149 #[pd (M ⟨P,0,Q⟩)] wr (bo (decide (i=K)))):=by
   have:=clkOver P D2 m la lc l ba bc bg q2 (X i) wr HC.out (HX.out.st i hi);rw[HX.out.ov i hi]at this;exact this
  go_wp2_with fail
  refine CV.out.mono ?_;rintro e w1 ⟨rfl,hb1⟩;have HC1:=aI (HC.out.on hb1);have HG1:=Hi (cN HG.out (bG hb1));clear hb1 HC HG CV;by_cases hK1:i=K
  ·rw[decide_eq_true hK1]
   have HC2:Hid (Clk P D2 m la lc l ba bc bg q2 (X K) w1):=by
    show Clk _ _ _ _ _ _ _ _ _ _ _ _;rw[<-hK1];exact HC1.out
   have HK1:=aI hK1;clear hK1 HC1;go_wp2;go_ret;exact⟨by rw[HK1.out];rfl,q2,D2,HC2.out,HD.out,HG1.out⟩
  ·rw[decide_eq_false hK1];have hlt:i<K:=om;have CN:=aI (clkOpen P D2 m la lc l ba bc bg q2 (X i) w1 HC1.out (HX.out.st i hi));have h0:=HX.out.can i hlt;have HZ:=aI (HX.out.dz i hlt);have HN:=aI (HX.out.nx i hlt)
   go_wp2_with fail
   refine CN.out.mono ?_;rintro e w2 ⟨xa,xc,rfl,hs,hb2⟩;obtain⟨b,off,rfl,_,c0,c1,c2⟩:=hs 0 h0;rw[Nat.zero_mul,Nat.add_zero]at c0 c1 c2;have HC2:=aI (HC1.out.on hb2);have HG2:=Hi (cN HG1.out (bG hb2));have CD:=aI (yE P D2 m la lc l ba bc bg q2 (X i) w2 _ _ _ HC2.out HZ.out);rw[HN.out]at CD;have h0':(0:Int)<((cK m l (X i)).length:Int):=om;clear hs hb2 HC1 HG1 CN HZ HN;generalize ((cK m l (X i)).getD 0 (0,0,0)).1=x1 at *;generalize ((cK m l (X i)).getD 0 (0,0,0)).2.1=x2 at *;generalize ((cK m l (X i)).getD 0 (0,0,0)).2.2=x3 at *;generalize (cK m l (X i)).length=N at *
   go_wp2_with fail
   refine CD.out.mono ?_;rintro e w3 ⟨rfl,q3,D3,hc,hd,hg⟩;have HC3:=aI hc;have HD3:=Hi (fun b h=>(hd b h).elim (HD.out b) (fun h=>.inr (nh HG2.out.size h)));have HG3:=Hi (cN HG2.out hg);clear hc hd hg CD HC2 HG2 HD c0 c1 c2;go_wp2;go_roundw
   case rel=>exact⟨i+1,q3,D3,by omega,by go_num,HC3,HD3,HG3⟩
   case measure=>simp[intOf];omega
end
end
theorem VQ (h:p:=by
 unfold oW;rw[List.map_cons,List.map_cons,List.map_nil,Lib.join_cons];simp[Lib.joinTail]):p:=h
section
theorem vB {w:World} {ops:Array Oper} {o:Oper} {a:Act} {K:Act->World->Prop} {Qq:Exit->Act->World->Prop} {E:Prop} (hgd:o.guard=Q) (s x:Operand) (t e:TypeId)
  (ho:o.op=.call {callee:=.builtin .append,args:=#[s,x],argTypes:=#[t,t]}) (i:TypeInfo) (z:Value) (ht:prog.underlying t=M (.slice e)) (hi:prog.info? e=M i) (hz:i.zero=M z) (h1:i.size=1) (h24:i.bytes=16) (hzs:z.cells.size=1)
  (C:Nat) (v:Value) (n:Nat) (xs:List Value) (hs:a.eval s=v) (hown:w.ownsRow C e 1 v n xs)
  (ad:Addr) (c:Nat) (u:Value) (hx:a.eval x=J (M ad) 1 c) (hnews:w.cell? ad=M u) (hu:u.oneCell'=true)
  (hsm:n<=100) (hbase:C<=w.heap.size)
  (h:∀v' w',w'.ownsRow C e 1 v' (n+1) (xs++[u])->w.grownBy w' v.ownBlock->(v'.ownBlock=v.ownBlock∨v'.ownBlock=M w.heap.size)->K (a.put o.dst v') w') :
  if Region.wanted o (yielded ops a.tmps)=true then Oper.wp prog o a w K Qq else E:=by
 have hw:Region.wanted o (yielded ops a.tmps)=true:=by simp[Region.wanted,hgd]
 rw[if_pos hw]
 obtain⟨v',w',hrun,h2,h3,_,h5⟩:=run_append_own_at (P:=prog) w C t o.type e i z 1 16 ht hi hz h1 h24 hzs dc v n xs hown ad 1 c [u] rfl (fun j q hj=>by
  match j,hj with
  | 0,hj=>simp at hj;subst hj;simpa[Addr.add]using hnews
  | j+1,hj=>simp at hj) (fun q hq=>by simp at hq;subst hq;exact hu) (by unfold maxLen;omega) om hbase
 exact zt
theorem ints2 (w:World) (n j:Nat):IsInts (w.alloc (U #[Y I n,Y I j] 3)) (M ⟨w.heap.size,0,Q⟩) [(n:Int),(j:Int)]:=fun i hi=>by
 match i,hi with
 | 0,_=>exact⟨_,0,rfl,by simp,aF _ _ 3 _ 0 _ rfl rfl⟩
 | 1,_=>exact⟨_,0,rfl,by simp,aF _ _ 3 _ 1 _ rfl rfl⟩
theorem stepW_prog (kd n j:Nat) (h:kd=1∨kd=2):dO (kd,n,j)=((if (kd:Int)=1 then [114,101,97,100] else [119,114,105,116,101])++[32])++oW [(n:Int),(j:Int)]:=by
 have e:oW [(n:Int),(j:Int)]=cL n++([32]++cL j):=by
  exact VQ
 rw[e];rcases h with rfl | rfl
 ·simp[dO,rdW]
 ·simp[dO,wrW]
theorem txt2_len (n j:Nat) (h1:n<=100) (h2:j<=100):(oW [(n:Int),(j:Int)]).length<=7:=by
 have e:oW [(n:Int),(j:Int)]=cL n++([32]++cL j):=by
  exact VQ
 have a:=lQ n h1;have b:=lQ j h2;rw[e];simp;omega
section
variable (P:Nat) (D:Nat->Prop) (m:Int) (la:Option Addr) (lc:Nat) (l:List TxA) (ba:Option Addr) (bc:Nat) (bg:List Int) (q:Q4) (S:SA) (w:World)
theorem clkCan_over (h:Clk P D m la lc l ba bc bg q S w) (hst:cZ m l S=0) (ho:lY m l S=true):Kr 116 #[pd (M ⟨P,0,Q⟩)] w (aM [111,118,101,114]):=by
 have CV:=aI (clkOver P D m la lc l ba bc bg q S w h hst);rw[ho]at CV;clear h hst ho;go_enter func116,ntmps116
 go_wp2_with fail
 refine CV.out.mono ?_;exact VP
theorem yT (L:List (Nat×Nat×Nat)) (k:Nat) (h:k<L.length):(L.take (k+1)).map dO=(L.take k).map dO++[dO (L.getD k (0,0,0))]:=by
 exact Ux
theorem clkCan_steps (h:Clk P D m la lc l ba bc bg q S w) (hst:cZ m l S=0) (ho:lY m l S=false) (hL:∀p∈cK m l S,(p.1=1∨p.1=2)/\p.2.1<=100/\p.2.2<=100) (hn:(cK m l S).length<=64) (hs:Std w):Kr 116 #[pd (M ⟨P,0,Q⟩)] w (aM (fO (cK m l S))):=by
 obtain⟨i0,hi,hz0,hz1,hz2⟩:=info_parts info9;have CV:=aI (clkOver P D m la lc l ba bc bg q S w h hst);rw[ho]at CV;have CN:=Hi (fun w' hb=>clkOpen P D m la lc l ba bc bg q S w' (h.on hb) hst);have S0:=aI hs;have HL:=aI hL;clear h hst ho hs hL;generalize cK m l S=L at *;go_enter func116,ntmps116
 go_wp2_with fail
 refine CV.out.mono ?_;rintro e w1 ⟨rfl,hb1⟩;have B1:=aI hb1;clear hb1 CV
 go_wp2_with fail
 refine(CN.out _ B1.out).mono ?_;rintro e w2 ⟨xa,xc,rfl,hX,hb2⟩;have HX:=aI hX;have B2:=Hi (aC B1.out hb2);clear hX hb2 CN B1;go_wp2
 go_loopw [3,5,11] (fun v _ i wr=>∃(k:Nat) (ws:List (List UInt8)),k<=L.length/\i=Y I (k:Nat)/\Hid (ws=(L.take k).map dO)/\ws.length<=64/\Hid (wr.ownsRow w2.heap.size 9 1 v ws.length (ws.map aM))/\Hid (Below w2.heap.size w2 wr)) (fun _ _ i _=>L.length - (intOf i).toNat)
 case atStart=>exact⟨0,[],nz,rfl,rfl,nz,n8 _ _ _ _,br⟩
 case round=>
  obtain⟨k,ws,hk,rfl,HWS,hwl0,HO0,hB⟩:=hrel;by_cases hlt:k<L.length
  ·obtain⟨b,off,rfl,hlb,c0,c1,c2⟩:=HX.out k hlt;have d0:=aB hB.out c0;have d1:=aB hB.out c1;have d2:=aB hB.out c2;have HST:=aI (yT L k hlt);have hp:=HL.out (L.getD k (0,0,0)) (by simp[List.getD,hlt]);have i1:(k:Int)<(L.length:Int):=om;have hwl:ws.length<=100:=om
   have hwk:Hid (ws.length=k):=by
    show _=_;rw[HWS.out,lm,l6];omega
   clear c0 c1 c2 HX HL;obtain⟨⟨kd,n,j⟩,hP⟩:=nm (L.getD k (0,0,0));rw[<-hP]at d0 d1 d2 HST hp;clear hP;simp only at d0 d1 d2 hp;have HPW:=aI (stepW_prog kd n j hp.1);have CW:Hid (∀w:World,Calls _ 151 _ w fun e w'=>e=rt _/\Below w.heap.size w w'):=fun w=>(wordOf_any kd w).mono fun _ _ ⟨he,hw⟩=>⟨he,by rw[hw];exact br⟩
   have CT:Hid (∀(w:World) (a:Option Addr) (c:Nat),Std w->IsInts w a [(n:Int),(j:Int)]->Calls _ 117 #[J a 2 c] w fun e w'=>e=rt _/\Below _ w w'):=fun w a c hs h=>wF a c [(n:Int),(j:Int)] (fun z hz=>by
    rcases List.mem_cons.1 hz with rfl | hz
    ·omega
    ·rw[List.mem_singleton.1 hz];omega) sm w hs h
   have lt2:=txt2_len n j hp.2.1 hp.2.2;obtain⟨wd,hwd⟩:∃wd:List UInt8,wd=(if (kd:Int)=1 then [114,101,97,100] else [119,114,105,116,101]):=⟨_,rfl⟩;have lw:wd.length<=5:=by rw[hwd];split <;> decide
   rw[<-hwd]at CW HPW;clear hwd;obtain⟨tx,htx⟩:=nm (oW [(n:Int),(j:Int)]);rw[<-htx]at CT HPW lt2;clear htx;have f1:=sU wd [32] (by simp;omega);have f2:=sU (wd++[32]) tx (by simp;omega);rw[<-HPW.out]at f2;obtain⟨T2,hT2⟩:=nm (ByteArray.mk (dO (kd,n,j)).toArray);rw[<-hT2]at f2;have HT2:=aI hT2;clear hT2 HPW;unfold aM at CW CT;generalize ByteArray.mk (wd++[32]).toArray=T1 at *;generalize hWB:ByteArray.mk wd.toArray=WB at *;generalize hTB:ByteArray.mk tx.toArray=TB at *;clear hWB hTB
   go_upto_region 7 with fail
   obtain⟨W,hW⟩:=nm (wr.alloc (U #[Y I kd,Y I n,Y I j] 33));rw[<-hW];have BW:Hid (Below w.heap.size w W):=by rw[hW];exact aA (aC B2.out hB.out) _
   have HBW:Hid (Below w2.heap.size w2 W):=by rw[hW];exact aA hB.out _
   have HW2:=Hi HBW.out.size;have HWr:Hid (wr.heap.size<W.heap.size):=by show _<_;rw[hW];simp
   have HO:=aI (HO0.out.alloc (U #[Y I kd,Y I n,Y I j] 33));rw[<-hW]at HO
   have KS:Hid (∀w',Below W.heap.size W w'->w'.cell? _=Y I kd/\w'.cell? _=Y I n/\w'.cell? _=Y I j):=fun w' hb=>by
    subst hW;exact⟨aB hb (aF _ _ 33 _ 0 _ rfl rfl),aB hb (aF _ _ 33 _ 1 _ rfl rfl),aB hb (aF _ _ 33 _ 2 _ rfl rfl)⟩
   obtain⟨v,hv⟩:=nm (u3);rw[<-hv]at HO HO0 ⊢;clear hv hW
   have PF0:Hid (∀(wa w5:World),Below _ W wa->wa.grownBy w5 _->w5.cell? _=M _/\w5.cell? _=M _/\w5.cell? _=M _):=fun wa w5 hb hg=>by
    have hne:M wr.heap.size≠_:=fun e=>by have:=(HO0.out.lt _ e.symm).2;omega
    have hlt:wr.heap.size<wa.heap.size:=nd HWr.out hb.size;obtain⟨x0,x1,x2⟩:=KS.out wa hb;exact⟨(nu (a:=⟨wr.heap.size,0,Q⟩) (hg.block _ hlt hne)).trans x0,(nu (a:=⟨wr.heap.size,1,Q⟩) (hg.block _ hlt hne)).trans x1,(nu (a:=⟨wr.heap.size,2,Q⟩) (hg.block _ hlt hne)).trans x2⟩
   clear d0 d1 d2 HO0;refine wp_region_held_drew (S:=(fun w'=>w'.cell? ⟨wr.heap.size,0,Q⟩=Y I kd/\w'.cell? ⟨wr.heap.size,1,Q⟩=Y I n/\w'.cell? ⟨wr.heap.size,2,Q⟩=Y I j)) kr ?_ (fun hHeld=>?_)
   ·exact KS.out _ (aD br)
   refine tk 0 ?_;refine tk 1 ?_;refine tk 2 ?_;refine tk 5 ?_;refine tk 6 ?_;refine tk 7 ?_;refine tk 8 ?_;refine wpAnyH_ready (rs:=[3,9]) kr sm ?_;refine rq (fun K hK=>?_) (rq (fun K hK=>?_) (AllReadyH.nil))
   focus
    go_simp
    go_wp2_with (go_at_call 151;refine(CW.out _).mono ?_;rintro e w3 ⟨rfl,hb3⟩)
    have B3:=Hi (aC (aD (n7 W.heap.size W)) hb3);have HB3:=aI hb3;clear hb3;clear hHeld;refine hK.out _ _ (KS.out _ B3.out) (fun hHeld=>?_);clear hK K;refine tk 4 ?_;refine r1 9 (fun K hK=>?_);go_simp;have B9:=aI (aA B3.out (U #[Y I n,Y I j] 3));clear hHeld;refine hK.out _ _ (KS.out _ B9.out) (fun hHeld=>?_);clear hK K;refine r1 10 (fun K hK=>?_);go_simp
    go_wp2_with (go_at_call 117;refine(CT.out _ _ _ (S0.out.on (aC BW.out B9.out)) (ints2 _ _ _)).mono ?_;rintro e w4 ⟨rfl,hb4⟩)
    have B4:=Hi (aC B9.out hb4)
   rotate_left
   focus
    go_simp;have B9:=aI (aA (aD (n7 W.heap.size W)) (U #[Y I n,Y I j] 3));clear hHeld;refine hK.out _ _ (KS.out _ B9.out) (fun hHeld=>?_);clear hK K;refine r1 3 (fun K hK=>?_);go_simp
    go_wp2_with (go_at_call 151;refine(CW.out _).mono ?_;rintro e w3 ⟨rfl,hb3⟩)
    have B3:=Hi (aC B9.out hb3);have HB3:=aI hb3;clear hb3;clear hHeld;refine hK.out _ _ (KS.out _ B3.out) (fun hHeld=>?_);clear hK K;refine tk 4 ?_;refine r1 10 (fun K hK=>?_);go_simp
    go_wp2_with (go_at_call 117;refine(CT.out _ _ _ (S0.out.on (aC BW.out B3.out)) ((ints2 W.drew n j).below HB3.out)).mono ?_;rintro e w4 ⟨rfl,hb4⟩)
    have B4:=Hi (aC B3.out hb4)
   rotate_left
   all_goals
    clear hb4;clear hHeld;refine hK.out _ _ (KS.out _ B4.out) (fun hHeld=>?_);clear hK K;refine tk 11 ?_;refine r1 12 (fun K hK=>?_);go_simp;have B5:=aI (aA B4.out (U #[sg T2] 9));have HO5:=aI ((bY HO.out B4.out).alloc (U #[sg T2] 9));clear hHeld;refine hK.out _ _ (KS.out _ B5.out) (fun hHeld=>?_);clear hK K;refine r1 13 (fun K hK=>?_);refine vB (by rfl) _ _ 55 9 (by rfl) i0 _ underlying55 hi hz0 hz1 hz2 rfl w2.heap.size v ws.length _ (by rfl) HO5.out ⟨w4.heap.size,0,Q⟩ 1 (sg T2) (by rfl) (aF _ _ 9 _ 0 _ rfl rfl) rfl hwl (nh HW2.out B5.out.size) ?_;intro v' w5 ho5 hg5 _;have HO6:=aI ho5;have PF:=aI (PF0.out _ w5 B5.out hg5);have BF:=Hi (((HBW.out).trans (B5.out.mono HW2.out)).grown hg5 (nh HW2.out B5.out.size) (fun j hj=>(HO5.out.lt j hj).1));clear ho5 hg5;clear hHeld;refine hK.out _ _ (PF.out) (fun hHeld=>?_);clear hK K;refine tk 14 ?_;refine wpAnyH_done kr ?_ _
    have R:Hid (w5.ownsRow w2.heap.size 9 1 v' (ws++[dO (kd,n,j)]).length ((ws++[dO (kd,n,j)]).map aM)):=by
     show World.ownsRow _ _ _ _ _ _ _;have:=HO6.out;rw[HT2.out]at this;rw[nj,ny];exact this
    have HW':Hid (ws++[dO (kd,n,j)]=(L.take (k+1)).map dO):=by
     show _=_;rw[HST.out,HWS.out]
    have hl1:(ws++[dO (kd,n,j)]).length<=64:=by rw[nj,hwk.out,lz];omega
    clear hHeld;go_wp2;go_roundw
    case rel=>exact⟨k+1,ws++[dO (kd,n,j)],by omega,by go_num,HW',hl1,R,BF⟩
    case measure=>simp[intOf];omega
  ·have hkk:k=L.length:=om;have i1:¬(k:Int)<(L.length:Int):=om;have hW:ws=L.map dO:=by rw[HWS.out,hkk,ld]
   have hbl:∀x∈ws,_<=20:=fun x hx=>by
    rw[hW]at hx;obtain⟨p,hp,rfl⟩:=List.mem_map.1 hx;have:=HL.out p hp;exact aAb p this.2.1 this.2.2
   have CJ:=aI (join_own ws [59,32] wr w2.heap.size u3 HO0.out om (by
    have:=join_len [59,32] 20 ws hbl;have h2:ws.length*(20 + [59,32].length)<=64*22:=l5 hwl0 nr;omega))
   have HR:Hid (Lib.join ws [59,32]=fO L):=by show _=_;rw[hW];rfl
   clear HO0 HWS hW hbl HL
   go_wp2_with fail
   refine CJ.out.mono ?_;rintro e w5 ⟨rfl,hb5⟩;have RB:=Hi (aC B2.out (aC hB.out hb5));clear hb5 CJ;go_wp2;go_ret;exact⟨by rw[<-HR.out];rfl,RB.out⟩
end
end
theorem zn (h:p:=by
 go_enter func82,ntmps82
 go_wp2_with fail
 refine CC.out.mono ?_;rintro e w1 ⟨rfl,hb1⟩;have B1:=aI hb1;clear hb1 CC;go_wp2;go_ret;exact⟨rfl,q,D,H.out.on B1.out,fun b h=>.inl h,bG B1.out⟩):p:=h
theorem Uw (h:p:=by
 go_wp2_with fail
 refine CC.out.mono ?_;rintro e w1 ⟨rfl,hb1⟩;have B1:=aI hb1;clear hb1 CC;go_wp2;exact⟨rfl,rfl,by decide,B1.out⟩):p:=h
section
def nxt (m:Int) (l:List TxA) (S:SA):SA:=lU m l S (((cK m l S).getD 0 (0,0,0)).1:Nat) (((cK m l S).getD 0 (0,0,0)).2.1:Nat) (((cK m l S).getD 0 (0,0,0)).2.2:Nat)
def itr (m:Int) (l:List TxA) (S:SA):Nat->SA
 | 0=>S
 | i+1=>nxt m l (itr m l S i)
def rNf (m:Int) (l:List TxA):Nat->SA->Nat
 | 0,_=>0
 | f+1,S=>if lY m l S=true then 0 else rNf m l f (nxt m l S)+1
def rN (m:Int) (l:List TxA) (S:SA):Nat:=rNf m l 65 S
structure OkDesk (m:Int) (l:List TxA) (bg:List Int) (S:SA):Prop where
 st:cZ m l S=0
 s8:S.st.length=8
 i64:∀z∈S.st,-9223372036854775808<=z/\z<=9223372036854775807
 rx:RX m l (itr m l S) (rN m l S)
 cl:∀p∈cK m l S,(p.1=1∨p.1=2)/\p.2.1<=100/\p.2.2<=100
 cn:(cK m l S).length<=64
 au:lD m l S=0->kI bg l S.st (iV m l S)=0
 av : -1<=jE bg l S.st (iV m l S)/\jE bg l S.st (iV m l S)<=100
 pl:∀k v,jD m l (S.st.set k v)=0
def eU (m:Int) (l:List TxA) (bg:List Int) (S:SA) (x:List UInt8):Except Int (List UInt8×SA):=
 if x=[99,97,110] then .ok (if lY m l S=true then [111,118,101,114] else fO (cK m l S),S)
 else if x=[115,116,111,114,101] then .ok (oW S.st,S)
 else if x=[114,101,115,116] then .ok (cL (rN m l S:Nat),itr m l S (rN m l S))
 else if x=[97,117,100,105,116] then (if lD m l S=0 then .ok (cL (jE bg l S.st (iV m l S)),S) else .error (lD m l S))
 else .error 1
def TelP (P:Nat) (D:Nat->Prop) (m:Int) (la:Option Addr) (lc:Nat) (l:List TxA) (ba:Option Addr) (bc:Nat) (bg:List Int) (w:World) (r:Except Int (List UInt8×SA)) (e:Ending) (w':World):Prop:=match r with
 | .ok p=>e=rt (aM p.1)/\∃(q2:Q4) (D2:Nat->Prop),Clk P D2 m la lc l ba bc bg q2 p.2 w'/\(∀b,D2 b->D b∨w.heap.size<=b)/\w.grownBy w' (M P)
 | .error x=>e=pg [{v:=fc 22 (Y I x),recovered:=false}]/\¬x=0/\Below w.heap.size w w'
theorem gotS_pan (s:ByteArray) (x:Int) (hx:¬x=0) (w:World):Calls prog 124 #[sg s,Y I x] w fun e' w'=>e'=pg [{v:=fc 22 (Y I x),recovered:=false}]/\Below w.heap.size w w':=by
 go_enter func124,ntmps124;exact xm
theorem qN (w:World):Calls prog 84 #[] w fun e' w'=>e'=pg [{v:=fc 22 (Y I 1),recovered:=false}]/\Below w.heap.size w w':=by
 have C:=aI (gotS_pan ⟨#[]⟩ 1 dc w);go_enter func84,ntmps84
 go_wp2_with fail
 refine C.out.mono ?_;rintro e w' ⟨rfl,hb⟩;have HB:=aI hb;clear hb C;go_wp2;exact⟨rfl,rfl,HB.out⟩
theorem ne_str2 (h:¬x=c):¬(ByteArray.mk x.toArray).toList=c:=by
 rw[ByteArray.toList_eq];exact h
theorem dV (h:¬x=c):((ByteArray.mk x.toArray).toList==c)=false:=by
 have:=ne_str2 h;exact Xd
section
variable (P:Nat) (D:Nat->Prop) (m:Int) (la:Option Addr) (lc:Nat) (l:List TxA) (ba:Option Addr) (bc:Nat) (bg:List Int) (q:Q4) (S:SA) (w:World)
theorem clkTell (x:List UInt8) (h:Clk P D m la lc l ba bc bg q S w) (hk:OkDesk m l bg S) (hs:Std w) (hs2:∀w',Below P w w'->Std w'):Calls prog 82 #[pd (M ⟨P,0,Q⟩),aM x] w fun e w'=>TelP P D m la lc l ba bc bg w (eU m l bg S x) e w':=by
 have H:=aI h;have HK:=aI hk;have S0:=aI hs;have HS2:=aI hs2;clear h hk hs hs2;by_cases h1:x=[99,97,110]
 ·have e1:eU m l bg S x=.ok (if lY m l S=true then [111,118,101,114] else fO _,S):=if_pos h1
  have CC:Hid (Kr 116 #[pd (M ⟨P,0,Q⟩)] w (aM (if lY m l S=true then [111,118,101,114] else fO (cK m l S)))):=by
   by_cases ho:lY m l S=true
   ·rw[if_pos ho];exact clkCan_over P D m la lc l ba bc bg q S w H.out HK.out.st ho
   ·rw[if_neg ho];exact clkCan_steps P D m la lc l ba bc bg q S w H.out HK.out.st (by simpa using ho) HK.out.cl HK.out.cn S0.out
  rw[e1];subst h1;generalize (if lY m l S=true then [111,118,101,114] else fO (cK m l S))=T at *;exact zn
 by_cases h2:x=[115,116,111,114,101]
 ·have e1:eU m l bg S x=.ok (oW S.st,S):=by rw[eU,if_neg h1,if_pos h2]
  rw[e1];subst h2;obtain⟨k0,k1,k2,k3,k4,k5,k6⟩:=H.out.cs;have hsn:=H.out.sta.1;rw[hsn]at k3;have CC:=aI (wF q.sa q.sc S.st HK.out.i64 (by rw[HK.out.s8];decide) w S0.out H.out.sta.2.2.2.2.st);clear k0 k1 k2 k4 k5 k6 hsn h1 e1;generalize oW S.st=T at *;exact zn
 by_cases h3:x=[114,101,115,116]
 ·have e1:eU m l bg S x=.ok (cL (rN m l S:Nat),itr m l S (rN m l S)):=by rw[eU,if_neg h1,if_neg h2,if_pos h3]
  rw[e1];subst h3;have hf:=HK.out.rx.few;have CC:=aI (clkRest P D m la lc l ba bc bg q w (itr m l S) (rN m l S) H.out HK.out.rx);clear h1 h2 e1;generalize rN m l S=K at *;go_enter func82,ntmps82
  go_wp2_with fail
  refine CC.out.mono ?_;rintro e w1 ⟨rfl,q2,D2,hc,hd,hg⟩;have HC:=aI hc;have HD:=aI hd;have HG:=aI hg;have hW:Below P w w1:=⟨hg.os,hg.tape,hg.output,hg.size,fun b hb=>hg.block b (Nat.lt_trans hb H.out.pl) (fun e=>by injection e with e;omega)⟩;have CI:=aI (tM (K:Nat) om om w1 (HS2.out w1 hW));clear hc hd hg CC hW
  go_wp2_with fail
  refine CI.out.mono ?_;rintro e w2 ⟨rfl,hb2⟩;have B2:=aI hb2;clear hb2 CI;go_wp2;go_ret;exact⟨rfl,q2,D2,HC.out.on B2.out,HD.out,cN HG.out (bG B2.out)⟩
 by_cases h4:x=[97,117,100,105,116]
 ·by_cases hr:lD m l S=0
  ·have e1:eU m l bg S x=.ok (cL (jE bg l S.st (iV m l S)),S):=by rw[eU,if_neg h1,if_neg h2,if_neg h3,if_pos h4,if_pos hr]
   rw[e1];subst h4;have hv:=HK.out.av;have CC:=aI (clkAudit_ok P D m la lc l ba bc bg q S w H.out hr (HK.out.au hr));clear h1 h2 h3 e1 hr;generalize jE bg l S.st (iV m l S)=A at *;go_enter func82,ntmps82
   go_wp2_with fail
   refine CC.out.mono ?_;rintro e w1 ⟨rfl,hb1⟩;have B1:=aI hb1;have CI:=aI (tM A om om w1 (S0.out.on hb1));clear hb1 CC
   go_wp2_with fail
   refine CI.out.mono ?_;rintro e w2 ⟨rfl,hb2⟩;have B2:=Hi (aC B1.out hb2);clear hb2 CI;go_wp2;go_ret;exact⟨rfl,q,D,H.out.on B2.out,fun b h=>.inl h,bG B2.out⟩
  ·have e1:eU m l bg S x=.error (lD m l S):=by rw[eU,if_neg h1,if_neg h2,if_neg h3,if_pos h4,if_neg hr]
   rw[e1];subst h4;have CC:=aI (clkAudit_bad P D m la lc l ba bc bg q S w H.out hr);have HR:=aI hr;clear h1 h2 h3 e1 hr;generalize lD m l S=A at *;go_enter func82,ntmps82
   go_wp2_with fail
   refine CC.out.mono ?_;rintro e w1 ⟨rfl,hb1⟩;have B1:=aI hb1;clear hb1 CC;go_wp2;exact⟨rfl,rfl,HR.out,B1.out⟩
 ·have e1:eU m l bg S x=.error 1:=by rw[eU,if_neg h1,if_neg h2,if_neg h3,if_neg h4]
  rw[e1];have m1:=dV h1;have m2:=dV h2;have m3:=dV h3;have m4:=dV h4;have CC:=aI (qN w);clear h1 h2 h3 h4 e1;unfold aM;generalize ByteArray.mk x.toArray=X at *;go_enter func82,ntmps82;exact Uw
end
end
theorem ux (h:p:=by
 rw[e1];clear e1 ha1 hb1;go_enter func83,ntmps83
 go_wp2_with fail
 refine(C1.out _ S0.out).mono ?_;rintro e w1 ⟨rfl,hb1⟩;have B1:=Hi hb1;clear hb1
 go_wp2_with fail
 refine(C2.out _ (S0.out.on B1.out)).mono ?_;rintro e w2 ⟨rfl,hb2⟩;have B2:=Hi (aC B1.out hb2);clear hb2;go_wp2;exact⟨rfl,rfl,by decide,B2.out⟩):p:=h
theorem xh (h:p:=by
 rw[e1];clear e1 ha1;go_enter func83,ntmps83
 go_wp2_with fail
 refine(C1.out _ S0.out).mono ?_;rintro e w1 ⟨rfl,hb1⟩;have B1:=Hi hb1;clear hb1;go_wp2;exact⟨rfl,rfl,by decide,B1.out⟩):p:=h
theorem xy (h:p:=by
 go_wp2_with fail
 refine CX.out.mono ?_;rintro e w3 ⟨rfl,hb3⟩;have B3:=Hi (aC B2.out hb3);clear hb3 CX;go_wp2;exact⟨rfl,rfl,HZ.out,B3.out⟩):p:=h
theorem yg (h:p:=by
 go_wp2_with fail
 refine CX.out.mono ?_;rintro e w3 ⟨rfl,hq⟩;have HQ:=aI hq;clear hq CX;go_wp2;go_ret;obtain⟨q2,D2,hc,hd,hg⟩:=HQ.out;exact⟨rfl,ba,bc,q2,D2,hc,fun b h=>(hd b h).elim .inl (fun h=>.inr (nh B2.out.size h)),cN (bG B2.out) hg⟩):p:=h
section
def bJ (m:Int) (l:List TxA) (bg:List Int) (S:SA) (x a b:List UInt8):Except Int (List UInt8×List Int×SA):=
 if x=[112,117,116] then (match dJ a,cG b with
  | some k,some v=>if 8<=k then .error 3 else .ok ([111,107],S.st.set k.toNat v,cA m l (S.st.set k.toNat v))
  | _,_=>.error 1)
 else if x=[114,101,97,100] then (match dJ a,dJ b with
  | some n,some k=>if gM m l S 1 n k=0 then .ok ([111,107],bg,lU m l S 1 n k) else .error (gM m l S 1 n k)
  | _,_=>.error 1)
 else if x=[119,114,105,116,101] then (match dJ a,dJ b with
  | some n,some k=>if gM m l S 2 n k=0 then .ok ([111,107],bg,lU m l S 2 n k) else .error (gM m l S 2 n k)
  | _,_=>.error 1)
 else .error 1
def AnsP (P:Nat) (D:Nat->Prop) (m:Int) (la:Option Addr) (lc:Nat) (l:List TxA) (w:World) (r:Except Int (List UInt8×List Int×SA)) (e:Ending) (w':World):Prop:=match r with
 | .ok p=>e=rt (aM p.1)/\∃(ba:Option Addr) (bc:Nat) (q2:Q4) (D2:Nat->Prop),Clk P D2 m la lc l ba bc p.2.1 q2 p.2.2 w'/\(∀b,D2 b->D b∨w.heap.size<=b)/\w.grownBy w' (M P)
 | .error x=>e=pg [{v:=fc 22 (Y I x),recovered:=false}]/\¬x=0/\Below w.heap.size w w'
section
variable (P:Nat) (D:Nat->Prop) (m:Int) (la:Option Addr) (lc:Nat) (l:List TxA) (ba:Option Addr) (bc:Nat) (bg:List Int) (q:Q4) (S:SA) (w:World)
theorem clkChange (x a b:List UInt8) (ha:a.length<=4096) (hb:b.length<=4096) (h:Clk P D m la lc l ba bc bg q S w) (hk:OkDesk m l bg S) (hs:Std w):Calls prog 83 #[pd (M ⟨P,0,Q⟩),aM x,aM a,aM b] w fun e w'=>AnsP P D m la lc l w (bJ m l bg S x a b) e w':=by
 have H:=aI h;have HK:=aI hk;have S0:=aI hs;clear h hk hs;by_cases h1:x=[112,117,116]
 ·subst h1
  cases ha1:dJ a with
  | none=>
   have C1:Hid (∀w:World,Std w->Calls prog 121 _ w fun e w'=>e=pg [{v:=fc 22 _,recovered:=false}]/\Below w.heap.size w w'):=fun w hs=>iM a ha ha1 w hs
   have e1:bJ m l bg S [112,117,116] a b=.error 1:=by simp[bJ,ha1]
   exact xh
  | some k=>
   have hk0:=(mL ha1).2;have C1:=Hi (fun w hs=>gQ a ha k ha1 w hs)
   cases hb1:cG b with
   | none=>
    have C2:Hid (∀w:World,Std w->Calls prog 122 _ w fun e w'=>e=pg [{v:=fc 22 _,recovered:=false}]/\Below w.heap.size w w'):=fun w hs=>tY b hb hb1 w hs
    have e1:bJ m l bg S [112,117,116] a b=.error 1:=by simp[bJ,ha1,hb1]
    exact ux
   | some v=>
    have C2:=Hi (fun w hs=>qA b hb v hb1 w hs);obtain⟨n,rfl⟩:∃n:Nat,k=(n:Int):=⟨k.toNat,by omega⟩;by_cases h8:8<=n
    ·have e1:bJ m l bg S [112,117,116] a b=.error 3:=by
      rw[bJ,if_pos rfl,ha1,hb1];exact if_pos (show (8:Int)<=(n:Int) by omega)
     rw[e1];clear e1;clear ha1 hb1;go_enter func83,ntmps83
     go_wp2_with fail
     refine(C1.out _ S0.out).mono ?_;rintro e w1 ⟨rfl,hb1⟩;have B1:=Hi hb1;clear hb1
     go_wp2_with fail
     refine(C2.out _ (S0.out.on B1.out)).mono ?_;rintro e w2 ⟨rfl,hb2⟩;have B2:=Hi (aC B1.out hb2);clear hb2;have HZ:Hid (¬(3:Int)=0):=by show ¬_;decide
     have CX:=aI (clkPut_bad P w2 n v h8);exact xy
    ·have e1:bJ m l bg S [112,117,116] a b=.ok ([111,107],S.st.set n v,cA m l (S.st.set n v)):=by
      rw[bJ,if_pos rfl,ha1,hb1];exact if_neg (show ¬(8:Int)<=(n:Int) by omega)
     rw[e1];clear e1;clear ha1 hb1;go_enter func83,ntmps83
     go_wp2_with fail
     refine(C1.out _ S0.out).mono ?_;rintro e w1 ⟨rfl,hb1⟩;have B1:=Hi hb1;clear hb1
     go_wp2_with fail
     refine(C2.out _ (S0.out.on B1.out)).mono ?_;rintro e w2 ⟨rfl,hb2⟩;have B2:=Hi (aC B1.out hb2);clear hb2;have CX:=aI (clkPut_ok P D m la lc l ba bc bg q S w2 n v om HK.out.s8 (H.out.on B2.out) (HK.out.pl n v))
     go_wp2_with fail
     refine CX.out.mono ?_;rintro e w3 ⟨rfl,hq⟩;have HQ:=aI hq;clear hq CX;go_wp2;go_ret;obtain⟨sa,sc,q2,D2,hc,hd,hg⟩:=HQ.out;exact⟨rfl,sa,sc,q2,D2,hc,fun b h=>(hd b h).elim .inl (fun h=>.inr (nh B2.out.size h)),cN (bG B2.out) hg⟩
 have h0:=h1;clear h1;by_cases h1:x=[114,101,97,100]
 ·subst h1
  cases ha1:dJ a with
  | none=>
   have C1:Hid (∀w:World,Std w->Calls prog 121 _ w fun e w'=>e=pg [{v:=fc 22 _,recovered:=false}]/\Below w.heap.size w w'):=fun w hs=>iM a ha ha1 w hs
   have e1:bJ m l bg S [114,101,97,100] a b=.error 1:=by simp[bJ,ha1]
   exact xh
  | some k=>
   have hk0:=(mL ha1).2;have C1:=Hi (fun w hs=>gQ a ha k ha1 w hs)
   cases hb1:dJ b with
   | none=>
    have C2:Hid (∀w:World,Std w->Calls prog 121 _ w fun e w'=>e=pg [{v:=fc 22 _,recovered:=false}]/\Below w.heap.size w w'):=fun w hs=>iM b hb hb1 w hs
    have e1:bJ m l bg S [114,101,97,100] a b=.error 1:=by simp[bJ,ha1,hb1]
    exact ux
   | some v=>
    have C2:=Hi (fun w hs=>gQ b hb v hb1 w hs);by_cases hz:gM m l S 1 k v=0
    ·have e1:bJ m l bg S [114,101,97,100] a b=.ok ([111,107],bg,lU m l S 1 k v):=by simp[bJ,ha1,hb1,hz]
     rw[e1];have HZ:=aI hz;clear e1 hz;clear ha1 hb1;go_enter func83,ntmps83
     go_wp2_with fail
     refine(C1.out _ S0.out).mono ?_;rintro e w1 ⟨rfl,hb1⟩;have B1:=Hi hb1;clear hb1
     go_wp2_with fail
     refine(C2.out _ (S0.out.on B1.out)).mono ?_;rintro e w2 ⟨rfl,hb2⟩;have B2:=Hi (aC B1.out hb2);clear hb2;have CX:=aI (yE P D m la lc l ba bc bg q S w2 1 k v (H.out.on B2.out) HZ.out);exact yg
    ·have e1:bJ m l bg S [114,101,97,100] a b=.error (gM m l S 1 k v):=by simp[bJ,ha1,hb1,hz]
     rw[e1];have HZ:=aI hz;clear e1 hz;clear ha1 hb1;go_enter func83,ntmps83
     go_wp2_with fail
     refine(C1.out _ S0.out).mono ?_;rintro e w1 ⟨rfl,hb1⟩;have B1:=Hi hb1;clear hb1
     go_wp2_with fail
     refine(C2.out _ (S0.out.on B1.out)).mono ?_;rintro e w2 ⟨rfl,hb2⟩;have B2:=Hi (aC B1.out hb2);clear hb2;have CX:=aI (aBq P D m la lc l ba bc bg q S w2 1 k v (H.out.on B2.out) HZ.out);exact xy
 have h2:=h1;clear h1;by_cases h1:x=[119,114,105,116,101]
 ·subst h1
  cases ha1:dJ a with
  | none=>
   have C1:Hid (∀w:World,Std w->Calls prog 121 _ w fun e w'=>e=pg [{v:=fc 22 _,recovered:=false}]/\Below w.heap.size w w'):=fun w hs=>iM a ha ha1 w hs
   have e1:bJ m l bg S [119,114,105,116,101] a b=.error 1:=by simp[bJ,ha1]
   exact xh
  | some k=>
   have hk0:=(mL ha1).2;have C1:=Hi (fun w hs=>gQ a ha k ha1 w hs)
   cases hb1:dJ b with
   | none=>
    have C2:Hid (∀w:World,Std w->Calls prog 121 _ w fun e w'=>e=pg [{v:=fc 22 _,recovered:=false}]/\Below w.heap.size w w'):=fun w hs=>iM b hb hb1 w hs
    have e1:bJ m l bg S [119,114,105,116,101] a b=.error 1:=by simp[bJ,ha1,hb1]
    exact ux
   | some v=>
    have C2:=Hi (fun w hs=>gQ b hb v hb1 w hs);by_cases hz:gM m l S 2 k v=0
    ·have e1:bJ m l bg S [119,114,105,116,101] a b=.ok ([111,107],bg,lU m l S 2 k v):=by simp[bJ,ha1,hb1,hz]
     rw[e1];have HZ:=aI hz;clear e1 hz;clear ha1 hb1;go_enter func83,ntmps83
     go_wp2_with fail
     refine(C1.out _ S0.out).mono ?_;rintro e w1 ⟨rfl,hb1⟩;have B1:=Hi hb1;clear hb1
     go_wp2_with fail
     refine(C2.out _ (S0.out.on B1.out)).mono ?_;rintro e w2 ⟨rfl,hb2⟩;have B2:=Hi (aC B1.out hb2);clear hb2;have CX:=aI (yE P D m la lc l ba bc bg q S w2 2 k v (H.out.on B2.out) HZ.out);exact yg
    ·have e1:bJ m l bg S [119,114,105,116,101] a b=.error (gM m l S 2 k v):=by simp[bJ,ha1,hb1,hz]
     rw[e1];have HZ:=aI hz;clear e1 hz;clear ha1 hb1;go_enter func83,ntmps83
     go_wp2_with fail
     refine(C1.out _ S0.out).mono ?_;rintro e w1 ⟨rfl,hb1⟩;have B1:=Hi hb1;clear hb1
     go_wp2_with fail
     refine(C2.out _ (S0.out.on B1.out)).mono ?_;rintro e w2 ⟨rfl,hb2⟩;have B2:=Hi (aC B1.out hb2);clear hb2;have CX:=aI (aBq P D m la lc l ba bc bg q S w2 2 k v (H.out.on B2.out) HZ.out);exact xy
 ·have e1:bJ m l bg S x a b=.error 1:=by rw[bJ,if_neg h0,if_neg h2,if_neg h1]
  rw[e1];have m1:=dV h0;have m2:=dV h1;have m3:=dV h2;have CC:=aI (qN w);clear h0 h1 h2 e1;unfold aM;generalize ByteArray.mk x.toArray=X at *;go_enter func83,ntmps83;exact Uw
end
end
theorem VR (h:p:=by
 refine wpAnyH_done kr ?_ _;clear hHeld;go_wp2;go_ret;exact⟨rfl,HQ.out⟩):p:=h
section
def vE (m:Int) (l:List TxA) (bg:List Int) (S:SA) (x:List UInt8):List (List UInt8)->Except Int (List UInt8×List Int×SA)
 | []=>(eU m l bg S x).map fun p=>(p.1,bg,p.2)
 | [a,b]=>bJ m l bg S x a b
 | _=>.error 1
section
variable (P:Nat) (D:Nat->Prop) (m:Int) (la:Option Addr) (lc:Nat) (l:List TxA) (ba:Option Addr) (bc:Nat) (bg:List Int) (q:Q4) (S:SA) (w:World)
theorem clkObey0 (x:List UInt8) (na:Option Addr) (nc:Nat) (h:Clk P D m la lc l ba bc bg q S w) (hk:OkDesk m l bg S) (hs:Std w) (hs2:∀w',Below P w w'->Std w'):Calls prog 44 #[pd (M ⟨P,0,Q⟩),aM x,J na 0 nc] w fun e w'=>AnsP P D m la lc l w (vE m l bg S x []) e w':=by
 have CT:=clkTell P D m la lc l ba bc bg q S w x h hk hs hs2
 cases hr:eU m l bg S x with
 | ok p=>
  have e1:vE m l bg S x []=.ok (p.1,bg,p.2):=by simp[vE,hr,Except.map]
  rw[e1];rw[hr]at CT;have CX:Hid (Calls prog 82 _ w fun e w'=>e=rt _/\∃(q2:Q4) (D2:Nat->Prop),Clk P D2 m la lc l ba bc bg q2 p.2 w'/\_/\w.grownBy w' _):=CT;clear CT hr e1 h hk hs hs2;go_enter func44,ntmps44
  go_wp2_with fail
  refine CX.out.mono ?_;rintro e w1 ⟨rfl,hq⟩;have HQ:=aI hq;clear hq CX;go_wp2;go_ret;obtain⟨q2,D2,hc,hd,hg⟩:=HQ.out;exact⟨rfl,ba,bc,q2,D2,hc,hd,hg⟩
 | error z=>
  have e1:vE m l bg S x []=.error z:=by simp[vE,hr,Except.map]
  rw[e1];rw[hr]at CT;have CX:Hid (Calls prog 82 _ w fun e w'=>e=pg [{v:=fc 22 _,recovered:=false}]/\Hid _):=CT;clear CT hr e1 h hk hs hs2;go_enter func44,ntmps44
  go_wp2_with fail
  refine CX.out.mono ?_;rintro e w1 ⟨rfl,hq⟩;clear CX;go_wp2;exact⟨rfl,rfl,hq.out⟩
theorem clkObey2 (x a b:List UInt8) (ha:a.length<=4096) (hb:b.length<=4096) (nb no nc:Nat) (hnb:nb<w.heap.size) (hnP:nb≠P) (n0:w.cell? ⟨nb,no,Q⟩=M (aM a)) (n1:w.cell? ⟨nb,no+1,Q⟩=M (aM b)) (h:Clk P D m la lc l ba bc bg q S w) (hk:OkDesk m l bg S) (hs:Std w):Calls prog 44 #[pd (M ⟨P,0,Q⟩),aM x,J (M ⟨nb,no,Q⟩) 2 nc] w fun e w'=>AnsP P D m la lc l w (bJ m l bg S x a b) e w':=by
 have KS:Hid (∀w',w.grownBy w' (M P)->w'.cell? _=M _/\w'.cell? _=M _):=fun w' hg=>by
  have e:w'.heap[nb]?=w.heap[nb]?:=hg.block nb hnb (fun e=>by injection e with e;exact hnP e);exact⟨(nu (a:=⟨nb,no,Q⟩) e).trans n0,(nu (a:=⟨nb,no+1,Q⟩) e).trans n1⟩
 have CT:=fun w' hb'=>clkChange P D m la lc l ba bc bg q S w' x a b ha hb (h.on hb') hk (hs.on hb')
 cases hr:bJ m l bg S x a b with
 | ok p=>
  rw[hr]at CT;have CX:Hid (∀w',Below w.heap.size w w'->Calls prog 83 _ w' fun e w''=>e=rt _/\∃(ba:Option Addr) (bc:Nat) (q2:Q4) (D2:Nat->Prop),Clk P D2 m la lc l ba bc p.2.1 q2 p.2.2 w''/\(∀b,D2 b->D b∨w.heap.size<=b)/\w.grownBy w'' _):=fun w' hb'=>(CT w' hb').mono fun e w'' ⟨he,ba,bc,q2,D2,hc,hd,hg⟩=>⟨he,ba,bc,q2,D2,hc,fun b h=>(hd b h).elim .inl (fun h=>.inr (nh hb'.size h)),cN (bG hb') hg⟩
  clear CT hr h hk hs n0 n1 hnb hnP ha hb;unfold aM at *;go_enter func44,ntmps44
  go_upto_region 5 with fail
  refine wp_region_held_drew (S:=(fun w'=>w'.cell? ⟨nb,no,Q⟩=M (aM a)/\w'.cell? ⟨nb,no+1,Q⟩=M (aM b))) kr ?_ (fun hHeld=>?_)
  ·exact KS.out _ (bG (aD br))
  refine tk 0 ?_;refine tk 1 ?_;refine tk 2 ?_;refine tk 3 ?_;refine tk 4 ?_;refine tk 5 ?_;refine tk 6 ?_;refine tk 7 ?_;refine r1 8 (fun K hK=>?_);go_simp
  go_wp2_with (go_at_call 83;refine(CX.out _ (aD br)).mono ?_;rintro e w1 ⟨rfl,hq⟩)
  have HQ:=aI hq;clear hq;clear hHeld;refine hK.out _ _ (KS.out _ HQ.out.choose_spec.choose_spec.choose_spec.choose_spec.2.2) (fun hHeld=>?_);clear hK K;refine tk 9 ?_;exact VR
 | error z=>
  rw[hr]at CT;have CX:Hid (∀w',Below w.heap.size w w'->Calls prog 83 _ w' fun e w''=>e=pg [{v:=fc 22 _,recovered:=false}]/\¬z=0/\Below w.heap.size w w''):=fun w' hb'=>(CT w' hb').mono fun e w'' ⟨he,hz,hg⟩=>⟨he,hz,aC hb' hg⟩
  clear CT hr h hk hs n0 n1 hnb hnP ha hb;unfold aM at *;go_enter func44,ntmps44
  go_upto_region 5 with fail
  refine wp_region_held_drew (S:=(fun w'=>w'.cell? ⟨nb,no,Q⟩=M (aM a)/\w'.cell? ⟨nb,no+1,Q⟩=M (aM b))) kr ?_ (fun hHeld=>?_)
  ·exact KS.out _ (bG (aD br))
  refine tk 0 ?_;refine tk 1 ?_;refine tk 2 ?_;refine tk 3 ?_;refine tk 4 ?_;refine tk 5 ?_;refine tk 6 ?_;refine tk 7 ?_;refine r1 8 (fun K hK=>?_);go_simp
  go_wp2_with (go_at_call 83;refine(CX.out _ (aD br)).mono ?_;rintro e w1 ⟨rfl,hn1,hb1⟩)
  exact⟨rfl,rfl,hn1,hb1⟩
theorem clkObeyX (x:List UInt8) (na:Option Addr) (n nc:Nat) (h0:¬n=0) (h2:¬n=2):Kp 44 #[pd (M ⟨P,0,Q⟩),aM x,J na n nc] w 1:=by
 have i1:¬(n:Int)=0:=om;have i2:¬(n:Int)=2:=om;have j1:((n:Int)==0)=false:=by simpa using i1
 have j2:((n:Int)==2)=false:=by simpa using i2
 have CC:=aI (qN w);go_enter func44,ntmps44
 go_wp2_with fail
 refine CC.out.mono ?_;rintro e w1 ⟨rfl,hb1⟩;have B1:=aI hb1;clear hb1 CC;go_wp2;exact⟨rfl,rfl,B1.out⟩
end
end
end Go.Proofs.YtcgpkonfneofdaaGreatDoor
