/- Conditions: those that each theorem states. -/
import Derived.Test.YtcgpkonfneofdaaGreatDoorQDkW
import Derived.Lib.BufferOwn
import Derived.Maps.Range
set_option maxRecDepth 100000
set_option maxHeartbeats 8000000
namespace Go.Proofs.YtcgpkonfneofdaaGreatDoor
open Go.RowKit Go.Proofs.Tryz
open Go.Value renaming slice->J,int->Y,bool->bo,pointer->pd,agg->ag,tuple->tu,string->sg,iface->fc
open Go.IntKind renaming i64->I
open Go.Obj renaming cells->U
open Go.Ending renaming returned->rt,panicked->pg
open Option renaming some->M,none->Q
variable {w wa w' w1:World} {B cap n lo hi:Nat} {u v':Value} {a:Option Addr} {zs:List Int} {p:Prop} {row:Option Nat} {ops:Array Oper} {xs:List Value}
section
theorem ints_of_row {g:Nat} {s:List Int} (h:w.ownsRow B 3 1 (J (M ⟨g,0,Q⟩) s.length cap) s.length (s.map (Y I))):IsInts w (M ⟨g,0,Q⟩) s:=by
 obtain⟨a,c,he,hi⟩:=gF h;injection he with h1 h2 h3
 subst h1;exact hi
theorem pI {V X:World} (h:Below X.heap.size X wa) (hX:X.heap=(V.alloc (U #[bo false,J Q 0 0] 148)).heap):wa.cell? ⟨V.heap.size,0,Q⟩=bo false/\wa.cell? ⟨V.heap.size,1,Q⟩=J Q 0 0/\∀j,wa.frozen? ⟨V.heap.size,j,Q⟩=false:=by
 have hb:∀j,(⟨V.heap.size,j,Q⟩:Addr).block<X.heap.size:=fun j=>by rw[hX];simp
 have hc:∀p,X.cell? p=(V.alloc _).cell? p:=fun p=>nu (by rw[hX])
 have hf:∀p,X.frozen? p=(V.alloc _).frozen? p:=fun p=>nv (by rw[hX])
 exact⟨((h.cell (hb 0)).trans (hc _)).trans sm,((h.cell (hb 1)).trans (hc _)).trans sm,fun j=>((h.frozen (hb j)).trans (hf _)).trans sm⟩
theorem fresh_on {X wb:World} {R:Nat} {v:Value} (h:Below X.heap.size X wb) (r0:wa.cell? ⟨R,0,Q⟩=M u) (r1:wa.cell? ⟨R,1,Q⟩=M v) (rf:∀j,wa.frozen? ⟨R,j,Q⟩=false) (hX:X.heap=wa.heap):wb.cell? ⟨R,0,Q⟩=M u/\wb.cell? ⟨R,1,Q⟩=M v/\∀j,wb.frozen? ⟨R,j,Q⟩=false:=by
 have hb:∀j,(⟨R,j,Q⟩:Addr).block<X.heap.size:=fun j=>by rw[hX];exact np wa ⟨R,0,Q⟩ r0
 have hc:∀p,X.cell? p=wa.cell? p:=fun p=>nu (by rw[hX])
 have hf:∀p,X.frozen? p=wa.frozen? p:=fun p=>nv (by rw[hX])
 exact⟨((h.cell (hb 0)).trans (hc _)).trans r0,((h.cell (hb 1)).trans (hc _)).trans r1,fun j=>((h.frozen (hb j)).trans (hf _)).trans (rf j)⟩
theorem rD {X:World} (h:Below X.heap.size X wa):X.heap.size<=wa.heap.size:=h.size
theorem row_cell {g:Nat} {P:List Int} (h:w.ownsRow B 3 1 (J (M ⟨g,0,Q⟩) n cap) n (P.map (Y I))) (hP:P.length=n) (m:Nat) (hm:m<n):w.cell? ⟨g,m,Q⟩=Y I (P.getD m 0):=by
 rw[h.cellAt m om];simp[List.getD,hP,hm]
theorem qK:∀(ks s vs:List Int),vs.length<=ks.length->cD s (ks.take vs.length) vs=cD s ks vs
 | [],s,vs,_=>by simp
 | k::ks,s,[],_=>by simp[cD]
 | k::ks,s,v::vs,h=>by
  simp only[List.length_cons,List.take_succ_cons,cD];exact qK ks _ vs (by simpa using h)
theorem IsAt.grown {g:Nat} (h:IsAt lo hi w a zs) (hg:w.grownBy w' (M g)) (hlo:g<lo) (_hhi:hi<=w.heap.size):IsAt lo hi w' a zs:=fun i hi'=>by
 obtain⟨b,off,ha,h1,h2,hc⟩:=h i hi';exact⟨b,off,ha,h1,h2,hg.cell hc (by simp;omega)⟩
theorem aP (w:World) (b i:Nat) (v:Value):w.grownBy (w.setCell ⟨b,i,Q⟩ v) (M b):=⟨rfl,rfl,rfl,by simp,fun j _ hj=>wo w ⟨b,i,Q⟩ v j (fun h=>hj (by rw[h]))⟩
theorem cC (h:Below w.heap.size w w') (row:Option Nat):w.grownBy w' row:=⟨h.os,h.tape,h.output,h.size,fun i hi _=>h.block i hi⟩
variable (ra ga sa:Option Addr) (rc gc sc:Nat) (rs:List Int) (gs:List Gd) (ss:List St)
theorem apply_any (s:List Int) (g cap B:Nat) (w0 w:World) (ht:IsTx w0 ra ga sa rs gs ss) (h0:Below w0.heap.size w0 w) (hB:w0.heap.size<=B) (hs:w.ownsRow B 3 1 (J (M ⟨g,0,Q⟩) s.length cap) s.length (s.map (Y I))) (h8:s.length=8) (hE:bP rs gs ss=0) :
  Calls prog 261 #[J (M ⟨g,0,Q⟩) s.length cap,ag #[J ra rs.length rc,J ga gs.length gc,J sa ss.length sc]] w fun e w'=>∃va vc,e=rt (ag #[bo (dU (dA s rs) gs),J va (dA s rs).length vc])/\IsAt w.heap.size w'.heap.size w' va (dA s rs)/\w'.ownsRow B 3 1 (J (M ⟨g,0,Q⟩) s.length cap) s.length ((cD s (aJ ss) (aS (dA s rs) gs ss)).map (Y I))/\w.grownBy w' (M g):=by
 obtain⟨hBg,hgw⟩:=hs.lt g rfl;obtain⟨hm,_,hgg,hss⟩:=bR hE;obtain⟨h4,_,h3,_⟩:=bI _ _ _ hm;obtain⟨hrr,hrk⟩:=nJ hE;have hlen:=mJ s rs
 have hRE:yX rs gs ss (dA s rs)=0:=by
  show aH _=_;rw[aH,if_pos hE,aH];have:iS rs (dA s rs)=0:=if_pos hlen;rw[this];rfl
 have CV:Hid (∀w',Below w.heap.size w w'->Calls prog 276 #[J (M ⟨g,0,Q⟩) s.length cap,J ra rs.length rc] w' (fun e w''=>∃a zc,e=rt (J a (dA s rs).length zc)/\IsAt w'.heap.size w''.heap.size w'' a (dA s rs)/\(a=Q->zc=0)/\Below w'.heap.size w' w'')):=fun w' hb=>
  valuesOf_any s rs (M ⟨g,0,Q⟩) ra cap rc w' ((ints_of_row hs).below hb) ((ht.below h0).r.below hb) h8 h4 hrr
 have CR:Hid (∀w' za zc,IsInts w' za (dA s rs)->(za=Q->zc=0)->Below w.heap.size w w'->Calls prog 184 #[ag #[J ra rs.length rc,J ga gs.length gc,J sa ss.length sc],J za (dA s rs).length zc] w' (fun e w''=>∃va vc ma mc,e=rt (tu #[ag #[bo (dU (dA s rs) gs),J va (dA s rs).length vc],J ma (aS (dA s rs) gs ss).length mc,Y I 0])/\IsAt w'.heap.size w''.heap.size w'' va (dA s rs)/\IsAt w'.heap.size w''.heap.size w'' ma (aS (dA s rs) gs ss)/\Below w'.heap.size w' w'')):=fun w' za zc hz hn hb=>by
  have h:=qB ra ga sa rc gc sc rs gs ss za zc (dA s rs) w' ((ht.below h0).below hb) hz hn;have e1:runD rs gs ss _=dU _ gs:=if_pos hRE;have e2:runV rs gs ss _=dA s rs:=if_pos hRE;have e3:runM rs gs ss _=aS _ gs ss:=if_pos hRE;rw[e1,e2,e3,hRE]at h;exact h
 have hML:(aS (dA s rs) gs ss).length<=ss.length:=by unfold aS;split <;> simp[eY]
 generalize hZ:dA s rs=Z at *;generalize hM:aS Z gs ss=Mm at *;generalize hD:dU Z gs=D at *;clear hZ hM hD hRE hlen hgg hss hm hrr hE;have HS:=hs;have hML':Hid (Mm.length<=(aJ ss).length):=by show _<=_;rw[cM];exact hML
 have HB0:=Hi h0;have hSS:=Hi ht.s;have H8:=Hi h8;have HRK:=Hi hrk;clear ht h0 h8 hrk hs;go_enter func261,ntmps261
 go_upto_region 1 with fail
 have VB0:Below w.heap.size w ((w.alloc (U #[J ra rs.length rc,J ga gs.length gc,J sa ss.length sc] 95)).alloc (U #[bo false,J Q 0 0] 148)):=aA (aA br _) _;have y0:((w.alloc (U #[J ra rs.length rc,J ga gs.length gc,J sa ss.length sc] 95)).alloc (U #[bo false,J Q 0 0] 148)).cell? ⟨w.heap.size,0,Q⟩=J ra rs.length rc:=by rw[ni _ _ _ sm];simp
 have y1:((w.alloc (U #[J ra rs.length rc,J ga gs.length gc,J sa ss.length sc] 95)).alloc (U #[bo false,J Q 0 0] 148)).cell? ⟨w.heap.size,1,Q⟩=J ga gs.length gc:=by rw[ni _ _ _ sm];simp
 have y2:((w.alloc (U #[J ra rs.length rc,J ga gs.length gc,J sa ss.length sc] 95)).alloc (U #[bo false,J Q 0 0] 148)).cell? ⟨w.heap.size,2,Q⟩=J sa ss.length sc:=by rw[ni _ _ _ sm];simp
 have y3:((w.alloc (U #[J ra rs.length rc,J ga gs.length gc,J sa ss.length sc] 95)).alloc (U #[bo false,J Q 0 0] 148)).cell? ⟨w.heap.size+1,0,Q⟩=bo false:=sm;have y4:((w.alloc (U #[J ra rs.length rc,J ga gs.length gc,J sa ss.length sc] 95)).alloc (U #[bo false,J Q 0 0] 148)).cell? ⟨w.heap.size+1,1,Q⟩=J Q 0 0:=sm;have yf:∀j,((w.alloc (U #[J ra rs.length rc,J ga gs.length gc,J sa ss.length sc] 95)).alloc (U #[bo false,J Q 0 0] 148)).frozen? ⟨w.heap.size+1,j,Q⟩=false:=fun j=>by simp
 have VB:=Hi VB0;have hV2:w.heap.size+2<=((w.alloc (U #[J ra rs.length rc,J ga gs.length gc,J sa ss.length sc] 95)).alloc (U #[bo false,J Q 0 0] 148)).heap.size:=sm;clear VB0;generalize ((w.alloc (U #[J ra rs.length rc,J ga gs.length gc,J sa ss.length sc] 95)).alloc (U #[bo false,J Q 0 0] 148))=V at *;have KS:∀w',Below V.heap.size V w'->w'.cell? _=M _/\w'.cell? _=M _/\w'.cell? _=M _/\Hid _:=fun w' h=>⟨aB h y0,aB h y1,aB h y2,h⟩
 have HKS:=Hi KS;have HS':=Hi HS;clear KS HS
 go_cut [5,6,7] (fun r m e wx=>∃R va vc ma mc,r=pd (M ⟨R,0,Q⟩)/\m=J ma Mm.length mc/\e=Y I 0/\V.heap.size<=R/\wx.cell? ⟨R,0,Q⟩=bo D/\wx.cell? ⟨R,1,Q⟩=J va Z.length vc/\IsAt V.heap.size wx.heap.size wx va Z/\IsAt V.heap.size wx.heap.size wx ma Mm/\Below V.heap.size V wx)
 case first=>
  clear y0 y1 y2 y3 y4 yf
  go_region_held3 (fun w'=>w'.cell? ⟨w.heap.size,0,Q⟩=J ra rs.length rc/\w'.cell? ⟨w.heap.size,1,Q⟩=J ga gs.length gc/\w'.cell? ⟨w.heap.size,2,Q⟩=J sa ss.length sc/\Hid (Below V.heap.size V w')) ((refine HKS.out _ ?_;go_split_ands;repeat (first | assumption | exact br | exact Hid.out (by assumption) | refine aD ?_ | refine aA ?_ _ | refine aG ?_ (by first | exact nr | omega | (simp;done) | (simp at *;omega)) _ | refine aC ?_ (by assumption))))
   (first
    | (go_at_call 276;refine(CV.out _ ?_).mono ?_;(refine aC VB.out ?_;go_split_ands;exact Hid.out (by assumption));rintro e wa ⟨za,zc,rfl,hza,hzn,hba⟩;have hwa:=rD hba;(first | (obtain⟨r0,r1,rf⟩:=pI (V:=V) hba rfl) | skip))
    | (go_at_call 184;refine(CR.out _ za zc ?_ hzn ?_).mono ?_;(repeat (first | exact hza.ints nr | refine IsInts.below ?_ (aD br) | refine IsInts.below ?_ (aA br _)));(refine aC VB.out ?_;go_split_ands;exact Hid.out (by assumption));rintro e wb ⟨va,vc,ma,mc,rfl,hva,hma,hbb⟩;have hwb:=rD hbb;(first | (obtain⟨t0,t1,tf⟩:=pI (V:=wa) hbb rfl) | (revert r0;intro r0;obtain⟨t0,t1,tf⟩:=fresh_on hbb r0 r1 rf rfl) | skip)))
  all_goals (go_wp2_with fail;go_meet)
  all_goals (
   have e1:V.heap.size<=wa.heap.size:=by first | exact hwa | (have h:=hwa;simp at h;omega)
   have e2:wa.heap.size<=wb.heap.size:=by first | exact hwb | (have h:=hwb;simp at h;omega)
   go_split_ands
   first
    | exact⟨_,va,vc,ma,mc,rfl,rfl,rfl,by omega,by simp,by simp,(hva.below (aA br _)).widen (by first | exact e1 | (simp;omega)) sm,(hma.below (aA br _)).widen (by first | exact e1 | (simp;omega)) sm,Hid.out (by assumption)⟩
    | exact⟨_,va,vc,ma,mc,rfl,rfl,rfl,by first | exact nr | exact e1,by simp[go_sem,t0],by simp[go_sem,t1],((hva.set ⟨_,0,Q⟩ _ (.inl (by first | (simp;done) | (have h:=hwa;simp at h ⊢;omega)))).set ⟨_,1,Q⟩ _ (.inl (by first | (simp;done) | (have h:=hwa;simp at h ⊢;omega)))).widen (by first | exact e1 | (simp;omega)) sm,((hma.set ⟨_,0,Q⟩ _ (.inl (by first | (simp;done) | (have h:=hwa;simp at h ⊢;omega)))).set ⟨_,1,Q⟩ _ (.inl (by first | (simp;done) | (have h:=hwa;simp at h ⊢;omega)))).widen (by first | exact e1 | (simp;omega)) sm,Hid.out (by assumption)⟩)
 case rest=>
  obtain⟨R,va,vc,ma,mc,rfl,rfl,rfl,hR,c0,c1,hva,hma,hbc⟩:=hcut
  go_wp2_with fail
  refine(aQ [0] _ 1 _ sm rfl (dS _ _ _ sm)).mono ?_;rintro e W2 ⟨rfl,rfl⟩;have Uuu:Below wc.heap.size wc (wc.alloc (U #[Y I 0] 22)):=aA br _;have UV:=aC hbc Uuu;have z2:=aB UV y2;have z3:=aB UV y3;have z4:=aB UV y4;have zf:=fun j=>(UV.frozen (p:=⟨w.heap.size+1,j,Q⟩) (by show w.heap.size+1<_;omega)).trans (yf j)
  have d0:=aB Uuu c0;have d1:=aB Uuu c1;have hva2:=Hi (hva.below Uuu);have hma2:=Hi (hma.below Uuu);have hW:=Hi (aC VB.out UV);have hrow:=Hi (bY HS'.out hW.out);have hwcs:=Hi Uuu.size;have hVs:=UV.size;clear Uuu UV y0 y1 y2 y3 y4 yf c0 c1 hva hma hbc HS' HKS CV CR;generalize (wc.alloc (U #[Y I 0] 22))=W at *;have far:∀{wr:World},W.grownBy wr (M g)->∀(b:Nat) j v,b≠g->W.cell? ⟨b,j,Q⟩=M v->wr.cell? _=M v:=fun hg b j v hne h=>hg.cell h (by simpa using hne)
  go_wp2
  go_loopw [8,9,25] (fun _ _ i wr=>∃k:Nat,k<=Mm.length/\i=Y I k/\wr.ownsRow B 3 1 (J (M ⟨g,0,Q⟩) s.length cap) s.length ((cD s ((aJ ss).take k) (Mm.take k)).map (Y I))/\W.grownBy wr (M g)) (fun _ _ i _=>Mm.length - (intOf i).toNat)
  case atStart=>exact⟨0,nz,rfl,by simpa[cD]using hrow.out,wv _ _⟩
  case round=>
   obtain⟨k,hk,rfl,hown,hgr⟩:=hrel;by_cases hlt:k<Mm.length
   ·obtain⟨b,off,rfl,hb1,hb2,m0⟩:=hma2.out k hlt;have hks:k<ss.length:=om;obtain⟨b',off',rfl,hb',k0,_⟩:=hSS.out k hks;have hkl:k<(aJ ss).length:=by rw[cM];exact hks
    obtain⟨hz,hz'⟩:=nA (aJ ss) HRK.out k hkl;have HT:=Hi (oF (aJ ss) s Mm k hkl hlt)
    have k1:W.cell? ⟨b',off'+k*6,Q⟩=Y I ((aJ ss).getD k 0):=by
     rw[jR ss k hks];exact(aB (aC HB0.out hW.out) k0)
    generalize (aJ ss).getD k 0=z at *;obtain⟨m,rfl⟩:=wg hz;have hms:m<s.length:=by have:=H8.out;omega
    have q0:=far hgr _ _ _ om m0;have q1:=far hgr _ _ _ om k1;have q2:=far hgr _ _ _ om z2;have hPl:(cD s ((aJ ss).take k) (Mm.take k)).length=s.length:=kU _ _ _;have q3:=row_cell hown hPl m hms;have q4:=hown.frozenAt m
    have R1:∀u:Int,(wr.setCell _ _).ownsRow B 3 1 _ s.length (((cD s _ _).set m u).map _):=fun u=>by
     have h:=hown.stored m (Y I u);rw[List.map_set];exact h.1
    have R2:=fun u=>hgr.trans (aP wr g m u)
    have R3:Hid ((wr.setCell ⟨g,m,Q⟩ (Y I (Mm.getD k 0))).ownsRow B 3 1 (J (M ⟨g,0,Q⟩) s.length cap) s.length ((cD s ((aJ ss).take (k+1)) (Mm.take (k+1))).map (Y I))):=by
     rw[HT.out];exact R1 _
    have R4:Hid (W.grownBy (wr.setCell _ (Y I (Mm.getD k 0))) _):=R2 _;generalize (cD s ((aJ ss).take k) (Mm.take k)).getD m 0=y at *;generalize Mm.getD k 0=y' at *;clear R1 R2 hown hgr hPl m0 k0 k1 z2 z3 z4 zf d0 d1 hSS hz hz';go_wp2;go_roundw
    case rel=>exact⟨k+1,by omega,by go_num,R3.out,R4.out⟩
    case measure=>simp[intOf];omega
   ·have hkk:k=Mm.length:=om
    have hfin:Hid (wr.ownsRow B 3 1 (J (M ⟨g,0,Q⟩) s.length cap) s.length ((cD s (aJ ss) Mm).map (Y I))):=by
     have h:=hown;rw[hkk,le (Nat.le_refl Mm.length),qK _ _ _ hML'.out]at h;exact h
    have q0:=far hgr _ _ _ om d0;have q1:=far hgr _ _ _ om d1;have q3:=far hgr _ _ _ om z3;have q4:=far hgr _ _ _ om z4;have qf:=fun j=>(hgr.frozen_far ⟨w.heap.size+1,j,Q⟩ (by show w.heap.size+1<_;omega) (by simp;omega)).trans (zf j)
    have hvr:=Hi ((hva2.out.grown hgr om hwcs.out).widen nr (nh hwcs.out hgr.size));have hG:=Hi ((cC hW.out _).trans hgr);clear hown hgr z2 z3 z4 zf d0 d1 far hva2 hma2 hSS hrow;go_wp2;have r0:((wr.setCell ⟨w.heap.size+1,0,Q⟩ (bo D)).setCell ⟨w.heap.size+1,1,Q⟩ (J va Z.length vc)).cell? ⟨w.heap.size+1,0,Q⟩=bo D:=by simp[go_sem,q3]
    have r1:((wr.setCell ⟨w.heap.size+1,0,Q⟩ (bo D)).setCell ⟨w.heap.size+1,1,Q⟩ (J va Z.length vc)).cell? ⟨w.heap.size+1,1,Q⟩=J va Z.length vc:=by simp[go_sem,q4]
    refine bodyPost_ret (v:=ag #[bo D,J va Z.length vc]) (by simp[results,results261,go_sem,r0,r1]) rfl ⟨va,vc,rfl,?_,?_,?_⟩
    ·exact((hvr.out.set ⟨w.heap.size+1,0,Q⟩ _ (.inl (by show w.heap.size+1<_;omega))).set ⟨w.heap.size+1,1,Q⟩ _ (.inl (by show w.heap.size+1<_;omega))).widen om sm
    ·exact(hfin.out.kept (aP wr (w.heap.size+1) 0 _) (.inr (by simp[Value.ownBlock];omega))).kept (aP _ (w.heap.size+1) 1 _) (.inr (by simp[Value.ownBlock];omega))
    ·exact(hG.out.andThen (aP wr (w.heap.size+1) 0 _) (fun j hj=>by injection hj with hj;subst hj;left;omega)).andThen (aP _ (w.heap.size+1) 1 _) (fun j hj=>by injection hj with hj;subst hj;left;omega)
end
theorem UK (h:p:=by
 cases ho:v.ownBlock with
 | none=>exact .inl rfl
 | some j=>exact .inr (fun e=>by have:=(h.1.lt j ho).1;have:=hr j e.symm;omega)):p:=h
theorem info148:(prog.info? 148).map (fun i=>(i.zero,i.size,i.bytes))=M (M (ag #[bo false,J Q 0 0]),2,32):=by kernel_rfl
structure RsA where
 va:Option Addr
 vc:Nat
 d:Bool
 vs:List Int
def r0:RsA:=⟨Q,0,false,[]⟩
def RsA.told (r:RsA):Bool×List Int:=(r.d,r.vs)
def oD (r:RsA):List Value:=[bo r.d,J r.va r.vs.length r.vc]
def iE:List RsA->List Value
 | []=>[]
 | r::rl=>oD r++iE rl
theorem aBi:∀(a b:List RsA),iE (a++b)=iE a++iE b
 | [],_=>rfl
 | r::a,b=>by simp[iE,aBi a b]
theorem tP:∀(rl:List RsA),∀u∈iE rl,u.oneCell'=true
 | [],u,h=>by cases h
 | r::rl,u,h=>by
   simp only[iE,List.mem_append]at h;rcases h with h | h
   ·simp only[oD,List.mem_cons,List.not_mem_nil,or_false]at h;rcases h with rfl | rfl <;> rfl
   ·exact tP rl u h
theorem flatR_at:∀(rl:List RsA) (i:Nat),i<rl.length->(iE rl)[i*2]?=M (bo (rl.getD i r0).d)/\(iE rl)[i*2+1]?=M (J (rl.getD i r0).va (rl.getD i r0).vs.length (rl.getD i r0).vc)
 | [],i,h=>absurd h sm
 | r::rl,0,_=>by simp[iE,oD]
 | r::rl,i+1,h=>by
   have:=flatR_at rl i (by simpa using h);have e:iE (r::rl)=bo r.d::J r.va r.vs.length r.vc::iE rl:=rfl;rw[e];have e1:(i+1)*2=i*2+1+1:=om;rw[e1];simpa using this
def ResRow (C:Nat) (w:World) (v:Value) (rl:List RsA):Prop:=
 w.ownsRow C 148 2 v rl.length (iE rl)/\∀r∈rl,IsAt C w.heap.size w r.va r.vs/\(r.vs≠[]->∀ad,r.va=M ad->v.ownBlock≠M ad.block)
theorem kS (C:Nat) (w:World):ResRow C w (J Q 0 0) []:=⟨n8 _ _ _ _,fun r hr=>by cases hr⟩
theorem IsAt.keptBy (h:IsAt lo hi w a zs) (hg:w.grownBy w' row) (hr:zs≠[]->∀ad,a=M ad->row≠M ad.block):IsAt lo hi w' a zs:=fun i hi'=>by
 obtain⟨b,off,ha,h1,h2,hc⟩:=h i hi';refine⟨b,off,ha,h1,h2,hg.cell hc (fun e=>?_)⟩;exact hr (fun e'=>by rw[e']at hi';simp at hi') _ ha e.symm
theorem ResRow.kept {C:Nat} {v:Value} {rl:List RsA} (h:ResRow C w v rl) (hg:w.grownBy w' row) (hr:∀j,row=M j->j<C):ResRow C w' v rl:=by
 refine⟨h.1.kept hg ?_,fun r hm=>?_⟩
 ·exact UK
 ·obtain⟨h1,h2⟩:=h.2 r hm;refine⟨(IsAt.widen (lo:=C) (hi:=w.heap.size) ?_ nr hg.size),h2⟩
  exact fun i hi=>by
   obtain⟨b,off,ha,q1,q2,hc⟩:=h1 i hi;exact⟨b,off,ha,q1,q2,hg.cell hc (fun e=>by have:=hr b e.symm;omega)⟩
theorem ResRow.below {C:Nat} {v:Value} {rl:List RsA} (h:ResRow C w v rl) (hb:Below w.heap.size w w'):ResRow C w' v rl:=h.kept (cC hb Q) (fun j e=>by cases e)
theorem ResRow.push {C:Nat} {v:Value} {rl:List RsA} {r:RsA} (h:ResRow C w v rl) (ho:w'.ownsRow C 148 2 v' (rl.length+1) (iE rl++oD r)) (hg:w.grownBy w' v.ownBlock) (hv:v'.ownBlock=v.ownBlock∨v'.ownBlock=M w.heap.size) (hr:IsAt C w.heap.size w r.va r.vs) (hn:r.vs≠[]->∀ad,r.va=M ad->v.ownBlock≠M ad.block):ResRow C w' v' (rl++[r]):=by
 refine⟨by rw[aBi,nj];simpa[iE]using ho,fun x hx=>?_⟩
 have key:IsAt C w.heap.size w x.va x.vs/\(x.vs≠[]->∀ad,x.va=M ad->v.ownBlock≠M ad.block):=by
  rcases List.mem_append.1 hx with hx | hx
  ·exact h.2 x hx
  ·simp only[List.mem_singleton]at hx;subst hx;exact⟨hr,hn⟩
 refine⟨(key.1.keptBy hg key.2).widen nr hg.size,fun hne ad ha=>?_⟩;rcases hv with e | e
 ·rw[e];exact key.2 hne ad ha
 ·rw[e];obtain⟨b,off,ha',_,h2,_⟩:=key.1 0 (List.length_pos_iff.2 hne);rw[ha]at ha';injection ha' with ha'
  subst ha';intro e';injection e' with e'
  simp at e';omega
def IsRes (w:World) (a:Option Addr) (l:List (Bool×List Int)):Prop:=
 ∀i,i<l.length->∃b off va vc,a=M ⟨b,off,Q⟩/\b<w.heap.size/\w.cell? ⟨b,off+i*2,Q⟩=bo (l.getD i (false,[])).1/\w.cell? ⟨b,off+i*2+1,Q⟩=J va (l.getD i (false,[])).2.length vc/\IsInts w va (l.getD i (false,[])).2
theorem IsRes.below {l:List (Bool×List Int)} (h:IsRes w a l) (hb:Below w.heap.size w w'):IsRes w' a l:=fun i hi=>by
 obtain⟨b,off,va,vc,ha,hlt,c0,c1,hz⟩:=h i hi;exact⟨b,off,va,vc,ha,nd hlt hb.size,aB hb c0,aB hb c1,hz.below hb⟩
theorem ResRow.res {C:Nat} {v:Value} {rl:List RsA} (h:ResRow C w v rl):∃a cap,v=J a (rl.map RsA.told).length cap/\IsRes w a (rl.map RsA.told):=by
 have hl:(rl.map RsA.told).length=rl.length:=sm;rcases h.1.2 with ⟨rfl,h0⟩ | ⟨g,cap,cur,rfl,hb,hg,hnc,hcm,hcs,htake⟩
 ·exact⟨Q,0,by rw[hl,h0],fun i hi=>by omega⟩
 ·refine⟨M ⟨g,0,Q⟩,cap,by rw[hl],fun i hi=>?_⟩;rw[hl]at hi;obtain⟨e0,e1⟩:=flatR_at rl i hi;have hc:=fun (j:Nat) (u:Value) (hu:(iE rl)[j]?=M u)=>h.1.cells (g:=g) rfl j u hu
  simp only[bZ,Nat.zero_add]at hc;have eg:(rl.map RsA.told).getD i (false,[])=(rl.getD i r0).told:=by simp[List.getD,hi]
  rw[eg];refine⟨g,0,(rl.getD i r0).va,(rl.getD i r0).vc,rfl,(Array.getElem?_eq_some_iff.1 hg).1,by simpa[RsA.told]using hc _ _ e0,by simpa[RsA.told]using hc _ _ e1,?_⟩;have hm:rl.getD i r0∈rl:=by simp[List.getD,hi]
  exact(h.2 _ hm).1.ints nr
theorem vS (w:World) (d:Bool) (u:Value) (s:Nat) (hs:s=w.heap.size):∀j x,[bo d,u][j]?=M x->(w.alloc (U #[bo d,u] 148)).cell? ((⟨s,0,Q⟩:Addr).add j)=M x:=by
 subst hs;intro j x hj
 match j with
 | 0=>simp at hj;subst hj;simp[bZ]
 | 1=>simp at hj;subst hj;simp[bZ]
 | j+2=>simp at hj
theorem wJ {o:Oper} {a:Act} {K:Act->World->Prop} {Qq:Exit->Act->World->Prop} {E:Prop} (hgd:o.guard=Q) (s x:Operand)
  (ho:o.op=.call {callee:=.builtin .append,args:=#[s,x],argTypes:=#[115,115]})
  (C:Nat) (v:Value) (rl:List RsA) (r:RsA) (hs:a.eval s=v) (hown:ResRow C w v rl)
  (ad:Addr) (c:Nat) (hx:a.eval x=J (M ad) 1 c) (hnews:∀j u,(oD r)[j]?=M u->w.cell? (ad.add j)=M u)
  (hr:IsAt C w.heap.size w r.va r.vs) (hn:r.vs≠[]->∀ad,r.va=M ad->v.ownBlock≠M ad.block)
  (hsm:rl.length<=100) (hbase:C<=w.heap.size)
  (h:∀v' w',ResRow C w' v' (rl++[r])->w.grownBy w' v.ownBlock->K (a.put o.dst v') w') :
  if Region.wanted o (yielded ops a.tmps)=true then Oper.wp prog o a w K Qq else E:=by
 obtain⟨i,hi,hz,hsz,hby⟩:=info_parts info148;have hw:Region.wanted o (yielded ops a.tmps)=true:=by simp[Region.wanted,hgd]
 rw[if_pos hw];obtain⟨v',w',hrun,h2,h3,_,h5⟩:=run_append_own_at (P:=prog) w C 115 o.type 148 i _ 2 32 underlying115 hi hz hsz hby rfl dc v rl.length (iE rl) hown.1 ad 1 c (oD r) rfl hnews (fun u hu=>tP [r] u (by simpa[iE]using hu)) (by unfold maxLen;omega) om hbase;unfold Oper.wp execOp;simp only[ho,resolve,invoke,builtin,Sem.run_bind,Sem.run_pure,Result.andThen_ok,List.map_toArray,List.map_cons,List.map_nil,hs,hx,hrun];exact h v' w' (hown.push h2 h3 h5 hr hn) h3
theorem iW {rest:List Oper} {o:Oper} {a:Act} {Qq:Exit->Act->World->Prop} (hgd:o.guard=Q) (s x:Operand)
  (ho:o.op=.call {callee:=.builtin .append,args:=#[s,x],argTypes:=#[115,115]})
  (C:Nat) (v:Value) (rl:List RsA) (r:RsA) (hs:a.eval s=v) (hown:ResRow C w v rl)
  (ad:Addr) (c:Nat) (hx:a.eval x=J (M ad) 1 c) (hnews:∀j u,(oD r)[j]?=M u->w.cell? (ad.add j)=M u)
  (hr:IsAt C w.heap.size w r.va r.vs) (hn:r.vs≠[]->∀ad,r.va=M ad->v.ownBlock≠M ad.block)
  (hsm:rl.length<=100) (hbase:C<=w.heap.size)
  (h:∀v' w',ResRow C w' v' (rl++[r])->w.grownBy w' v.ownBlock->wpList prog ops Qq rest (a.put o.dst v') w') :
  wpList prog ops Qq (o::rest) a w:=by
 obtain⟨i,hi,hz,hsz,hby⟩:=info_parts info148;refine wpList_append_own_at w hgd s x 115 ho C 148 i _ 2 32 underlying115 hi hz hsz hby rfl dc v rl.length (iE rl) hs hown.1 ad 1 c (oD r) hx rfl hnews (fun u hu=>tP [r] u (by simpa[iE]using hu)) (by unfold maxLen;omega) om hbase ?_;intro v' w' h2 h3 _ h5;exact h v' w' (hown.push h2 h3 h5 hr hn) h3
theorem clone8_own (zs:List Int) (ad:Addr) (zc:Nat) (w:World) (h4:zs.length<=8) (hz:IsInts w (M ad) zs) :
  Calls prog 79 #[J (M ad) zs.length zc] w fun e w'=>∃v,e=rt v/\w'.ownsRow w.heap.size 3 1 v zs.length (zs.map (Y I))/\Below w.heap.size w w':=by
 have q24:∀(w:World) (a:Option Addr) (n c n' c':Nat),(binOp .eql 41 _ _).run prog w=.ok _ w:=fun w a n c n' c'=>Lib.run_eql_slice_nil w _ _ a n c n' c' underlying41
 exact ul
theorem pT (zs ys:List Int) (a a':Option Addr) (cap cap':Nat) (w:World) (hl:zs.length<=maxLen) (hz:IsInts w a zs) (hy:IsInts w a' ys) :
  Kr 190 #[J a zs.length cap,J a' ys.length cap'] w (bo (decide (zs=ys))):=by
 unfold maxLen at hl;by_cases hlen:zs.length=ys.length
 ·have hbl:((zs.length:Int) != (ys.length:Int))=false:=by simp[hlen]
  have HL:=Hi hlen;clear hlen;go_enter func190,ntmps190;go_wp2
  go_loopw [13] (fun i wr=>∃k:Nat,k<=zs.length/\i=Y I k/\Hid (zs=ys↔zs.drop k=ys.drop k)/\Below w.heap.size w wr) (fun i _=>zs.length - (intOf i).toNat)
  case atStart=>exact⟨0,nz,rfl,Iff.rfl,br⟩
  case round=>exact ui
 ·have H':Hid (¬zs=ys):=fun e=>hlen (by rw[e])
  have hbl:((zs.length:Int) != (ys.length:Int))=true:=by simp;omega
  clear hlen hz hy;go_enter func190,ntmps190;exact Xm
def oA (n m:Nat):Int:=if m=n then 0 else 1
theorem sZ (xa ya:Option Addr) (n m xc yc:Nat) (w:World) :
  Calls prog 188 #[J xa n xc,J ya m yc] w fun e w'=>e=rt (Y I (oA n m))/\w'=w:=by
 by_cases h:m=n
 ·have e0:oA n m=0:=if_pos h;rw[e0];have hb:((m:Int) != (n:Int))=false:=by simp[h]
  clear h e0;go_enter func188,ntmps188;exact uj
 ·have e0:oA n m=1:=if_neg h;rw[e0];have hb:((m:Int) != (n:Int))=true:=by simp;omega
  clear h e0;go_enter func188,ntmps188;exact uj
theorem same_any (d d':Bool) (xs ys:List Int) (va va':Option Addr) (vc vc':Nat) (w:World) (hxl:xs.length<=maxLen) (hx:IsInts w va xs) (hy:IsInts w va' ys) :
  Kr 189 #[ag #[bo d,J va xs.length vc],ag #[bo d',J va' ys.length vc']] w (bo (decide (((d,xs):Bool×List Int)=(d',ys)))):=by
 obtain⟨W,hWe⟩:=nm (((w.alloc (U #[bo d,J va xs.length vc] 148)).alloc (U #[bo d',J va' ys.length vc'] 148)));have hU:Hid (Below w.heap.size w W):=by subst hWe;exact aA (aA br _) _
 have p0:W.cell? ⟨w.heap.size,0,Q⟩=bo d:=by subst hWe;exact aB (aA br _) (aF _ _ 148 _ 0 _ rfl rfl)
 have p1:W.cell? ⟨w.heap.size,1,Q⟩=J va xs.length vc:=by subst hWe;exact aB (aA br _) (aF _ _ 148 _ 1 _ rfl rfl)
 have q0:W.cell? ⟨w.heap.size+1,0,Q⟩=bo d':=by subst hWe;exact aF _ _ 148 _ 0 _ sm rfl
 have q1:W.cell? ⟨w.heap.size+1,1,Q⟩=J va' ys.length vc':=by subst hWe;exact aF _ _ 148 _ 1 _ sm rfl
 have HX:=Hi (hx.below hU.out);have HY:=Hi (hy.below hU.out);have HWe:Hid (W=_):=hWe;clear hx hy hWe;by_cases hd:d=d'
 ·subst hd;have HD:Hid (decide (((d,xs):Bool×List Int)=(d,ys))=decide (xs=ys)):=by show _=_;simp
  go_enter func189,ntmps189
  go_upto_region 1 with fail
  rw[<-HWe.out];clear HWe
  go_wp2_with fail
  refine(pT xs ys va va' vc vc' _ hxl HX.out HY.out).mono ?_;rintro e w1 ⟨rfl,hb1⟩;have B1:=Hi (aC hU.out hb1);clear hb1;go_wp2;go_ret;exact⟨by rw[HD.out];rfl,B1.out⟩
 ·have HD:Hid (decide (((d,xs):Bool×List Int)=(d',ys))=false):=decide_eq_false (fun e=>hd (by injection e));have hd':(d==d')=false:=by simpa using hd
  clear hd;go_enter func189,ntmps189
  go_upto_region 1 with fail
  rw[<-HWe.out];clear HWe;go_wp2;go_ret;exact⟨by rw[HD.out];rfl,hU.out⟩
theorem sameRes_one (d d':Bool) (xs ys:List Int) (a a':Option Addr) (c c':Nat) (w:World) (hxl:xs.length<=maxLen) (h1:IsRes w a [(d,xs)]) (h2:IsRes w a' [(d',ys)]) :
  Kr 98 #[J a 1 c,J a' 1 c'] w (bo (decide (((d,xs):Bool×List Int)=(d',ys)))):=by
 obtain⟨b,off,va,vc,rfl,hb,p0,p1,hx⟩:=h1 0 sm;obtain⟨b',off',va',vc',rfl,hb',q0,q1,hy⟩:=h2 0 sm;simp only[Nat.zero_mul,Nat.add_zero,List.getD_cons_zero]at p0 p1 q0 q1 hx hy;have hX:=Hi hx;have hY:=Hi hy;clear h1 h2 hx hy hb hb';by_cases hd:d=d'
 ·subst hd;have KS:Hid (∀w',Below _ w w'->w'.cell? _=M _/\w'.cell? _=M _/\w'.cell? _=M _/\w'.cell? _=M _):=fun w' hb=>⟨aB hb p0,aB hb p1,aB hb q0,aB hb q1⟩
  clear p0 p1 q0 q1;go_enter func98,ntmps98;go_wp2
  go_loopw [5] (fun i wr=>∃k:Nat,k<=1/\i=Y I k/\Hid (Below w.heap.size w wr)/\(k=1->((d,xs):Bool×List Int)=(d,ys))) (fun i _=>1 - (intOf i).toNat)
  case atStart=>exact⟨0,nz,rfl,br,fun h=>by cases h⟩
  case round=>
   obtain⟨k,hk,rfl,hB,hend⟩:=hrel;by_cases hlt:k=0
   ·subst hlt;clear hend
    go_upto_region 6 with fail
    have KW:=Hi (fun w' hb=>KS.out w' (aC hB.out hb));have hXr:=Hi (hX.out.below hB.out);have hYr:=Hi (hY.out.below hB.out);refine wp_region_held_drew (S:=(fun w'=>w'.cell? ⟨b,off,Q⟩=bo d/\w'.cell? ⟨b,off+1,Q⟩=J va xs.length vc/\w'.cell? ⟨b',off',Q⟩=bo d/\w'.cell? ⟨b',off'+1,Q⟩=J va' ys.length vc')) kr ?_ (fun hHeld=>?_)
    ·exact KW.out _ (aD br)
    refine tk 0 ?_;refine tk 1 ?_;refine tk 2 ?_;refine tk 3 ?_;refine tk 4 ?_;refine tk 5 ?_;refine tk 6 ?_;refine tk 7 ?_;refine tk 8 ?_;refine tk 9 ?_;refine tk 10 ?_;refine tk 11 ?_;refine tk 12 ?_;refine tk 13 ?_;refine tk 14 ?_;refine tk 15 ?_;refine tk 16 ?_;refine tk 17 ?_;refine tk 18 ?_;refine tk 19 ?_;refine tk 20 ?_;refine tk 21 ?_;refine r1 22 (fun K hK=>?_);go_simp
    go_wp2_with (go_at_call 99;refine(rH xs ys va va' vc vc' _ hxl (hXr.out.below (aD br)) (hYr.out.below (aD br))).mono ?_;rintro e w2 ⟨rfl,hb2⟩)
    have B2:=Hi (aC (aD br) hb2);clear hHeld;refine hK.out _ _ (KW.out _ B2.out) (fun hHeld=>?_);clear hK K;refine tk 23 ?_;refine tk 24 ?_;refine wpAnyH_done kr ?_ _;clear hHeld KW;by_cases hxy:xs=ys
    ·have e0:=decide_eq_true hxy;have H1:Hid (((d,xs):Bool×List Int)=(d,ys)):=by show _=_;rw[hxy]
     rw[e0];clear hxy e0;go_wp2;go_roundw
     case rel=>exact⟨1,nr,by go_num,aC hB.out B2.out,fun _=>H1.out⟩
     case measure=>simp[intOf]
    ·have e0:=decide_eq_false hxy;have H1:Hid (¬((d,xs):Bool×List Int)=(d,ys)):=fun e=>hxy (by injection e)
     rw[e0];clear hxy e0;go_wp2;go_ret;exact⟨by rw[decide_eq_false H1.out];rfl,aC hB.out B2.out⟩
   ·have hk1:k=1:=om;subst hk1;have H1:=Hi (hend rfl);clear hend hlt;go_wp2;go_ret;exact⟨by rw[decide_eq_true H1.out];rfl,hB.out⟩
 ·have HD:Hid (decide (((d,xs):Bool×List Int)=(d',ys))=false):=decide_eq_false (fun e=>hd (by injection e))
  have hd':(d=true/\d'=false)∨(d=false/\d'=true):=by
   cases d <;> cases d' <;> simp at hd ⊢
  clear hd hX hY;rcases hd' with ⟨rfl,rfl⟩ | ⟨rfl,rfl⟩ <;>
  ·go_enter func98,ntmps98;go_wp2
   go_loopw [5] (fun i wr=>i=Y I 0/\wr=w) (fun i _=>0)
   case atStart=>exact⟨rfl,rfl⟩
   case round=>
    obtain⟨rfl,hwr⟩:=hrel;subst hwr
    go_wp2_with fail
    go_quiet (fail)
    go_wp2;go_ret;exact⟨by rw[HD.out];rfl,below_drewN br _⟩
theorem zj (h:p:=by
 have h:=congrArg List.length htold.out;rw[lm,HR1.out]at h;omega):p:=h
theorem Uf (h:p:=by
 rw[hkk,le nr]at h;exact h):p:=h
theorem Vt (h:p:=by
 obtain⟨b,off,h,_⟩:=hs 0 om;exact⟨_,h⟩):p:=h
section
theorem cJ {l:List TxA} (h:eN l=0):l.length<=8:=by
 exact Xn
theorem pK {l:List TxA} (h:eN l=0) (k:Nat) (hk:k<l.length):kF (l.getD k x0)=0:=by
 have h8:=cJ h;unfold eN at h;rw[if_neg om]at h;exact jQ kF l x0 h k hk
theorem rM {base base':Nat} {e:TypeId} {size:Nat} {v:Value} (h:w.ownsRow base e size v n xs) (hb:base'<=base):w.ownsRow base' e size v n xs:=by
 exact Ur
theorem uF {C C':Nat} {v:Value} {rl:List RsA} (h:ResRow C w v rl) (hc:C'<=C):ResRow C' w v rl:=⟨rM h.1 hc,fun r hr=>⟨(h.2 r hr).1.widen hc nr,(h.2 r hr).2⟩⟩
structure Kept (g O:Nat) (v:Value) (w w':World):Prop where
 os:w'.os=w.os
 tape:w'.tape=w.tape
 output:w'.output=w.output
 size:w.heap.size<=w'.heap.size
 block:∀b,b<w.heap.size->b≠g->b≠O->v.ownBlock≠M b->w'.heap[b]?=w.heap[b]?
theorem Kept.refl (g O:Nat) (v:Value) (w:World):Kept g O v w w:=⟨rfl,rfl,rfl,nr,fun _ _ _ _ _=>rfl⟩
theorem Kept.on {g O:Nat} {v:Value} {a:World} (h:Kept g O v a w) (hg:w.grownBy w' row) (hr:∀j,row=M j->j=g∨j=O∨v.ownBlock=M j):Kept g O v a w':=
 ⟨hg.os.trans h.os,hg.tape.trans h.tape,hg.output.trans h.output,nh h.size hg.size,fun b hb h1 h2 h3=>(hg.block b (nd hb h.size) (fun e=>by
  rcases hr b e.symm with e | e | e
  ·exact h1 e
  ·exact h2 e
  ·exact h3 e)).trans (h.block b hb h1 h2 h3)⟩
theorem Kept.cell {g O:Nat} {v:Value} {a:World} (h:Kept g O v a w) {b j:Nat} (hc:a.cell? ⟨b,j,Q⟩=M u) (h1:b≠g) (h2:b≠O) (h3:v.ownBlock≠M b):w.cell? ⟨b,j,Q⟩=M u:=
 (nu (h.block b (np a ⟨b,j,Q⟩ hc) h1 h2 h3)).trans hc
theorem Kept.below {g O:Nat} {v:Value} {a:World} (h:Kept g O v a w) (hB:B<=a.heap.size) (h1:B<=g) (h2:B<=O) (h3:∀j,v.ownBlock=M j->B<=j):Below B a w:=
 ⟨h.os,h.tape,h.output,h.size,fun b hb=>h.block b om om om (fun e=>by have:=h3 b e;omega)⟩
section
variable {g O X C:Nat} {v st a0 a1 a2:Value} {V:World}
abbrev yM (g O X:Nat) (v st a0 a1 a2:Value) (V wx:World):Prop:=
 wx.cell? ⟨X,0,Q⟩=M a0/\wx.cell? ⟨X,1,Q⟩=M a1/\wx.cell? ⟨X,2,Q⟩=M a2/\wx.cell? ⟨O,0,Q⟩=M st/\(∀j,wx.frozen? ⟨O,j,Q⟩=false)/\(∃u,wx.cell? ⟨O,1,Q⟩=M u)/\Hid (Kept g O v V wx)
theorem held_on {w2:World} (h:yM g O X v st a0 a1 a2 V w1) (hg:w1.grownBy w2 row) (hr:∀j,row=M j->j=g∨v.ownBlock=M j) (hO:O≠g) (hX:X≠g) (hvO:v.ownBlock≠M O) (hvX:v.ownBlock≠M X):yM g O X v st a0 a1 a2 V w2:=by
 obtain⟨h0,h1,h2,h3,h4,⟨u,h5⟩,h6⟩:=h
 have far:∀b j u,b≠g->_≠M b->w1.cell? ⟨b,j,Q⟩=M u->w2.cell? _=M u:=fun b j u n1 n2 hc=>hg.cell hc (fun e=>by
  rcases hr b e.symm with e | e
  ·exact n1 e
  ·exact n2 e)
 have hOlt:O<_:=np w1 ⟨O,0,Q⟩ h3;refine⟨far _ _ _ hX hvX h0,far _ _ _ hX hvX h1,far _ _ _ hX hvX h2,far _ _ _ hO hvO h3,fun j=>?_,⟨u,far _ _ _ hO hvO h5⟩,h6.out.on hg (fun j e=>(hr j e).imp id .inr)⟩
 exact(nv (hg.block O hOlt (fun e=>by
  rcases hr O e.symm with e | e
  ·exact hO e
  ·exact hvO e))).trans (h4 j)
theorem held_drew (h:yM g O X v st a0 a1 a2 V w1):yM g O X v st a0 a1 a2 V w1.drew:=by
 obtain⟨h0,h1,h2,h3,h4,h5,h6⟩:=h;exact⟨h0,h1,h2,h3,h4,h5,⟨h6.out.os,h6.out.tape,h6.out.output,h6.out.size,h6.out.block⟩⟩
theorem held_alloc (h:yM g O X v st a0 a1 a2 V w1) (o:Obj) (hO:O≠g) (hX:X≠g) (hvO:v.ownBlock≠M O) (hvX:v.ownBlock≠M X):yM g O X v st a0 a1 a2 V (w1.alloc o):=
 held_on h (lb w1 o Q) (fun j e=>by cases e) hO hX hvO hvX
theorem held_set (h:yM g O X v st a0 a1 a2 V w1) (u:Value) (hOX:O≠X):yM g O X v st a0 a1 a2 V (w1.setCell ⟨O,1,Q⟩ u):=by
 obtain⟨h0,h1,h2,h3,h4,⟨u',h5⟩,h6⟩:=h;refine⟨?_,?_,?_,?_,fun j=>?_,⟨u,?_⟩,h6.out.on (aP w1 O 1 u) (fun j e=>by injection e with e;exact .inr (.inl e.symm))⟩
 ·rw[nt _ _ _ _ (by simpa using hOX)];exact h0
 ·rw[nt _ _ _ _ (by simpa using hOX)];exact h1
 ·rw[nt _ _ _ _ (by simpa using hOX)];exact h2
 ·simp[go_sem,h3]
 ·simp[go_sem,h4]
 ·simp[go_sem,h5]
theorem cut_round {X1:World} {o:Obj} {rl:List RsA} {r:RsA} (hst:wa.ownsRow B 3 1 (J (M ⟨g,0,Q⟩) n cap) n xs) (hX:X1.heap=(wa.alloc o).heap) (hg1:X1.grownBy w1 v.ownBlock) (hres:ResRow C w1 v' (rl++[r])) (hown:∀j,v.ownBlock=M j->C<=j) (hgC:g<C) (hOC:O<C) (hgO:O≠g) :
  (w1.setCell ⟨O,1,Q⟩ v').ownsRow B 3 1 (J (M ⟨g,0,Q⟩) n cap) n xs/\ResRow C (w1.setCell ⟨O,1,Q⟩ v') v' (rl++[r]):=by
 have h1:X1.ownsRow B 3 1 (J (M ⟨g,0,Q⟩) n cap) n xs:=by
  obtain⟨q,hq⟩:=hst.alloc o;refine⟨q,?_⟩;rw[hX];exact hq
 have h2:=h1.kept hg1 (.inr (fun e=>by have:=hown g e.symm;omega));exact⟨h2.kept (aP w1 O 1 v') (.inr (by simp[Value.ownBlock];omega)),hres.kept (aP w1 O 1 v') (fun j e=>by injection e with e;omega)⟩
end
variable (sa la:Option Addr) (sc lc:Nat) (s:List Int) (l:List TxA)
theorem yZ (w:World) (hs:IsInts w sa s) (h8:s.length=8) (hl:IsTxs w la l) (hE:eN l=0) :
  Calls prog 224 #[J sa s.length sc,J la l.length lc] w fun e w'=>∃g cap v rl,e=rt (ag #[J (M ⟨g,0,Q⟩) s.length cap,v])/\w'.ownsRow w.heap.size 3 1 (J (M ⟨g,0,Q⟩) s.length cap) s.length ((bK s l).map (Y I))/\ResRow w.heap.size w' v rl/\rl.map RsA.told=bE s l/\Below w.heap.size w w':=by
 have hl8:=cJ hE
 obtain⟨ad,rfl⟩:∃ad,sa=M ad:=by
  exact Vt
 have HS:=Hi hs;have HL:=Hi hl;have HE:=Hi hE;have H8:=Hi h8;clear hs hl hE h8;go_enter func224,ntmps224
 go_wp2_with fail
 refine(clone8_own s ad sc _ (by have:=H8.out;omega) (HS.out.below (aA br _))).mono ?_;rintro e w1 ⟨cv,rfl,hcl,hb1⟩;obtain⟨g,cap,rfl,hg1,hg2⟩:=hcl.form (by have:=H8.out;omega);have hg1':w.heap.size+1<=g:=by simpa using hg1
 have hst0:w1.ownsRow w.heap.size 3 1 _ _ _:=rM hcl sm;have wB1:=aC (aA br _) hb1;have t0:w1.cell? ⟨w.heap.size,0,Q⟩=J Q 0 0:=aB hb1 sm;have t1:w1.cell? ⟨w.heap.size,1,Q⟩=J Q 0 0:=aB hb1 sm;have tf:∀j,w1.frozen? _=false:=fun j=>(hb1.frozen (p:=⟨w.heap.size,j,Q⟩) sm).trans sm
 clear hb1 hcl hg1;have UW:Below _ w1 (w1.alloc (U #[J (M ⟨g,0,Q⟩) s.length cap,J Q 0 0] 250)):=aA br _;have hwl:w.heap.size<_:=np w1 _ t0;have p0:=aB UW t0;have p1:=aB UW t1;have pf:=fun j=>(UW.frozen (p:=⟨w.heap.size,j,Q⟩) hwl).trans (tf j)
 have q0:(w1.alloc (U #[J (M ⟨g,0,Q⟩) s.length cap,J Q 0 0] 250)).cell? ⟨w1.heap.size,0,Q⟩=J (M ⟨g,0,Q⟩) s.length cap:=sm;have q1:(w1.alloc (U #[J (M ⟨g,0,Q⟩) s.length cap,J Q 0 0] 250)).cell? ⟨w1.heap.size,1,Q⟩=J Q 0 0:=sm;have qf:∀j,(w1.alloc (U #[J (M ⟨g,0,Q⟩) s.length cap,J Q 0 0] 250)).frozen? ⟨w1.heap.size,j,Q⟩=false:=fun j=>by simp
 have hstW:Hid ((w1.alloc (U #[J (M ⟨g,0,Q⟩) s.length cap,J Q 0 0] 250)).ownsRow _ 3 1 _ _ _):=hst0.alloc _;have WB:=Hi (aC wB1 UW);have hWs:w1.heap.size+1<=(w1.alloc (U #[J (M ⟨g,0,Q⟩) s.length cap,J Q 0 0] 250)).heap.size:=sm;clear hst0 wB1 t0 t1 tf UW;go_wp2;generalize (w1.alloc (U #[J (M ⟨g,0,Q⟩) s.length cap,J Q 0 0] 250))=W at *;generalize w1.heap.size=O at *
 go_loopw [7,13] (fun _ i wr=>∃(k:Nat) (v:Value) (rl:List RsA),k<=l.length/\i=Y I k/\wr.cell? ⟨O,0,Q⟩=J (M ⟨g,0,Q⟩) s.length cap/\wr.cell? ⟨O,1,Q⟩=M v/\(∀j,wr.frozen? ⟨O,j,Q⟩=false)/\wr.cell? ⟨w.heap.size,0,Q⟩=J Q 0 0/\wr.cell? ⟨w.heap.size,1,Q⟩=J Q 0 0/\(∀j,wr.frozen? ⟨w.heap.size,j,Q⟩=false)/\Hid (wr.ownsRow w.heap.size 3 1 (J (M ⟨g,0,Q⟩) s.length cap) s.length ((bK s (l.take k)).map (Y I)))/\Hid (ResRow (O+1) wr v rl)/\Hid (rl.map RsA.told=bE s (l.take k))/\Hid (Below w.heap.size w wr)/\O+1<=wr.heap.size) (fun _ i _=>l.length - (intOf i).toNat)
 case atStart=>exact⟨0,_,[],nz,rfl,q0,q1,qf,p0,p1,pf,hstW,kS _ _,rfl,WB,hWs⟩
 case round=>
  obtain⟨k,v,rl,hk,rfl,o0,o1,of,b0,b1,bf,hst,hres,htold,hbl,hsz⟩:=hrel;clear q0 q1 qf p0 p1 pf hstW WB hWs;by_cases hlt:k<l.length
  ·obtain⟨b,off,rfl,hb,c0,c1,c2,hx⟩:=HL.out k hlt;have d0:=aB hbl.out c0;have d1:=aB hbl.out c1;have d2:=aB hbl.out c2;have HX:=Hi hx;have HC:=Hi (pK HE.out k hlt);have HT1:=Hi (lI s l k hlt);have HT2:=Hi (uD s l k hlt);have hs1:Hid ((bK s (l.take k)).length=_):=fQ _ _;have HR1:Hid ((bE s (l.take k)).length=k):=by show _=_;rw[fP,l6];omega
   clear c0 c1 c2 hx;generalize bK s (l.take k)=s1 at *;generalize bE s (l.take k)=R1 at *;generalize l.getD k x0=x at *;obtain⟨ra,ga,sa,rc,gc,sc',rs,gs,ss⟩:=x;simp only at d0 d1 d2
   have CA:Hid (letI Z:=pY s1 ⟨ra,ga,sa,rc,gc,sc',rs,gs,ss⟩;∀w',Below w.heap.size w w'->w'.ownsRow w.heap.size 3 1 _ s.length _->Calls prog 261 _ w' fun e w''=>∃va vc,e=rt (ag #[bo (uZ s1 ⟨ra,ga,sa,rc,gc,sc',rs,gs,ss⟩),J va Z.length vc])/\IsAt w'.heap.size w''.heap.size w'' va Z/\w''.ownsRow w.heap.size 3 1 _ s.length ((pM s1 ⟨ra,ga,sa,rc,gc,sc',rs,gs,ss⟩).map (Y I))/\w'.grownBy w'' (M g)):=fun w' h1 h2=>by
    have h:=apply_any ra ga sa rc gc sc' rs gs ss s1 g cap w.heap.size w w' HX.out.t h1 nr (by rw[hs1.out];exact h2) (by rw[hs1.out];exact H8.out) HC.out;rw[hs1.out]at h;exact h
   generalize uZ s1 ⟨ra,ga,sa,rc,gc,sc',rs,gs,ss⟩=D at *;generalize pY s1 ⟨ra,ga,sa,rc,gc,sc',rs,gs,ss⟩=Z at *;generalize pM s1 ⟨ra,ga,sa,rc,gc,sc',rs,gs,ss⟩=E1 at *
   have hrl:rl.length<=100:=by
    exact zj
   have hgO:O≠g:=om;have hown:=fun j hj=>hres.out.1.lt j hj
   have hvO:_≠M O:=fun e=>by have:=(hown O e).1;omega
   have hvX:_≠M wr.heap.size:=fun e=>by have:=(hown _ e).2;omega
   have hvw:_≠M w.heap.size:=fun e=>by have:=(hown _ e).1;omega
   go_upto_region 5 with fail
   have UV:Below _ wr (wr.alloc (U #[J ra rs.length rc,J ga gs.length gc,J sa ss.length sc'] 95)):=aA br _;have x0':(wr.alloc (U #[J ra rs.length rc,J ga gs.length gc,J sa ss.length sc'] 95)).cell? ⟨wr.heap.size,0,Q⟩=J ra rs.length rc:=sm;have x1':(wr.alloc (U #[J ra rs.length rc,J ga gs.length gc,J sa ss.length sc'] 95)).cell? ⟨wr.heap.size,1,Q⟩=J ga gs.length gc:=sm;have x2':(wr.alloc (U #[J ra rs.length rc,J ga gs.length gc,J sa ss.length sc'] 95)).cell? ⟨wr.heap.size,2,Q⟩=J sa ss.length sc':=sm;have o0V:=aB UV o0;have o1V:=Hi (aB UV o1);have ofV:=fun j=>(UV.frozen (p:=⟨O,j,Q⟩) (by show O<_;omega)).trans (of j)
   have b0V:=aB UV b0;have b1V:=aB UV b1;have bfV:=fun j=>(UV.frozen (p:=⟨w.heap.size,j,Q⟩) (by show w.heap.size<_;omega)).trans (bf j)
   have hstV:Hid ((wr.alloc (U #[J ra rs.length rc,J ga gs.length gc,J sa ss.length sc'] 95)).ownsRow _ 3 1 _ _ _):=hst.out.alloc _;have hresV:=Hi (hres.out.below UV);have hblV:=Hi (aC hbl.out UV);have hszV:wr.heap.size+1=(wr.alloc (U #[J ra rs.length rc,J ga gs.length gc,J sa ss.length sc'] 95)).heap.size:=sm;clear UV o0 o1 of b0 b1 bf hst hres hbl d0 d1 d2;generalize (wr.alloc (U #[J ra rs.length rc,J ga gs.length gc,J sa ss.length sc'] 95))=V at *;generalize hXe:wr.heap.size=X at *;have hXO:O≠X:=om;have hXg:X≠g:=om;have HS0:Hid (yM g O X v _ _ _ _ V V):=⟨x0',x1',x2',o0V,ofV,⟨v,o1V.out⟩,Kept.refl _ _ _ _⟩
   have hnv:Hid (∀(lo:Nat) (wz:World) va,X<=lo->IsAt lo wz.heap.size wz va Z->Z≠[]->∀ad,va=M ad->_≠M ad.block):=fun lo wz va hlo h hne ad ha e=>by
    obtain⟨b,off,ha',h1,_,_⟩:=h 0 (List.length_pos_iff.2 hne);rw[ha]at ha';injection ha' with ha'
    subst ha';have:=(hown _ e).2;simp at this;omega
   have HB0:Hid (V.cell? _=M _/\V.cell? _=M _/\∀j,V.frozen? _=false):=⟨b0V,b1V,bfV⟩;clear b0V b1V bfV;have o1V':=o1V.out;have hOV:Hid (O+1<=V.drew.heap.size):=by show O+1<=V.heap.size;omega
   have hresVd:=Hi (hresV.out.below (aD br));have hXV:Hid (X<=V.drew.heap.size):=by show X<=V.heap.size;omega
   have hCs:Hid (∀(wa:World) {o:Obj},V.drew.grownBy wa (M g)->O+1<=(wa.alloc o).heap.size):=fun wa o h=>by
    have:=h.size;have h2:=hOV.out;simp only[World.size_alloc];omega
   go_region_law (first
     | (refine wJ (by rfl) _ _ (by rfl) (O+1) v rl ⟨va,vc,D,Z⟩ (by rfl) (hra.out.below (aA br _)) ⟨wa.heap.size,0,none⟩ 1 (by rfl) (vS wa D _ _ rfl) (IsAt.widen (IsAt.below hva (aA br _)) hOV.out sm) (hnv.out _ _ _ hXV.out hva) hrl (hCs.out wa hga) ?_;intro v' w1 hres1 hg1;obtain⟨g',cap',rfl,_,_⟩:=hres1.1.form sm;have oc:=hg1.cell (ob _) (fun e=>hvO e.symm);have Hb:Hid (yM g O X v (J (M ⟨g,0,Q⟩) s.length cap) (J ra rs.length rc) (J ga gs.length gc) (J sa ss.length sc') V w1):=held_on (held_alloc Ha.out _ hgO hXg hvO hvX) hg1 (fun j e=>.inr e) hgO hXg hvO hvX;have hfb:=Hb.out.2.2.2.2.1)
     | (go_simp;go_at_call 261;refine(CA.out _ hblV.out.drew hstV.out).mono ?_;rintro e wa ⟨va,vc,rfl,hva,hst2,hga⟩;have oa:=hga.cell o1V.out (by simp;omega);have ob:=(fun o=>aB (aA br o) oa);have hra:Hid (ResRow (O+1) wa v rl):=hresVd.out.kept (row:=M g) hga (fun j e=>by injection e with e;omega);have Ha:Hid (yM g O X v (J (M ⟨g,0,Q⟩) s.length cap) (J ra rs.length rc) (J ga gs.length gc) (J sa ss.length sc') V wa):=held_on (held_drew HS0.out) hga (fun j e=>by injection e with e;exact .inl e.symm) hgO hXg hvO hvX;go_wp2_with fail))
   all_goals (
    have hL:(rl++[(⟨va,vc,D,Z⟩:RsA)]).length=rl.length+1:=sm;rw[hL]at hres1;obtain⟨_,_,_,n0,nf,_,hkp0⟩:=held_set Hb.out (J (M ⟨g',0,Q⟩) (rl.length+1) cap') hXO;have n1:(w1.setCell ⟨O,1,Q⟩ (J (M ⟨g',0,Q⟩) (rl.length+1) cap')).cell? ⟨O,1,Q⟩=J (M ⟨g',0,Q⟩) (rl.length+1) cap':=by simp[go_sem,oc]
    obtain⟨hst3,hres3⟩:=cut_round (g:=g) (O:=O) (C:=O+1) (v:=v) hst2 rfl hg1 hres1 (fun j e=>(hown j e).1) om om hgO;have hkp:=hkp0.out;have m0:=hkp.cell HB0.out.1 om om hvw;have m1:=hkp.cell HB0.out.2.1 om om hvw;have mf:=fun j=>(nv (a:=⟨w.heap.size,j,Q⟩) (hkp.block w.heap.size om om om hvw)).trans (HB0.out.2.2 j)
    have hst4:Hid ((w1.setCell ⟨O,1,Q⟩ (J (M ⟨g',0,Q⟩) (rl.length+1) cap')).ownsRow w.heap.size 3 1 (J (M ⟨g,0,Q⟩) s.length cap) s.length ((bK s (l.take (k+1))).map (Y I))):=by rw[HT1.out];exact hst3
    have hres4:=Hi hres3;have ht4:Hid ((rl++[(⟨va,vc,D,Z⟩:RsA)]).map RsA.told=bE s (l.take (k+1))):=by show _=_;rw[HT2.out,ny,htold.out];rfl
    have hbl4:=Hi (hblV.out.trans (hkp.below om om om (fun j e=>by have:=(hown j e).1;omega)));have hsz4:O+1<=(w1.setCell ⟨O,1,Q⟩ (J (M ⟨g',0,Q⟩) (rl.length+1) cap')).heap.size:=by have:=hkp.size;omega
    clear hkp hkp0 hst3 hres3 hg1 hres1 Hb hst2 hga hva oa ob oc hra Ha hfb o1V' o1V hstV hresV hblV hresVd HS0 HB0 x0' x1' x2' o0V ofV hCs hnv CA hL hown;generalize (w1.setCell ⟨O,1,Q⟩ (J (M ⟨g',0,Q⟩) (rl.length+1) cap'))=WF at *;go_wp2;go_roundw
    case rel=>exact⟨k+1,_,rl++[⟨va,vc,D,Z⟩],by omega,by go_num,n0,n1,nf,m0,m1,mf,hst4,hres4,ht4,hbl4,hsz4⟩
    case measure=>simp[intOf];omega)
  ·have hkk:k=l.length:=om
   have hfin:Hid (wr.ownsRow w.heap.size 3 1 (J (M ⟨g,0,Q⟩) s.length cap) s.length ((bK s l).map (Y I))):=by
    have h:=hst.out;exact Uf
   have htl:Hid (rl.map RsA.told=bE s l):=by
    have h:=htold.out;exact Uf
   obtain⟨xa,xc,hv⟩:∃xa xc,v=J xa rl.length xc:=by
    rcases hres.out.1.2 with ⟨h,h0⟩ | ⟨g2,cap2,cur,h,_⟩
    ·exact⟨Q,0,by rw[h,h0]⟩
    ·exact⟨_,_,h⟩
   subst hv;have hlt':=hlt;clear hst htold;go_wp2;have r0:((wr.setCell ⟨w.heap.size,0,Q⟩ (J (M ⟨g,0,Q⟩) s.length cap)).setCell ⟨w.heap.size,1,Q⟩ (J xa rl.length xc)).cell? ⟨w.heap.size,0,Q⟩=J (M ⟨g,0,Q⟩) s.length cap:=by simp[go_sem,b0]
   have r1:((wr.setCell ⟨w.heap.size,0,Q⟩ (J (M ⟨g,0,Q⟩) s.length cap)).setCell ⟨w.heap.size,1,Q⟩ (J xa rl.length xc)).cell? ⟨w.heap.size,1,Q⟩=J xa rl.length xc:=by simp[go_sem,b1]
   refine bodyPost_ret (v:=ag #[J (M ⟨g,0,Q⟩) s.length cap,J xa rl.length xc]) (by simp[results,results224,go_sem,r0,r1]) rfl ⟨g,cap,_,rl,rfl,?_,?_,htl.out,?_⟩
   ·exact(hfin.out.kept (aP wr w.heap.size 0 _) (.inr (by simp[Value.ownBlock];omega))).kept (aP _ w.heap.size 1 _) (.inr (by simp[Value.ownBlock];omega))
   ·exact uF ((hres.out.kept (aP wr w.heap.size 0 _) (fun j e=>by injection e with e;omega)).kept (aP _ w.heap.size 1 _) (fun j e=>by injection e with e;omega)) om
   ·exact aG (aG hbl.out nr _) nr _
end
end Go.Proofs.YtcgpkonfneofdaaGreatDoor
