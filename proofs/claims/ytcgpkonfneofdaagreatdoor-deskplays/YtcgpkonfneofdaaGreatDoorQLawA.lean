/- Conditions: those that each theorem states. -/
import Derived.Test.YtcgpkonfneofdaaGreatDoorQStoreI
import Derived.Test.YtcgpkonfneofdaaGreatDoorQPlaceE
import Derived.Laws.BitsAllLaws
import Derived.Laws.Bits64
import Derived.Lib.AtoiTie
import Derived.Lib.ItoaNum
import Derived.Lib.SplitLaws
import Derived.Lib.IndexBytes
import Derived.Lib.AppendIntMem
import Derived.Lib.AtoiAllCases
import Derived.LaidMore
import Derived.Lay
import Derived.Stop.Joined
import Derived.Stop.LaidErr
import Derived.MakeChecks
import Derived.Lib.LaidTab
import Derived.Shelf.Vars
set_option maxRecDepth 100000
set_option maxHeartbeats 8000000
namespace Go.Proofs.YtcgpkonfneofdaaGreatDoor
open Go.RowKit Go.Proofs.Tryz
open Go.Value renaming slice->J,int->Y,bool->bo,pointer->pd,agg->ag,tuple->tu,string->sg,iface->fc
open Go.IntKind renaming i64->I
open Go.Obj renaming cells->U
open Go.Ending renaming returned->rt,panicked->pg
open Option renaming some->M,none->Q
variable {s t:ByteArray} {a:Option Addr} {c C n k P lo hi lo' hi' C' B:Nat} {v v':Value} {p:Prop} {x b:Int} {bs zs r:List Int} {w':World} {row:Option Nat}
section
theorem serE_len {s:List Int} {l:List TxA} (h:¬s.length=8):fN s l=1:=by
 have h1:cP s=1:=if_neg h;unfold fN;rw[h1];rfl
theorem serE_chk {s:List Int} {l:List TxA} (h:s.length=8):fN s l=eN l:=by
 have h1:cP s=0:=if_pos h;unfold fN;rw[h1,aH,if_pos rfl,aH,aH];split <;> simp_all
theorem rC {w:World} {z:Int} {t:List Int} (h:IsInts w a (z::t)):a=Q->c=0:=fun e=>by
 obtain⟨b,off,ha,_⟩:=h 0 sm;rw[e]at ha
 cases ha
theorem some_of_gs {w:World} {z:Gd} {t:List Gd} (h:IsGs w a (z::t)):a=Q->c=0:=fun e=>by
 obtain⟨b,off,ha,_⟩:=h 0 sm;rw[e]at ha
 cases ha
theorem qE {w:World} {z:St} {t:List St} (h:IsSs w a (z::t)):a=Q->c=0:=fun e=>by
 obtain⟨b,off,ha,_⟩:=h 0 sm;rw[e]at ha
 cases ha
theorem isTxs_three (w:World) (x y z:TxA) (n:Nat) (hn:n=w.heap.size) (hx:IsX w x) (hy:IsX w y) (hz:IsX w z):IsTxs (w.alloc (U #[J x.ra x.rs.length x.rc,J x.ga x.gs.length x.gc,J x.sa x.ss.length x.sc,J y.ra y.rs.length y.rc,J y.ga y.gs.length y.gc,J y.sa y.ss.length y.sc,J z.ra z.rs.length z.rc,J z.ga z.gs.length z.gc,J z.sa z.ss.length z.sc] 95)) (M ⟨n,0,Q⟩) [x,y,z]:=by
 subst hn;intro i hi;have hi3:i<3:=by simpa using hi
 match i,hi3 with
 | 0,_=>exact⟨w.heap.size,0,rfl,by simp,by simp,by simp,by simp,hx.below (aA br _)⟩
 | 1,_=>exact⟨w.heap.size,0,rfl,by simp,by simp,by simp,by simp,hy.below (aA br _)⟩
 | 2,_=>exact⟨w.heap.size,0,rfl,by simp,by simp,by simp,by simp,hz.below (aA br _)⟩
def S0:List Int:=[5,1,0,0,0,0,0,0]
abbrev xPay (ra ga sa:Option Addr) (rc gc sc:Nat):TxA:=⟨ra,ga,sa,rc,gc,sc,[0,1],[gPay 3],[s1Pay 3,s2Pay 3]⟩
abbrev xNote (ra sa:Option Addr) (rc sc:Nat):TxA:=⟨ra,Q,sa,rc,0,sc,[1],[],[sNote]⟩
section
variable (ra ga sa ra' ga' sa' ra2 sa2:Option Addr) (rc gc sc rc' gc' sc' rc2 sc2:Nat)
end
end
section
open Go.ChangeShapes Go.WideShapes Go.ChangeAt Go.RowKit Go.Deep
section
variable {H:Type} {enc:TypeId×Value->H} {w:World} {base:Nat} {held:Bool}
end
theorem SO.form {w:World} {ea xa:Option Addr} {ec xc:Nat} {E:List Int} {R:List (Bool×List Int)} (h:SO C w ea ec xa xc E R):(xa=Q/\xc=0/\R=[])∨(∃b,xa=M ⟨b,0,Q⟩/\R.length<=xc):=by
 obtain⟨_,_,rl,h3,h4⟩:=h;rcases h3.1.2 with ⟨hv,h0⟩ | ⟨g,cap,cur,hv,_,_,hnc,_⟩
 ·injection hv with e1 e2 e3
  exact .inl ⟨e1,e3,kh e2⟩
 ·injection hv with e1 e2 e3
  exact .inr ⟨g,e1,by rw[e2,e3];exact hnc⟩
end
theorem uC:∀(l:List TxA) (s:List Int),(∀x∈l,x.rs.length<=4)->∀r∈bE s l,r.2.length<=4
 | [],s,_,r,hr=>by cases hr
 | x::t,s,h,r,hr=>by
  rcases List.mem_cons.1 hr with rfl | hr
  ·show (dA s x.rs).length<=4;rw[mJ];exact h x (wl)
  ·exact uC t _ (fun y hy=>h y (ly _ hy)) r hr
theorem chkL_mem {l:List TxA} (h:eN l=0) (x:TxA) (hx:x∈l):kF x=0:=by
 obtain⟨k,hk,rfl⟩:=List.mem_iff_getElem.1 hx;have:=pK h k hk;simpa[List.getD,hk]using this
theorem chkL_reads {l:List TxA} (h:eN l=0):∀x∈l,x.rs.length<=4:=fun x hx=>by
 have h1:bP x.rs x.gs x.ss=0:=chkL_mem h x hx;exact(bI _ _ _ (bR h1).1).1
theorem sRes_vals (s:List Int) (l:List TxA):∀r∈cF s l,r.2.length<=100:=fun r hr=>by
 unfold cF at hr;split at hr
 ·rename_i h;have:=uC l s (chkL_reads (iY h).2) r hr;omega
 ·cases hr
theorem info95:(prog.info? 95).map (fun i=>(i.zero,i.size,i.bytes))=M (M (ag #[J Q 0 0,J Q 0 0,J Q 0 0]),3,72):=by kernel_rfl
def kP (x:TxA):List Value:=[J x.ra x.rs.length x.rc,J x.ga x.gs.length x.gc,J x.sa x.ss.length x.sc]
def iQ:List TxA->List Value
 | []=>[]
 | x::l=>kP x++iQ l
theorem aBd:∀l:List TxA,(iQ l).length=l.length*3
 | []=>rfl
 | x::l=>by simp[iQ,kP,aBd l];omega
theorem aBe:∀(l m:List TxA),iQ (l++m)=iQ l++iQ m
 | [],_=>rfl
 | x::l,m=>by simp[iQ,aBe l m]
theorem aBc:∀(l:List TxA),∀u∈iQ l,u.oneCell'=true
 | [],u,h=>by cases h
 | x::l,u,h=>by
   simp only[iQ,List.mem_append]at h;rcases h with h | h
   ·simp only[kP,List.mem_cons,List.not_mem_nil,or_false]at h;rcases h with rfl | rfl | rfl <;> rfl
   ·exact aBc l u h
theorem flatX_at:∀(l:List TxA) (i j:Nat),i<l.length->j<3->(iQ l)[i*3+j]?=(kP (l.getD i x0))[j]?
 | [],i,j,h,_=>absurd h sm
 | x::l,0,j,_,hj=>by
   simp only[iQ,Nat.zero_mul,Nat.zero_add];rw[List.getElem?_append_left (by simpa[kP]using hj)];rfl
 | x::l,i+1,j,h,hj=>by
   simp only[iQ];rw[List.getElem?_append_right (by simp[kP];omega)];have e:(i+1)*3+j - (kP x).length=i*3+j:=by simp[kP];omega
   rw[e,flatX_at l i j (by simpa using h) hj];rfl
theorem txs_of_owns {w:World} {base:Nat} {l:List TxA} (h:w.ownsRow base 95 3 v n (iQ l)) (hx:∀x∈l,IsX w x):∃a cap,v=J a l.length cap/\IsTxs w a l:=by
 have hn:l.length=n:=by have:=h.1;rw[aBd]at this;omega
 rcases h.2 with ⟨rfl,h0⟩ | ⟨g,cap,cur,rfl,hb,hg,hnc,hcm,hcs,htake⟩
 ·exact xx
 ·refine⟨M ⟨g,0,Q⟩,cap,by rw[hn],fun i hi=>?_⟩;have hc:=fun (j:Nat) (hj:j<3) (u:Value) (hu:(kP (l.getD i x0))[j]?=M u)=>h.cells (g:=g) rfl (i*3+j) u ((flatX_at l i j hi hj).trans hu)
  simp only[bZ,Nat.zero_add]at hc;refine⟨g,0,rfl,(Array.getElem?_eq_some_iff.1 hg).1,?_,?_,?_,?_⟩
  ·simpa using hc 0 om _ rfl
  ·simpa using hc 1 om _ rfl
  ·simpa using hc 2 om _ rfl
  ·exact hx _ (by simp[List.getD,hi])
theorem vals_few {s:List Int} {l:List TxA} (hE:fN s l=0):∀r∈bE s l,r.2.length<=100:=by
 have h:=sRes_vals s l;have e:cF s l=bE s l:=if_pos hE;rw[e]at h;exact h
theorem Xi (h:p:=by
 apply beq_eq_false_iff_ne.2;intro e;rw[e]at hb;exact absurd hb.1 dc):p:=h
def eT (c:UInt8):List UInt8->List (List UInt8)
 | []=>[[]]
 | x::r=>if x=c then []::eT c r else ((x::(eT c r).headD [])::(eT c r).tail)
theorem spl_ne (c:UInt8) (l:List UInt8):eT c l≠[]:=by
 cases l with
 | nil=>simp[eT]
 | cons x r=>unfold eT;split <;> simp
theorem mG {c:UInt8}:∀{l:List UInt8},c∉l->eT c l=[l]
 | [],_=>rfl
 | x::r,h=>by
  have hx:x≠c:=fun e=>h (by simp[e])
  have hr:c∉r:=fun e=>h (ly _ e)
  unfold eT;rw[if_neg hx,mG hr];rfl
theorem spl_app {c:UInt8}:∀{a:List UInt8} (r:List UInt8),c∉a->eT c (a++c::r)=a::eT c r
 | [],r,_=>by simp[eT]
 | x::a,r,h=>by
  have hx:x≠c:=fun e=>h (by simp[e])
  have ha:c∉a:=fun e=>h (ly _ e)
  show (if x=c then _ else _)=_;rw[if_neg hx,List.append_eq,spl_app r ha];rfl
theorem oX (c:UInt8):∀l:List UInt8,(eT c l).length=l.count c+1
 | []=>rfl
 | x::r=>by
  have ih:=oX c r;unfold eT;by_cases h:x=c
  ·rw[if_pos h,h,lh,ih,List.count_cons_self]
  ·rw[if_neg h,lh,List.length_tail,ih,List.count_cons_of_ne h];omega
theorem nS (l:List UInt8) (c:UInt8):(c∉l/\Lib.indexByte l c = -1)∨∃a r,l=a++c::r/\c∉a/\Lib.indexByte l c=a.length:=by
 induction l with
 | nil=>exact .inl ⟨by simp,rfl⟩
 | cons b l ih=>
  by_cases hb:b=c
  ·subst hb;exact .inr ⟨[],l,rfl,by simp,by simp[Lib.indexByte]⟩
  ·rcases ih with ⟨h1,h2⟩ | ⟨a,r,h1,h2,h3⟩
   ·refine .inl ⟨?_,?_⟩
    ·intro h;rcases List.mem_cons.1 h with h | h
     ·exact hb h.symm
     ·exact h1 h
    ·simp[Lib.indexByte,hb,h2]
   ·refine .inr ⟨b::a,r,by rw[h1];rfl,?_,?_⟩
    ·intro h;rcases List.mem_cons.1 h with h | h
     ·exact hb h.symm
     ·exact h2 h
    ·have hne:¬((a.length:Int) = -1):=om;simp[Lib.indexByte,hb,h3,hne]
theorem wM (c:UInt8):∀(k:Nat) (l:List UInt8),l.count c<=k->Lib.splitK [c] 0 k l=eT c l
 | 0,l,h=>by
  have:c∉l:=fun hm=>by have:=List.count_pos_iff.2 hm;omega
  rw[mG this];rfl
 | k+1,l,h=>by
  unfold Lib.splitK;rw[Lib.index_one];rcases nS l c with ⟨h1,h2⟩ | ⟨a,r,h1,h2,h3⟩
  ·rw[h2,mG h1];rfl
  ·have hne:((a.length:Int) == -1)=false:=sm
   have hc:l.count c=r.count c+1:=by
    have e:=List.count_eq_zero.2 h2;rw[h1,List.count_append,List.count_cons_self,e];omega
   rw[h3,hne];simp only[Bool.false_eq_true,if_false,Int.toNat_natCast,Nat.add_zero,List.length_singleton];have e1:l.take a.length=a:=by rw[h1];simp
   have e2:l.drop (a.length+1)=r:=by rw[h1];simp
   rw[e1,e2,wM c k r om,h1,spl_app r h2]
def digF:Nat->Nat->List UInt8
 | 0,_=>[]
 | f+1,n=>if n<10 then [UInt8.ofNat (48+n)] else digF f (n / 10)++[UInt8.ofNat (48+n%10)]
theorem digF_eq:∀(f n:Nat),n<f->digF f n=Lib.decDigits n
 | 0,n,h=>by omega
 | f+1,n,h=>by
  unfold digF;by_cases hn:n<10
  ·rw[if_pos hn,Lib.decDigits_one hn]
  ·have e:Lib.decDigits n=Lib.decDigits (n / 10)++[UInt8.ofNat (48+n%10)]:=by
    conv=>lhs;rw[Lib.decDigits,dif_neg hn]
   rw[if_neg hn,digF_eq f (n / 10) om,e]
def nZ (n:Nat):List UInt8:=digF (n+1) n
theorem yA (n:Nat):Lib.decDigits n=nZ n:=(digF_eq (n+1) n om).symm
theorem jC (h:n<10):nZ n=[UInt8.ofNat (48+n)]:=by rw[<-yA,Lib.decDigits_one h]
theorem mS (h:¬n<10):nZ n=nZ (n / 10)++[UInt8.ofNat (48+n%10)]:=by
 rw[<-yA,<-yA,Lib.decDigits,dif_neg h]
def cL (n:Int):List UInt8:=if n<0 then 45::nZ n.natAbs else nZ n.toNat
theorem itoa_itx (n:Int):Lib.itoa n=cL n:=by unfold Lib.itoa cL;rw[yA,yA]
theorem lO (h:k<256):(UInt8.ofNat k).toNat=k:=by simp[Nat.mod_eq_of_lt h]
theorem tQ:∀(n:Nat),∀b∈nZ n,48<=b.toNat/\b.toNat<=57:=by
 intro n
 induction n using Nat.strongRecOn with
 | ind n ih=>
  intro b hb;by_cases hn:n<10
  ·rw[jC hn,kb]at hb;subst hb;rw[lO om];omega
  ·rw[mS hn]at hb;rcases List.mem_append.1 hb with hb | hb
   ·exact ih (n / 10) om b hb
   ·rw[kb]at hb;subst hb;rw[lO om];omega
theorem dig_ne (n:Nat):nZ n≠[]:=by
 by_cases hn:n<10
 ·rw[jC hn];simp
 ·rw[mS hn];simp
theorem uT:∀(l m:List UInt8) (acc:Nat),Lib.decFrom acc (l++m)=(Lib.decFrom acc l).bind fun a=>Lib.decFrom a m
 | [],m,acc=>rfl
 | b::l,m,acc=>by
  simp only[List.cons_append,Lib.decFrom]
  cases Lib.digitVal b with
  | none=>rfl
  | some d=>exact uT l m _
theorem uS:∀(n:Nat),Lib.decFrom 0 (nZ n)=M n:=by
 intro n
 induction n using Nat.strongRecOn with
 | ind n ih=>
  by_cases hn:n<10
  ·rw[jC hn];have h1:(UInt8.ofNat _).toNat=48+n:=lO om;simp only[Lib.decFrom,Lib.digitVal,h1];rw[if_pos om];simp
  ·rw[mS hn,uT,ih (n / 10) om];have h1:(UInt8.ofNat _).toNat=48+n%10:=lO om;simp only[Option.bind_some,Lib.decFrom,Lib.digitVal,h1];rw[if_pos om];simp;omega
theorem fL (hk:1<=k) (h:n<10 ^ k):(nZ n).length<=k:=by
 induction k generalizing n with
 | zero=>omega
 | succ k ih=>
  by_cases hn:n<10
  ·rw[jC hn];simp
  ·rw[mS hn,nj,lz];by_cases hk0:k=0
   ·subst hk0;omega
   ·have:=ih (n:=n / 10) om (by rw[Nat.pow_succ]at h;omega);omega
theorem nE {n:Int} (h1 : -999999<=n) (h2:n<=999999):1<=(cL n).length/\(cL n).length<=7:=by
 unfold cL;by_cases hn:n<0
 ·rw[if_pos hn];have:=fL (n:=n.natAbs) (k:=6) dc om;simp only[List.length_cons];omega
 ·rw[if_neg hn];have:=fL (n:=n.toNat) (k:=6) dc om;have h3:0<(nZ n.toNat).length:=List.length_pos_iff.2 (dig_ne _);omega
theorem yC (n:Nat):Lib.decNat (nZ n)=M n:=by
 unfold Lib.decNat
 have:(nZ n).isEmpty=false:=by
  cases h:nZ n with
  | nil=>exact absurd h (dig_ne n)
  | cons _ _=>rfl
 rw[this];exact uS n
theorem atoi_itx {n:Int}:Lib.atoi (cL n)=M n:=by
 unfold cL;by_cases hn:n<0
 ·rw[if_pos hn];simp only[Lib.atoi,beq_self_eq_true,if_true,yC,Option.map_some];congr 1;omega
 ·rw[if_neg hn]
  cases hd:nZ n.toNat with
  | nil=>exact absurd hd (dig_ne _)
  | cons b r=>
   have hb:=tQ n.toNat b (by rw[hd];simp)
   have h1:(b==45)=false:=by
    exact Xi
   have h2:(b==43)=false:=by
    exact Xi
   have h3:=yC n.toNat;rw[hd]at h3;simp only[Lib.atoi,h1,h2,Bool.false_eq_true,if_false,h3,Option.map_some];congr 1;omega
def cG (w:List UInt8):Option Int:=match Lib.atoi w with
 | none=>Q
 | some n=>if cL n=w/\-999999<=n/\n<=999999 then M n else Q
theorem oG (w:List UInt8) (n:Int):cG w=M n↔cL n=w/\-999999<=n/\n<=999999:=by
 unfold cG;constructor
 ·intro h
  cases ha:Lib.atoi w with
  | none=>rw[ha]at h;cases h
  | some k=>
   rw[ha]at h;simp only at h;by_cases hc:cL k=w/\-999999<=k/\k<=999999
   ·rw[if_pos hc]at h;injection h with h
    subst h;exact hc
   ·rw[if_neg hc]at h;cases h
 ·rintro ⟨rfl,h2⟩;rw[atoi_itx];simp only[true_and];rw[if_pos h2]
theorem numW_all (w:List UInt8):cG w=match Lib.atoiAll w with
  | .ok n=>if cL n=w/\-999999<=n/\n<=999999 then M n else Q
  | _=>Q:=by
 by_cases hl:w.length<=18
 ·rw[Lib.atoiAll_short w hl];unfold cG
  cases Lib.atoi w <;> rfl
 ·have h1:cG w=Q:=by
   cases h:cG w with
   | none=>rfl
   | some n=>
    obtain⟨e,h2,h3⟩:=(oG w n).1 h;have:=(nE h2 h3).2;rw[e]at this;omega
  rw[h1]
  cases h:Lib.atoiAll w with
  | ok n=>
   simp only;rw[if_neg];rintro ⟨e,h2,h3⟩;have:=(nE h2 h3).2;rw[e]at this;omega
  | «syntax»=>rfl
  | range=>rfl
def nX (w:List UInt8):Nat:=w.foldl (fun n b=>if b=45 then n else 10*n+(b.toNat+208)%256) 0
def jB (w:List UInt8):Int:=if w.head?=M 45 then -(nX w:Int) else nX w
theorem rawN_dig (n:Nat):nX (nZ n)=n:=by
 have gen:∀(l:List UInt8) (acc k:Nat),(∀b∈l,48<=b.toNat/\b.toNat<=57)->Lib.decFrom acc l=M k->l.foldl (fun n b=>if b=45 then n else 10*n+(b.toNat+208)%256) acc=k:=by
  intro l
  induction l with
  | nil=>intro acc k _ h;simpa[Lib.decFrom]using h
  | cons b l ih=>
   intro acc k hd h;have hb:=hd b sm;have hne:b≠45:=fun e=>by rw[e]at hb;exact absurd hb.1 dc
   simp only[Lib.decFrom,Lib.digitVal]at h;rw[if_pos hb]at h;simp only at h;rw[List.foldl_cons,if_neg hne];have e:10*acc+(b.toNat+208)%256=acc*10+(b.toNat - 48):=om;rw[e];exact ih _ k (fun x hx=>hd x (ly _ hx)) h
 exact gen _ 0 n (tQ n) (uS n)
theorem docN_itx (n:Int):jB (cL n)=n:=by
 unfold cL jB;by_cases hn:n<0
 ·rw[if_pos hn]
  have e:nX (45::nZ n.natAbs)=n.natAbs:=by
   have:=rawN_dig n.natAbs;unfold nX at this ⊢;rw[List.foldl_cons,if_pos rfl];exact this
  rw[e];simp;omega
 ·rw[if_neg hn,rawN_dig]
  have hh:(nZ n.toNat).head?≠M 45:=fun e=>by
   have hm:(45:UInt8)∈nZ n.toNat:=List.mem_of_mem_head? e;exact absurd (tQ _ _ hm).1 dc
  rw[if_neg hh];omega
theorem numW_doc (w:List UInt8):cG w=if (1<=w.length/\w.length<=7)/\cL (jB w)=w/\-999999<=jB w/\jB w<=999999 then M (jB w) else Q:=by
 by_cases hc:(1<=w.length/\w.length<=7)/\cL (jB w)=w/\-999999<=jB w/\jB w<=999999
 ·rw[if_pos hc];exact(oG w _).2 hc.2
 ·rw[if_neg hc]
  cases h:cG w with
  | none=>rfl
  | some n=>
   exfalso;obtain⟨e,h2,h3⟩:=(oG w n).1 h;have hd:jB w=n:=by rw[<-e,docN_itx]
   have hl:=nE h2 h3;rw[e]at hl;exact hc ⟨hl,by rw[hd];exact e,by omega,by omega⟩
theorem aI (h:p):Hid p:=h
abbrev aM (l:List UInt8):Value:=sg ⟨l.toArray⟩
theorem str_app (x y:List UInt8):(ByteArray.mk x.toArray++ByteArray.mk y.toArray)=ByteArray.mk (x++y).toArray:=ByteArray.mk_append_mk x y
theorem conv_one (w:World) (n:Int) (h0:0<=n) (h1:n<256):letI Z:=w.alloc (U #[Y .u8 n] 5);(convert 52 9 (J (M ⟨w.heap.size,0,Q⟩) 1 1)).run prog Z=.ok (aM [UInt8.ofNat n.toNat]) Z:=by
 have hn:((UInt8.ofNat n.toNat).toNat:Int)=n:=by
  have:n.toNat%256=n.toNat:=Nat.mod_eq_of_lt om;simp[this];omega
 exact run_convert_bytes_back (P:=prog) (w.alloc (U #[Y .u8 n] 5)) 52 9 5 ⟨w.heap.size,0,Q⟩ 1 [UInt8.ofNat n.toNat] underlying52 kr kr (fun j hj=>by
  have hj0:j=0:=by simpa using hj
  subst hj0;simp only[List.getElem_cons_zero,hn];simp[Addr.add])
theorem kD (n:Nat) (h:n<10) (w:World):Kr 9 #[Y I n] w (aM (nZ n)):=by
 have h1:¬(n:Int)<0:=om;have h2:(n:Int)<10:=om;have hc:=conv_one w (48+(n:Int)) om om
 have hd:Hid (nZ n=[UInt8.ofNat (48+(n:Int)).toNat]):=by
  show _=_;rw[jC h];have:(48+(n:Int)).toNat=48+n:=by omega
  rw[this]
 obtain⟨D,hD⟩:=nm (aM [UInt8.ofNat (48+(n:Int)).toNat]);rw[<-hD]at hc;have HD:=Hi hD;clear hD;go_enter func9,ntmps9;go_wp2;go_ret;exact⟨by rw[hd.out,<-HD.out];rfl,aA br _⟩
theorem digits_pos:∀(n:Nat),(n:Int)<=9223372036854775807->∀(w:World),Kr 9 #[Y I n] w (aM (nZ n)):=by
 intro n
 induction n using Nat.strongRecOn with
 | ind n ih=>
  intro hmax w;by_cases hn:n<10
  ·exact kD n hn w
  ·have h1:¬(n:Int)<0:=om;have h2:¬(n:Int)<10:=om;have C1:=Hi (ih (n / 10) om om);have C2:=Hi (fun w=>kD (n%10) om w)
   have HD:Hid (nZ n=nZ (n / 10)++nZ (n%10)):=by
    show _=_;rw[mS hn,jC (n:=n%10) om]
   have l1:=fL (n:=n / 10) (k:=19) dc om;have l2:=fL (n:=n%10) (k:=1) dc om;clear ih;generalize nZ (n / 10)=A at *;generalize nZ (n%10)=B at *;go_enter func9,ntmps9
   go_wp2_with fail
   refine(C1.out _).mono ?_;rintro e w1 ⟨rfl,hb1⟩;have B1:=aI hb1;clear hb1
   go_wp2_with fail
   refine(C2.out _).mono ?_;rintro e w2 ⟨rfl,hb2⟩;have B2:=Hi (aC B1.out hb2);clear hb2
   go_wp2_with fail
   go_ret;exact⟨by rw[HD.out];exact congrArg (fun s=>Ending.returned (sg s)) (str_app A B),B2.out⟩
theorem digits_minus (k:Nat) (h1:1<=k) (h2:k<10) (w:World):Kr 9 #[Y I (-(k:Int))] w (aM (45::nZ k)):=by
 have i2:(-10:Int) < -(k:Int):=om;have C1:=Hi (fun w=>kD k h2 w);have l1:=fL (n:=k) (k:=1) dc om;generalize nZ k=A at *;go_enter func9,ntmps9
 go_wp2_with fail
 refine(C1.out _).mono ?_;rintro e w1 ⟨rfl,hb1⟩;have B1:=aI hb1;clear hb1
 go_wp2_with fail
 go_ret;exact⟨congrArg (fun s=>Ending.returned (sg s)) (str_app [45] A),B1.out⟩
theorem digits_neg:∀(k:Nat),1<=k->(k:Int)<=9223372036854775808->∀(w:World),Kr 9 #[Y I (-(k:Int))] w (aM (45::nZ k)):=by
 intro k
 induction k using Nat.strongRecOn with
 | ind k ih=>
  intro h1 hmax w;by_cases hk:k<10
  ·exact digits_minus k h1 hk w
  ·have i1:(-(k:Int))<0:=om;have i2:¬(-10:Int) < -(k:Int):=om;have C1:=Hi (ih (k / 10) om om om);have C2:=Hi (fun w=>kD (k%10) om w)
   have HD:Hid (45::nZ k=(45::nZ (k / 10))++nZ (k%10)):=by
    show _=_;rw[mS hk,jC (n:=k%10) om];rfl
   have l1:=fL (n:=k / 10) (k:=19) dc om;have l2:=fL (n:=k%10) (k:=1) dc om
   have e1:(-(k:Int)).tdiv 10 = -((k / 10:Nat):Int):=by
    rw[Int.neg_tdiv,Int.tdiv_eq_ediv_of_nonneg om];omega
   have e2:(-(k:Int)).tmod 10 = -((k%10:Nat):Int):=by
    rw[Int.neg_tmod,Int.tmod_eq_emod_of_nonneg om];omega
   have w1:IntKind.i64.wrap (-((k / 10:Nat):Int)) = -((k / 10:Nat):Int):=by simp[IntKind.wrap,IntKind.bits,IntKind.signed];omega
   have w2:IntKind.i64.wrap (-((k%10:Nat):Int)) = -((k%10:Nat):Int):=by simp[IntKind.wrap,IntKind.bits,IntKind.signed];omega
   clear ih;generalize nZ (k / 10)=A at *;generalize nZ (k%10)=B at *;obtain⟨n,hnk⟩:∃n:Int,n = -(k:Int):=⟨_,rfl⟩;rw[<-hnk]at e1 e2 i1 i2;rw[<-hnk];clear hnk;go_enter func9,ntmps9
   go_wp2_with fail
   refine(C1.out _).mono ?_;rintro e w1 ⟨rfl,hb1⟩;have B1:=aI hb1;clear hb1
   go_wp2_with fail
   refine(C2.out _).mono ?_;rintro e w2 ⟨rfl,hb2⟩;have B2:=Hi (aC B1.out hb2);clear hb2
   go_wp2_with fail
   go_ret;exact⟨by rw[HD.out];exact congrArg (fun s=>Ending.returned (sg s)) (str_app (45::A) B),B2.out⟩
theorem gY (n:Int) (h1 : -9223372036854775808<=n) (h2:n<=9223372036854775807) (w:World):Kr 9 #[Y I n] w (aM (cL n)):=by
 unfold cL;by_cases hn:n<0
 ·rw[if_pos hn];obtain⟨k,hk⟩:∃k:Nat,n = -(k:Int):=⟨n.natAbs,by omega⟩;have e:n.natAbs=k:=om;rw[e,hk];exact digits_neg k om om w
 ·rw[if_neg hn];obtain⟨k,rfl⟩:∃k:Nat,n=(k:Int):=⟨n.toNat,by omega⟩;exact digits_pos k h2 w
theorem mF (x:Int):∀u∈[Y .u8 x],u.oneCell'=true:=ints_oneCell .u8 [x]
theorem wr_after {w w5:World} {o:Obj} (hc:w.cell? ⟨P,0,Q⟩=M v) (hf:w.frozen? ⟨P,0,Q⟩=false) (hg:(w.alloc o).grownBy w5 v.ownBlock) (h1:∀g,v.ownBlock=M g->P+1<=g/\g<w.heap.size) (h2:∀g,v.ownBlock=M g->∃c fz,w.heap[g]?=M (U c 5 fz)):w5.cell? ⟨P,0,Q⟩=M v/\w5.frozen? ⟨P,0,Q⟩=false/\WK P w w5:=by
 have hP:P<w.heap.size:=np w ⟨P,0,Q⟩ hc;have key:∀b,b<w.heap.size->(v.ownBlock≠M b)->w5.heap[b]?=w.heap[b]?:=fun b hb hne=>(hg.block b (by simp;omega) (fun e=>hne e.symm)).trans (Below.heap_alloc _ _ _ hb)
 have eP:=key P hP (fun e=>by have:=h1 P e;omega);refine⟨(nu (w:=w) (w':=w5) (a:=⟨P,0,Q⟩) eP).trans hc,(nv (w:=w) (w':=w5) (a:=⟨P,0,Q⟩) eP).trans hf,⟨hg.os,hg.tape,hg.output,nh sm hg.size,fun b hb hbP hor=>key b hb (fun e=>?_)⟩⟩;rcases hor with h | h
 ·have:=h1 b e;omega
 ·obtain⟨c,fz,hh⟩:=h2 b e;exact h c fz hh
theorem eH (P:Nat) (n:Int) (bs:List Int) (w:World) (h:WrS P w bs) (hl:bs.length<=100000) :
  Calls prog 65 #[pd (M ⟨P,0,Q⟩),Y I n] w fun e w'=>e=rt (tu #[])/\WrS P w' (bs++[n%256])/\WK P w w':=by
 obtain⟨i0,hi,hz0,hz1,hz2⟩:=info_parts info5;obtain⟨v,hc,hf,hown⟩:=h;have hP:P<w.heap.size:=np w ⟨P,0,Q⟩ hc;have HRB:=Hi (fun g hg=>hown.lt g hg);have HRK:=Hi (Lib.ownsRow_kind hown);have HO:=Hi hown;have HX:Hid (∀(o:Obj) (w5:World),(w.alloc o).grownBy w5 v.ownBlock->w5.cell? _=M v/\w5.frozen? _=false/\WK P w w5):=fun o w5 hg=>wr_after hc hf hg HRB.out HRK.out
 clear hown;go_enter func65,ntmps65
 go_wp2_with (first
  | (at_builtin;refine wpList_append_own _ rfl _ _ 52 rfl (P+1) 5 i0 (Y .u8 0) 1 1 underlying52 hi hz0 hz1 hz2 rfl dc _ _ _ rfl (HO.out.alloc _) _ 1 1 [Y .u8 _] rfl rfl (cell_one_new _ _ _) (mF _) (by unfold maxLen;omega) om (by simp;omega) ?_;intro v' w5 hown' hgrow _;obtain⟨g,cap,hv,hg1,hg2⟩:=hown'.form (wt _);subst hv;obtain⟨hc5,hf5,hk5⟩:=HX.out _ w5 hgrow;have HO5:Hid _:=hown';have HK5:Hid (WK P w w5):=hk5;clear hown' hgrow hk5 hc hf)
  | go_in)
 have h5:=HO5.out;go_end0;refine⟨rfl,⟨_,aK hc5,by simpa using hf5,?_⟩,HK5.out.trans ⟨rfl,rfl,rfl,by simp,fun b hb hbP _=>wo _ _ _ _ hbP⟩⟩;rw[nj,ny];exact World.ownsRow.kept h5 (aP w5 P 0 _) (Or.inr (fun e=>by simp[Value.ownBlock]at e;omega))
def qZ (n:Int) (j:Nat):Int:=((n%18446744073709551616) / 2 ^ (8*j))%256
def mE (n:Int):List Int:=[qZ n 7,qZ n 6,qZ n 5,qZ n 4,qZ n 3,qZ n 2,qZ n 1,qZ n 0]
theorem valL_take (n:Int) (k:Nat) (hk:k<8):(mE n).take (k+1)=(mE n).take k++[qZ n (7 - k)]:=by
 match k,hk with
 | 0,_=>rfl
 | 1,_=>rfl
 | 2,_=>rfl
 | 3,_=>rfl
 | 4,_=>rfl
 | 5,_=>rfl
 | 6,_=>rfl
 | 7,_=>rfl
theorem news_u8 (w:World) (x:Int):∀j u,[Y .u8 x][j]?=M u->(w.alloc (U #[Y .u8 x] 5)).drew.cell? ((⟨w.heap.size,0,Q⟩:Addr).add j)=M u:=by
 exact Uz
theorem byte_at (n:Int) (k:Nat) (hk:k<8):IntKind.u8.wrap (IntKind.u64.wrap n / 2 ^ (8*(7 - (k:Int))).toNat)=qZ n (7 - k):=by
 have e:(8*(7 - (k:Int))).toNat=8*(7 - k):=om;rw[e];simp[IntKind.wrap,IntKind.bits,IntKind.signed,qZ]
theorem iH (h : -9223372036854775808<=x) (h':x<9223372036854775808):IntKind.i64.wrap x=x:=by simp[IntKind.wrap,IntKind.bits,IntKind.signed];omega
theorem wrValue_any (P:Nat) (n:Int) (bs:List Int) (w:World) (h:WrS P w bs) (hl:bs.length<=90000) :
  Calls prog 172 #[pd (M ⟨P,0,Q⟩),Y I n] w fun e w'=>e=rt (tu #[])/\WrS P w' (bs++mE n)/\WK P w w':=by
 obtain⟨i0,hi,hz0,hz1,hz2⟩:=info_parts info5;have H0:=Hi h;clear h;go_enter func172,ntmps172;go_wp2
 go_loopw [4] (fun i wr=>∃k:Nat,k<=8/\i=Y I (7 - (k:Int))/\Hid (WrS P wr (bs++(mE n).take k))/\Hid (WK P w wr)) (fun i _=>(intOf i+1).toNat)
 case atStart=>exact⟨0,by omega,rfl,by simpa using H0,WK.refl _ _⟩
 case round=>
  obtain⟨k,hk,rfl,hW,hK⟩:=hrel;by_cases hlt:k<8
  ·have hge:(7:Int) - (k:Int) ≥ 0:=om;obtain⟨bt,hbt⟩:=nm (bs++(mE n).take k);have hbl:bt.length<=90008:=by rw[hbt,nj,l6];omega
   rw[<-hbt]at hW;obtain⟨v,hc,hf,hown⟩:=hW.out;have hP:P<wr.heap.size:=np wr ⟨P,0,Q⟩ hc;have HRB:=Hi (fun g hg=>hown.lt g hg);have HRK:=Hi (Lib.ownsRow_kind hown);have HOd:Hid (∀o,(wr.alloc o).drew.ownsRow _ 5 1 v bt.length _):=fun o=>hown.alloc o
   have HX:Hid (∀(o:Obj) (w5:World),(wr.alloc o).drew.grownBy w5 v.ownBlock->w5.cell? _=M v/\w5.frozen? _=false/\WK P wr w5):=fun o w5 hg=>wr_after hc hf (o:=o) ⟨hg.os,hg.tape,hg.output,hg.size,hg.block⟩ HRB.out HRK.out
   have HBT:=Hi hbt;clear hown hW hbt;have hca:∀o,(wr.alloc o).cell? ⟨P,0,Q⟩=M v:=fun o=>by rw[ni _ _ _ (by simpa using hP)];exact hc
   have hwr:IntKind.i64.wrap _=8*(7 - (k:Int)):=iH om om
   go_wp2_with fail
   go_region_law (first
    | (refine dH (by rfl) _ _ _ (by rfl) (P+1) 5 i0 (Y .u8 0) 1 underlying52 hi hz0 hz1 hz2 rfl v bt.length (bt.map (Y .u8)) (by rfl) (HOd.out _) _ 1 1 [Y .u8 (IntKind.u8.wrap (IntKind.u64.wrap n / 2 ^ (8*(7 - (k:Int))).toNat))] (by rfl) (by rfl) (news_u8 _ _) (ints_oneCell .u8 [_]) (by unfold maxLen;omega) om (by simp;omega) ?_;intro v' w5 ho3 hg3 hkeep;obtain⟨g,cap,hv,hg1,hg2⟩:=ho3.form (wt _);subst hv;obtain⟨hc5,hf5,hk5⟩:=HX.out _ w5 hg3;have HO5:Hid _:=ho3;have HK5:Hid (WK P wr w5):=hk5;clear ho3 hg3 hk5 hkeep hc hf))
   all_goals (
    have h5:=HO5.out;rw[byte_at n k hlt]at h5
    go_wp2_with fail
    go_roundw
    case rel=>
     refine⟨k+1,by omega,by go_num,⟨_,aK hc5,by simpa using hf5,?_⟩,hK.out.trans (HK5.out.trans ⟨rfl,rfl,rfl,by simp,fun b hb hbP _=>wo _ _ _ _ hbP⟩)⟩;rw[valL_take n k hlt,<-lu,<-HBT.out,nj,ny];exact World.ownsRow.kept h5 (aP w5 P 0 _) (Or.inr (fun e=>by simp[Value.ownBlock]at e;omega))
    case measure=>simp[intOf];omega)
  ·have hk8:k=8:=om;subst hk8;go_wp2;go_end0;exact⟨rfl,by simpa[mE]using hW.out,hK.out⟩
theorem WrS.alloc {w:World} (h:WrS P w bs) (o:Obj):WrS P (w.alloc o) bs:=by
 obtain⟨v,hc,hf,ho⟩:=h;have hP:P<w.heap.size:=np w ⟨P,0,Q⟩ hc;have e:(w.alloc o).heap[P]?=w.heap[P]?:=Below.heap_alloc _ _ _ hP;exact⟨v,(nu (a:=⟨P,0,Q⟩) e).trans hc,(nv (a:=⟨P,0,Q⟩) e).trans hf,ho.alloc o⟩
theorem WrS.lt {w:World} (h:WrS P w bs):P<w.heap.size:=by
 obtain⟨v,hc,_,_⟩:=h;exact np w ⟨P,0,Q⟩ hc
theorem kM (w:World) (c:Array Value) (t:TypeId) (ht:t≠5):iT (w.alloc (U c t)) w.heap.size:=by
 intro c' fz e;have e':(w.alloc (U c t)).heap[w.heap.size]?=M (U c t):=by unfold World.alloc;simp
 rw[e']at e;simp at e;exact ht e.2.1
def rP (kd n:Int):List Int:=(kd%256)::mE n
theorem iL (kd n:Int):(rP kd n).length=9:=rfl
theorem lM (P:Nat) (kd n:Int) (bs:List Int) (w:World) (h:WrS P w bs) (hl:bs.length<=80000) :
  Calls prog 142 #[pd (M ⟨P,0,Q⟩),ag #[Y I kd,Y I n]] w fun e w'=>e=rt (tu #[])/\WrS P w' (bs++rP kd n)/\WK P w w':=by
 have hP:=h.lt;have H:=Hi h;clear h;go_enter func142,ntmps142
 go_wp2_with fail
 refine(eH P kd bs _ (H.out.alloc _) om).mono ?_;rintro e w1 ⟨rfl,h1,k1⟩;have c1:w1.cell? ⟨w.heap.size,1,Q⟩=Y I n:=k1.cell sm om (Or.inr (kM _ _ _ dc));have H1:=Hi h1;have K1:=Hi (((WK.refl P w).alloc _).trans k1);clear h1 k1
 go_wp2_with fail
 refine(wrValue_any P n _ _ H1.out (by simp;omega)).mono ?_;rintro e w2 ⟨rfl,h2,k2⟩;have H2:=Hi h2;have K2:=Hi (K1.out.trans k2);clear h2 k2
 go_wp2_with fail
 go_end0;exact⟨rfl,by simpa[rP]using H2.out,K2.out⟩
theorem mK {b:Nat} {w:World} (h:iT w b) (k:WK P w w') (hb:b<w.heap.size) (hP:b≠P):iT w' b:=fun c fz e=>h c fz ((k.keep b hb hP (Or.inr h)) ▸ e)
def yP (kd ak an bk bn:Int):List Int:=(kd%256)::(rP ak an++rP bk bn)
theorem wrGuard_any (P:Nat) (kd ak an bk bn:Int) (bs:List Int) (w:World) (h:WrS P w bs) (hl:bs.length<=70000) :
  Calls prog 105 #[pd (M ⟨P,0,Q⟩),ag #[Y I kd,Y I ak,Y I an,Y I bk,Y I bn]] w fun e w'=>e=rt (tu #[])/\WrS P w' (bs++yP kd ak an bk bn)/\WK P w w':=by
 have hP:=h.lt;have H0:Hid (WrS P (w.alloc (U #[Y I kd,Y I ak,Y I an,Y I bk,Y I bn] 99)) bs):=h.alloc _;have K0:Hid (WK P w (w.alloc (U #[Y I kd,Y I ak,Y I an,Y I bk,Y I bn] 99))):=(WK.refl P w).alloc _;have N0:Hid (iT (w.alloc (U #[Y I kd,Y I ak,Y I an,Y I bk,Y I bn] 99)) w.heap.size):=kM _ _ _ dc;have c0:(w.alloc (U #[Y I kd,Y I ak,Y I an,Y I bk,Y I bn] 99)).cell? ⟨w.heap.size,0,Q⟩=Y I kd:=sm;have c1:(w.alloc (U #[Y I kd,Y I ak,Y I an,Y I bk,Y I bn] 99)).cell? ⟨w.heap.size,1,Q⟩=Y I ak:=sm;have c2:(w.alloc (U #[Y I kd,Y I ak,Y I an,Y I bk,Y I bn] 99)).cell? ⟨w.heap.size,2,Q⟩=Y I an:=sm;have c3:(w.alloc (U #[Y I kd,Y I ak,Y I an,Y I bk,Y I bn] 99)).cell? ⟨w.heap.size,3,Q⟩=Y I bk:=sm;have c4:(w.alloc (U #[Y I kd,Y I ak,Y I an,Y I bk,Y I bn] 99)).cell? ⟨w.heap.size,4,Q⟩=Y I bn:=sm;have S0:Hid (w.heap.size<(w.alloc (U #[Y I kd,Y I ak,Y I an,Y I bk,Y I bn] 99)).heap.size):=by show _<_;simp
 clear h;go_enter func105,ntmps105
 go_wp2_with fail
 refine(eH P kd _ _ H0.out (by first | omega | (simp;omega) | (simp[iL];omega))).mono ?_;rintro e w1 ⟨rfl,h,k⟩;have H1:=Hi h;have K1:=Hi (K0.out.trans k);have N1:=Hi (mK N0.out k S0.out om);have S1:=Hi (nd S0.out k.size);have c1:=k.cell c1 om (Or.inr N0.out);have c2:=k.cell c2 om (Or.inr N0.out);have c3:=k.cell c3 om (Or.inr N0.out);have c4:=k.cell c4 om (Or.inr N0.out);clear h k
 go_wp2_with fail
 refine(lM P ak an _ _ H1.out (by first | omega | (simp;omega) | (simp[iL];omega))).mono ?_;rintro e w2 ⟨rfl,h,k⟩;have H2:=Hi h;have K2:=Hi (K1.out.trans k);have N2:=Hi (mK N1.out k S1.out om);have S2:=Hi (nd S1.out k.size);have c3:=k.cell c3 om (Or.inr N1.out);have c4:=k.cell c4 om (Or.inr N1.out);clear h k
 go_wp2_with fail
 refine(lM P bk bn _ _ H2.out (by first | omega | (simp;omega) | (simp[iL];omega))).mono ?_;rintro e w3 ⟨rfl,h,k⟩;have H3:=Hi h;have K3:=Hi (K2.out.trans k);clear h k
 go_wp2_with fail
 go_end0;exact⟨rfl,by simpa[yP]using H3.out,K3.out⟩
def yN (key op ak an bk bn:Int):List Int:=(key%256)::(op%256)::(rP ak an++rP bk bn)
theorem wrSet_any (P:Nat) (key op ak an bk bn:Int) (bs:List Int) (w:World) (h:WrS P w bs) (hl:bs.length<=70000) :
  Calls prog 107 #[pd (M ⟨P,0,Q⟩),ag #[Y I key,Y I op,Y I ak,Y I an,Y I bk,Y I bn]] w fun e w'=>e=rt (tu #[])/\WrS P w' (bs++yN key op ak an bk bn)/\WK P w w':=by
 have hP:=h.lt;have H0:Hid (WrS P (w.alloc (U #[Y I key,Y I op,Y I ak,Y I an,Y I bk,Y I bn] 102)) bs):=h.alloc _;have K0:Hid (WK P w (w.alloc (U #[Y I key,Y I op,Y I ak,Y I an,Y I bk,Y I bn] 102))):=(WK.refl P w).alloc _;have N0:Hid (iT (w.alloc (U #[Y I key,Y I op,Y I ak,Y I an,Y I bk,Y I bn] 102)) w.heap.size):=kM _ _ _ dc;have c0:(w.alloc (U #[Y I key,Y I op,Y I ak,Y I an,Y I bk,Y I bn] 102)).cell? ⟨w.heap.size,0,Q⟩=Y I key:=sm;have c1:(w.alloc (U #[Y I key,Y I op,Y I ak,Y I an,Y I bk,Y I bn] 102)).cell? ⟨w.heap.size,1,Q⟩=Y I op:=sm;have c2:(w.alloc (U #[Y I key,Y I op,Y I ak,Y I an,Y I bk,Y I bn] 102)).cell? ⟨w.heap.size,2,Q⟩=Y I ak:=sm;have c3:(w.alloc (U #[Y I key,Y I op,Y I ak,Y I an,Y I bk,Y I bn] 102)).cell? ⟨w.heap.size,3,Q⟩=Y I an:=sm;have c4:(w.alloc (U #[Y I key,Y I op,Y I ak,Y I an,Y I bk,Y I bn] 102)).cell? ⟨w.heap.size,4,Q⟩=Y I bk:=sm;have c5:(w.alloc (U #[Y I key,Y I op,Y I ak,Y I an,Y I bk,Y I bn] 102)).cell? ⟨w.heap.size,5,Q⟩=Y I bn:=sm;have S0:Hid (w.heap.size<(w.alloc (U #[Y I key,Y I op,Y I ak,Y I an,Y I bk,Y I bn] 102)).heap.size):=by show _<_;simp
 clear h;go_enter func107,ntmps107
 go_wp2_with fail
 refine(eH P key _ _ H0.out (by first | omega | (simp;omega) | (simp[iL];omega))).mono ?_;rintro e w1 ⟨rfl,h,k⟩;have H1:=Hi h;have K1:=Hi (K0.out.trans k);have N1:=Hi (mK N0.out k S0.out om);have S1:=Hi (nd S0.out k.size);have c1:=k.cell c1 om (Or.inr N0.out);have c2:=k.cell c2 om (Or.inr N0.out);have c3:=k.cell c3 om (Or.inr N0.out);have c4:=k.cell c4 om (Or.inr N0.out);have c5:=k.cell c5 om (Or.inr N0.out);clear h k
 go_wp2_with fail
 refine(eH P op _ _ H1.out (by first | omega | (simp;omega) | (simp[iL];omega))).mono ?_;rintro e w2 ⟨rfl,h,k⟩;have H2:=Hi h;have K2:=Hi (K1.out.trans k);have N2:=Hi (mK N1.out k S1.out om);have S2:=Hi (nd S1.out k.size);have c2:=k.cell c2 om (Or.inr N1.out);have c3:=k.cell c3 om (Or.inr N1.out);have c4:=k.cell c4 om (Or.inr N1.out);have c5:=k.cell c5 om (Or.inr N1.out);clear h k
 go_wp2_with fail
 refine(lM P ak an _ _ H2.out (by first | omega | (simp;omega) | (simp[iL];omega))).mono ?_;rintro e w3 ⟨rfl,h,k⟩;have H3:=Hi h;have K3:=Hi (K2.out.trans k);have N3:=Hi (mK N2.out k S2.out om);have S3:=Hi (nd S2.out k.size);have c4:=k.cell c4 om (Or.inr N2.out);have c5:=k.cell c5 om (Or.inr N2.out);clear h k
 go_wp2_with fail
 refine(lM P bk bn _ _ H3.out (by first | omega | (simp;omega) | (simp[iL];omega))).mono ?_;rintro e w4 ⟨rfl,h,k⟩;have H4:=Hi h;have K4:=Hi (K3.out.trans k);clear h k
 go_wp2_with fail
 go_end0;exact⟨rfl,by simpa[yN]using H4.out,K4.out⟩
theorem Uu (h:p:=by
 clear hW;go_wp2;go_end0;exact⟨rfl,H4.out,hK.out⟩):p:=h
theorem Vr (h:p:=by
 go_wp2;go_roundw
 case rel=>exact⟨k+1,by omega,by go_num,H3,K3⟩
 case measure=>simp[intOf];omega):p:=h
theorem pN {α β:Type} (f:α->β) (l:List α) (d:α) (k:Nat) (h:k<l.length):(l.take (k+1)).map f=(l.take k).map f++[f (l.getD k d)]:=by
 rw[List.take_add_one,ny];exact Xa
def zsB (zs:List Int):List Int:=((zs.length:Int)%256)::zs.map (· % 256)
theorem wrInts_any (P:Nat) (zs:List Int) (za:Option Addr) (zc:Nat) (bs:List Int) (w:World) (h:WrS P w bs) (hl:bs.length<=60000) (h8:zs.length<=100) (hz:∀w',Below P w w'->IsInts w' za zs) :
  Calls prog 103 #[pd (M ⟨P,0,Q⟩),J za zs.length zc,.func (.func 65) #[pd (M ⟨P,0,Q⟩)] #[]] w fun e w'=>e=rt (tu #[])/\WrS P w' (bs++zsB zs)/\WK P w w':=by
 have hP:=h.lt;have H0:=Hi h;have HZ:=Hi hz;clear h hz;go_enter func103,ntmps103
 go_wp2_with fail
 refine(eH P zs.length bs _ H0.out om).mono ?_;rintro e w1 ⟨rfl,h1,k1⟩;have H1:=Hi h1;have K1:=Hi k1;clear h1 k1;go_wp2
 go_loopw [14] (fun i wr=>∃k:Nat,k<=zs.length/\i=Y I k/\Hid (WrS P wr (bs++[(zs.length:Int)%256]++(zs.take k).map (· % 256)))/\Hid (WK P w wr)) (fun i _=>zs.length - (intOf i).toNat)
 case atStart=>exact⟨0,nz,rfl,by simpa using H1,K1⟩
 case round=>
  obtain⟨k,hk,rfl,hW,hK⟩:=hrel;by_cases hlt:k<zs.length
  ·obtain⟨b,off,hza,hb,hc⟩:=HZ.out wr (hK.out.below hP) k hlt;subst hza;obtain⟨x,hx⟩:∃x,zs.getD k 0=x:=⟨_,rfl⟩;rw[hx]at hc;have HXK:=Hi hx;clear hx
   go_wp2_with fail
   refine(eH P _ _ _ hW.out (by simp;omega)).mono ?_;rintro e w3 ⟨rfl,h3,k3⟩
   have H3:Hid (WrS P w3 (bs++[(zs.length:Int)%256]++(zs.take (k+1)).map (· % 256))):=by
    rw[pN _ zs 0 k hlt,HXK.out,<-lu];exact h3
   have K3:=Hi (hK.out.trans k3);clear h3 k3 hW hK;exact Vr
  ·have hk8:k=zs.length:=om;subst hk8
   have H4:Hid (WrS P wr (bs++zsB zs)):=by
    have:=hW.out;rw[ld]at this;show WrS P wr _;simpa[zsB]using this
   exact Uu
theorem xt (h:p:=by
 have K3:=Hi ((hK.out.alloc _).trans k3);clear h3 k3 hW hK HT;exact Vr):p:=h
theorem Vd (h:p:=by
 rw[List.take_add_one,List.flatMap_append];exact Xa):p:=h
theorem Xq (h:p:=by
 rw[HT.out,<-lu];exact h3):p:=h
def gsB (l:List Gd):List Int:=((l.length:Int)%256)::l.flatMap (fun x=>yP x.k x.ak x.an x.bk x.bn)
theorem gsB_take (l:List Gd) (k:Nat) (h:k<l.length):(l.take (k+1)).flatMap (fun x=>yP x.k x.ak x.an x.bk x.bn)=(l.take k).flatMap (fun x=>yP x.k x.ak x.an x.bk x.bn)++(fun x=>yP x.k x.ak x.an x.bk x.bn) (l.getD k g0):=by
 exact Vd
theorem vV (l:List Gd) (k:Nat):((l.take k).flatMap (fun x=>yP x.k x.ak x.an x.bk x.bn)).length<=19*k:=by
 induction k generalizing l with
 | zero=>simp
 | succ k ih=>
  cases l with
  | nil=>simp
  | cons x l=>have:=ih l;simp[yP,iL]at this ⊢;omega
theorem wrGuards_any (P:Nat) (l:List Gd) (za:Option Addr) (zc:Nat) (bs:List Int) (w:World) (h:WrS P w bs) (hl:bs.length<=50000) (h8:l.length<=100) (hz:∀w',Below P w w'->IsGs w' za l) :
  Calls prog 104 #[pd (M ⟨P,0,Q⟩),J za l.length zc,.func (.func 105) #[pd (M ⟨P,0,Q⟩)] #[]] w fun e w'=>e=rt (tu #[])/\WrS P w' (bs++gsB l)/\WK P w w':=by
 have hP:=h.lt;have H0:=Hi h;have HZ:=Hi hz;clear h hz;go_enter func104,ntmps104
 go_wp2_with fail
 refine(eH P l.length bs _ H0.out om).mono ?_;rintro e w1 ⟨rfl,h1,k1⟩;have H1:=Hi h1;have K1:=Hi k1;clear h1 k1;go_wp2
 go_loopw [14] (fun i wr=>∃k:Nat,k<=l.length/\i=Y I k/\Hid (WrS P wr (bs++[(l.length:Int)%256]++(l.take k).flatMap (fun x=>yP x.k x.ak x.an x.bk x.bn)))/\Hid (WK P w wr)) (fun i _=>l.length - (intOf i).toNat)
 case atStart=>exact⟨0,nz,rfl,by simpa using H1,K1⟩
 case round=>
  obtain⟨k,hk,rfl,hW,hK⟩:=hrel;by_cases hlt:k<l.length
  ·obtain⟨b,off,hza,hb,c0,c1,c2,c3,c4⟩:=HZ.out wr (hK.out.below hP) k hlt;subst hza;have HT:Hid (_=_):=gsB_take l k hlt;have HLn:=vV l k;have HL2:Hid (((l.take k).flatMap (fun x=>yP x.k x.ak x.an x.bk x.bn)).length<=3000):=by show _<=_;omega
   clear HLn;generalize l.getD k g0=x at *;obtain⟨kd,ak,an,bk,bn⟩:=x;simp only at c0 c1 c2 c3 c4
   go_wp2_with fail
   refine(wrGuard_any P kd ak an bk bn _ _ (hW.out.alloc _) (by have:=HL2.out;simp only[List.length_append,List.length_cons,List.length_nil];omega)).mono ?_;rintro e w3 ⟨rfl,h3,k3⟩
   have H3:Hid (WrS P w3 (bs++[(l.length:Int)%256]++(l.take (k+1)).flatMap (fun x=>yP x.k x.ak x.an x.bk x.bn))):=by
    exact Xq
   exact xt
  ·have hk8:k=l.length:=om;subst hk8
   have H4:Hid (WrS P wr (bs++gsB l)):=by
    have:=hW.out;rw[ld]at this;show WrS P wr _;simpa[gsB]using this
   exact Uu
def ssB (l:List St):List Int:=((l.length:Int)%256)::l.flatMap (fun x=>yN x.key x.op x.ak x.an x.bk x.bn)
theorem ssB_take (l:List St) (k:Nat) (h:k<l.length):(l.take (k+1)).flatMap (fun x=>yN x.key x.op x.ak x.an x.bk x.bn)=(l.take k).flatMap (fun x=>yN x.key x.op x.ak x.an x.bk x.bn)++(fun x=>yN x.key x.op x.ak x.an x.bk x.bn) (l.getD k s0):=by
 exact Vd
theorem ssB_len (l:List St) (k:Nat):((l.take k).flatMap (fun x=>yN x.key x.op x.ak x.an x.bk x.bn)).length<=20*k:=by
 induction k generalizing l with
 | zero=>simp
 | succ k ih=>
  cases l with
  | nil=>simp
  | cons x l=>have:=ih l;simp[yN,iL]at this ⊢;omega
theorem wrSets_any (P:Nat) (l:List St) (za:Option Addr) (zc:Nat) (bs:List Int) (w:World) (h:WrS P w bs) (hl:bs.length<=50000) (h8:l.length<=100) (hz:∀w',Below P w w'->IsSs w' za l) :
  Calls prog 106 #[pd (M ⟨P,0,Q⟩),J za l.length zc,.func (.func 107) #[pd (M ⟨P,0,Q⟩)] #[]] w fun e w'=>e=rt (tu #[])/\WrS P w' (bs++ssB l)/\WK P w w':=by
 have hP:=h.lt;have H0:=Hi h;have HZ:=Hi hz;clear h hz;go_enter func106,ntmps106
 go_wp2_with fail
 refine(eH P l.length bs _ H0.out om).mono ?_;rintro e w1 ⟨rfl,h1,k1⟩;have H1:=Hi h1;have K1:=Hi k1;clear h1 k1;go_wp2
 go_loopw [14] (fun i wr=>∃k:Nat,k<=l.length/\i=Y I k/\Hid (WrS P wr (bs++[(l.length:Int)%256]++(l.take k).flatMap (fun x=>yN x.key x.op x.ak x.an x.bk x.bn)))/\Hid (WK P w wr)) (fun i _=>l.length - (intOf i).toNat)
 case atStart=>exact⟨0,nz,rfl,by simpa using H1,K1⟩
 case round=>
  obtain⟨k,hk,rfl,hW,hK⟩:=hrel;by_cases hlt:k<l.length
  ·obtain⟨b,off,hza,hb,c0,c1,c2,c3,c4,c5⟩:=HZ.out wr (hK.out.below hP) k hlt;subst hza;have HT:Hid (_=_):=ssB_take l k hlt;have HLn:=ssB_len l k;have HL2:Hid (((l.take k).flatMap (fun x=>yN x.key x.op x.ak x.an x.bk x.bn)).length<=3000):=by show _<=_;omega
   clear HLn;generalize l.getD k s0=x at *;obtain⟨key,op,ak,an,bk,bn⟩:=x;simp only at c0 c1 c2 c3 c4 c5
   go_wp2_with fail
   refine(wrSet_any P key op ak an bk bn _ _ (hW.out.alloc _) (by have:=HL2.out;simp only[List.length_append,List.length_cons,List.length_nil];omega)).mono ?_;rintro e w3 ⟨rfl,h3,k3⟩
   have H3:Hid (WrS P w3 (bs++[(l.length:Int)%256]++(l.take (k+1)).flatMap (fun x=>yN x.key x.op x.ak x.an x.bk x.bn))):=by
    exact Xq
   exact xt
  ·have hk8:k=l.length:=om;subst hk8
   have H4:Hid (WrS P wr (bs++ssB l)):=by
    have:=hW.out;rw[ld]at this;show WrS P wr _;simpa[ssB]using this
   exact Uu
theorem gsB_all (l:List Gd):(gsB l).length<=1+19*l.length:=by
 have:=vV l l.length;rw[ld]at this;simp only[gsB,List.length_cons];omega
theorem ssB_all (l:List St):(ssB l).length<=1+20*l.length:=by
 have:=ssB_len l l.length;rw[ld]at this;simp only[ssB,List.length_cons];omega
def txB (rs:List Int) (gs:List Gd) (ss:List St):List Int:=zsB rs++gsB gs++ssB ss
theorem txB_len (rs:List Int) (gs:List Gd) (ss:List St) (h1:rs.length<=4) (h2:gs.length<=4) (h3:ss.length<=4):(txB rs gs ss).length<=200:=by
 have a:=gsB_all gs;have b:=ssB_all ss;have c:(zsB rs).length=1+rs.length:=by simp[zsB];omega
 simp only[txB,List.length_append];omega
theorem wrTxn_any (P:Nat) (rs:List Int) (gs:List Gd) (ss:List St) (ra ga sa:Option Addr) (rc gc sc:Nat) (bs:List Int) (w:World) (h:WrS P w bs) (hl:bs.length<=40000) (h1:rs.length<=4) (h2:gs.length<=4) (h3:ss.length<=4) (hz:∀w',Below P w w'->IsTx w' ra ga sa rs gs ss) :
  Calls prog 67 #[pd (M ⟨P,0,Q⟩),ag #[J ra rs.length rc,J ga gs.length gc,J sa ss.length sc]] w fun e w'=>e=rt (tu #[])/\WrS P w' (bs++txB rs gs ss)/\WK P w w':=by
 have hP:=h.lt;have HA:=gsB_all gs;have hzl:(zsB rs).length=1+rs.length:=by simp[zsB];omega
 have L1:Hid ((bs++zsB rs).length<=50000):=by show _<=_;rw[nj];omega
 have L2:Hid ((bs++zsB rs++gsB gs).length<=50000):=by show _<=_;rw[nj,nj];omega
 clear HA hzl;obtain⟨W,hWe⟩:=nm (w.alloc (U #[J ra rs.length rc,J ga gs.length gc,J sa ss.length sc] 95));have H0:Hid (WrS P W bs):=by subst hWe;exact h.alloc _
 have K0:Hid (WK P w W):=by subst hWe;exact(WK.refl P w).alloc _
 have N0:Hid (iT W w.heap.size):=by subst hWe;exact kM _ _ _ dc
 have S0:Hid (w.heap.size<W.heap.size):=by subst hWe;show _<_;simp
 have c0:W.cell? ⟨w.heap.size,0,Q⟩=J ra rs.length rc:=by subst hWe;simp
 have c1:W.cell? ⟨w.heap.size,1,Q⟩=J ga gs.length gc:=by subst hWe;simp
 have c2:W.cell? ⟨w.heap.size,2,Q⟩=J sa ss.length sc:=by subst hWe;simp
 have HZ:=Hi hz;have HWE:=Hi hWe;clear h hz hWe;go_enter func67,ntmps67
 go_upto_region 1 with fail
 rw[<-HWE.out]
 go_wp2_with fail
 refine(wrInts_any P rs ra rc _ _ H0.out om om (fun w' hb=>(HZ.out w' ((K0.out.below hP).trans hb)).r)).mono ?_;rintro e w1 ⟨rfl,h,k⟩;have H1:=Hi h;have K1:=Hi (K0.out.trans k);have N1:=Hi (mK N0.out k S0.out om);have c1:=k.cell c1 om (Or.inr N0.out);have c2:=k.cell c2 om (Or.inr N0.out);clear h k
 go_wp2_with fail
 refine(wrGuards_any P gs ga gc _ _ H1.out L1.out om (fun w' hb=>(HZ.out w' ((K1.out.below hP).trans hb)).g)).mono ?_;rintro e w2 ⟨rfl,h,k⟩;have H2:=Hi h;have K2:=Hi (K1.out.trans k);have c2:=k.cell c2 om (Or.inr N1.out);clear h k
 go_wp2_with fail
 refine(wrSets_any P ss sa sc _ _ H2.out L2.out om (fun w' hb=>(HZ.out w' ((K2.out.below hP).trans hb)).s)).mono ?_;rintro e w3 ⟨rfl,h,k⟩;have H3:=Hi h;have K3:=Hi (K2.out.trans k);clear h k
 go_wp2_with fail
 go_end0;exact⟨rfl,by simpa[txB]using H3.out,K3.out⟩
def xB (x:TxA):List Int:=txB x.rs x.gs x.ss
def xsB (l:List TxA):List Int:=((l.length:Int)%256)::l.flatMap xB
theorem vY (l:List TxA) (k:Nat) (h:k<l.length):(l.take (k+1)).flatMap xB=(l.take k).flatMap xB++xB (l.getD k x0):=by
 exact Vd
def Few (l:List TxA):Prop:=∀k,k<l.length->(l.getD k x0).rs.length<=4/\(l.getD k x0).gs.length<=4/\(l.getD k x0).ss.length<=4
theorem xsB_len (l:List TxA) (h:Few l):∀k,k<=l.length->((l.take k).flatMap xB).length<=200*k:=by
 intro k
 induction k with
 | zero=>simp
 | succ k ih=>
  intro hk;have a:=ih om;obtain⟨h1,h2,h3⟩:=h k om;have b:=txB_len _ _ _ h1 h2 h3;rw[vY l k om,nj];show _+(txB _ _ _).length<=_;omega
theorem wrTxns_any (P:Nat) (l:List TxA) (za:Option Addr) (zc:Nat) (bs:List Int) (w:World) (h:WrS P w bs) (hl:bs.length<=20000) (h8:l.length<=8) (hfew:Few l) (hz:∀w',Below P w w'->IsTxs w' za l) :
  Calls prog 66 #[pd (M ⟨P,0,Q⟩),J za l.length zc,.func (.func 67) #[pd (M ⟨P,0,Q⟩)] #[]] w fun e w'=>e=rt (tu #[])/\WrS P w' (bs++xsB l)/\WK P w w':=by
 have hP:=h.lt;have H0:=Hi h;have HZ:=Hi hz;have HFW:=Hi hfew;clear h hz hfew;go_enter func66,ntmps66
 go_wp2_with fail
 refine(eH P l.length bs _ H0.out om).mono ?_;rintro e w1 ⟨rfl,h1,k1⟩;have H1:=Hi h1;have K1:=Hi k1;clear h1 k1;go_wp2
 go_loopw [14] (fun i wr=>∃k:Nat,k<=l.length/\i=Y I k/\Hid (WrS P wr (bs++[(l.length:Int)%256]++(l.take k).flatMap xB))/\Hid (WK P w wr)) (fun i _=>l.length - (intOf i).toNat)
 case atStart=>exact⟨0,nz,rfl,by simpa using H1,K1⟩
 case round=>
  obtain⟨k,hk,rfl,hW,hK⟩:=hrel;by_cases hlt:k<l.length
  ·obtain⟨b,off,hza,hb,c0,c1,c2,_⟩:=HZ.out wr (hK.out.below hP) k hlt;have HT:Hid (_=_):=vY l k hlt;have HLn:=xsB_len l HFW.out k hk;have HL2:Hid (((l.take k).flatMap xB).length<=3000):=by show _<=_;omega
   have HS:=Hi (HFW.out k hlt)
   have HE:Hid _:=fun w' hb=>by
    obtain⟨_,_,_,_,_,_,_,hx⟩:=HZ.out w' hb k hlt;exact hx.t
   have HZ':=Hi hza;subst hza;clear HLn;generalize l.getD k x0=x at *
   go_wp2_with fail
   refine(wrTxn_any P x.rs x.gs x.ss x.ra x.ga x.sa x.rc x.gc x.sc _ _ (hW.out.alloc _) (by have:=HL2.out;simp only[List.length_append,List.length_cons,List.length_nil];omega) HS.out.1 HS.out.2.1 HS.out.2.2 (fun w' hb=>HE.out w' (((hK.out.alloc _).below hP).trans hb))).mono ?_;rintro e w3 ⟨rfl,h3,k3⟩
   have H3:Hid (WrS P w3 (bs++[(l.length:Int)%256]++(l.take (k+1)).flatMap xB)):=by
    exact Xq
   exact xt
  ·have hk8:k=l.length:=om;subst hk8
   have H4:Hid (WrS P wr (bs++xsB l)):=by
    have:=hW.out;rw[ld]at this;show WrS P wr _;simpa[xsB]using this
   exact Uu
theorem info99:(prog.info? 99).map (fun i=>(i.zero,i.size,i.bytes))=M (M (ag #[Y I 0,Y I 0,Y I 0,Y I 0,Y I 0]),5,40):=by kernel_rfl
def kZ (g:Gd):List Value:=[Y I g.k,Y I g.ak,Y I g.an,Y I g.bk,Y I g.bn]
def mP:List Gd->List Value
 | []=>[]
 | g::gs=>kZ g++mP gs
theorem flat_len:∀gs:List Gd,(mP gs).length=gs.length*5
 | []=>rfl
 | g::gs=>by simp[mP,kZ,flat_len gs];omega
theorem flat_app:∀(gs hs:List Gd),mP (gs++hs)=mP gs++mP hs
 | [],_=>rfl
 | g::gs,hs=>by simp[mP,flat_app gs hs]
theorem flat_one:∀(gs:List Gd),∀u∈mP gs,u.oneCell'=true
 | [],u,h=>by cases h
 | g::gs,u,h=>by
   simp only[mP,List.mem_append]at h;rcases h with h | h
   ·simp only[kZ,List.mem_cons,List.not_mem_nil,or_false]at h;rcases h with rfl | rfl | rfl | rfl | rfl <;> rfl
   ·exact flat_one gs u h
theorem flat_at:∀(gs:List Gd) (i j:Nat),i<gs.length->j<5->(mP gs)[i*5+j]?=(kZ (gs.getD i g0))[j]?
 | [],i,j,h,_=>absurd h sm
 | g::gs,0,j,_,hj=>by
   simp only[mP,Nat.zero_mul,Nat.zero_add];rw[List.getElem?_append_left (by simpa[kZ]using hj)];rfl
 | g::gs,i+1,j,h,hj=>by
   simp only[mP];rw[List.getElem?_append_right (by simp[kZ];omega)];have e:(i+1)*5+j - (kZ g).length=i*5+j:=by simp[kZ];omega
   rw[e,flat_at gs i j (by simpa using h) hj];rfl
theorem xR {w:World} {base:Nat} {gs:List Gd} (h:w.ownsRow base 99 5 v n (mP gs)):∃a cap,v=J a gs.length cap/\IsGs w a gs:=by
 have hn:gs.length=n:=by have:=h.1;rw[flat_len]at this;omega
 rcases h.2 with ⟨rfl,h0⟩ | ⟨g,cap,cur,rfl,hb,hg,hnc,hcm,hcs,htake⟩
 ·exact xx
 ·refine⟨M ⟨g,0,Q⟩,cap,by rw[hn],fun i hi=>?_⟩;have hc:=fun (j:Nat) (hj:j<5) (u:Value) (hu:(kZ (gs.getD i g0))[j]?=M u)=>h.cells (g:=g) rfl (i*5+j) u ((flat_at gs i j hi hj).trans hu)
  simp only[bZ,Nat.zero_add]at hc;refine⟨g,0,rfl,(Array.getElem?_eq_some_iff.1 hg).1,?_,?_,?_,?_,?_⟩
  ·simpa using hc 0 om _ rfl
  ·simpa using hc 1 om _ rfl
  ·simpa using hc 2 om _ rfl
  ·simpa using hc 3 om _ rfl
  ·simpa using hc 4 om _ rfl
theorem IsGs.grown {w:World} {gs:List Gd} (h:IsGs w a gs) (hg:w.grownBy w' row) (hne:∀ad,a=M ad->M ad.block≠row):IsGs w' a gs:=by
 intro i hi;obtain⟨b,off,ha,hlt,h0,h1,h2,h3,h4⟩:=h i hi;have hb:M b≠row:=hne _ ha;have far:∀j,w'.cell? ⟨b,j,Q⟩=w.cell? _:=fun j=>nu (hg.block b hlt hb)
 refine⟨b,off,ha,nd hlt hg.size,?_,?_,?_,?_,?_⟩ <;> (rw[far];assumption)
theorem info102:(prog.info? 102).map (fun i=>(i.zero,i.size,i.bytes))=M (M (ag #[Y I 0,Y I 0,Y I 0,Y I 0,Y I 0,Y I 0]),6,48):=by kernel_rfl
def kQ (g:St):List Value:=[Y I g.key,Y I g.op,Y I g.ak,Y I g.an,Y I g.bk,Y I g.bn]
def iD:List St->List Value
 | []=>[]
 | g::gs=>kQ g++iD gs
theorem aBg:∀gs:List St,(iD gs).length=gs.length*6
 | []=>rfl
 | g::gs=>by simp[iD,kQ,aBg gs];omega
theorem aBf:∀(gs:List St),∀u∈iD gs,u.oneCell'=true
 | [],u,h=>by cases h
 | g::gs,u,h=>by
   simp only[iD,List.mem_append]at h;rcases h with h | h
   ·simp only[kQ,List.mem_cons,List.not_mem_nil,or_false]at h;rcases h with rfl | rfl | rfl | rfl | rfl | rfl <;> rfl
   ·exact aBf gs u h
theorem flatS_at:∀(gs:List St) (i j:Nat),i<gs.length->j<6->(iD gs)[i*6+j]?=(kQ (gs.getD i s0))[j]?
 | [],i,j,h,_=>absurd h sm
 | g::gs,0,j,_,hj=>by
   simp only[iD,Nat.zero_mul,Nat.zero_add];rw[List.getElem?_append_left (by simpa[kQ]using hj)];rfl
 | g::gs,i+1,j,h,hj=>by
   simp only[iD];rw[List.getElem?_append_right (by simp[kQ];omega)];have e:(i+1)*6+j - (kQ g).length=i*6+j:=by simp[kQ];omega
   rw[e,flatS_at gs i j (by simpa using h) hj];rfl
theorem wL {w:World} {base:Nat} {gs:List St} (h:w.ownsRow base 102 6 v n (iD gs)):∃a cap,v=J a gs.length cap/\IsSs w a gs:=by
 have hn:gs.length=n:=by have:=h.1;rw[aBg]at this;omega
 rcases h.2 with ⟨rfl,h0⟩ | ⟨g,cap,cur,rfl,hb,hg,hnc,hcm,hcs,htake⟩
 ·exact xx
 ·refine⟨M ⟨g,0,Q⟩,cap,by rw[hn],fun i hi=>?_⟩;have hc:=fun (j:Nat) (hj:j<6) (u:Value) (hu:(kQ (gs.getD i s0))[j]?=M u)=>h.cells (g:=g) rfl (i*6+j) u ((flatS_at gs i j hi hj).trans hu)
  simp only[bZ,Nat.zero_add]at hc;refine⟨g,0,rfl,(Array.getElem?_eq_some_iff.1 hg).1,?_,?_,?_,?_,?_,?_⟩
  ·simpa using hc 0 om _ rfl
  ·simpa using hc 1 om _ rfl
  ·simpa using hc 2 om _ rfl
  ·simpa using hc 3 om _ rfl
  ·simpa using hc 4 om _ rfl
  ·simpa using hc 5 om _ rfl
def InBlocks (lo hi:Nat) (a:Option Addr):Prop:=∀ad,a=M ad->lo<=ad.block/\ad.block<hi
theorem InBlocks.widen (h:InBlocks lo hi a) (h1:lo'<=lo) (h2:hi<=hi'):InBlocks lo' hi' a:=fun ad e=>⟨nh h1 (h ad e).1,nd (h ad e).2 h2⟩
theorem pA {w:World} {base:Nat} {e:TypeId} {size:Nat} {xs:List Value} (h:w.ownsRow base e size (J a k c) n xs):InBlocks base w.heap.size a/\(a=Q->c=0):=by
 rcases h.2 with ⟨he,_⟩ | ⟨g,cap,cur,he,hb,hg,_⟩
 ·injection he with e1 e2 e3
  subst e1 e3;exact⟨fun ad e=>(by cases e),fun _=>rfl⟩
 ·injection he with e1 e2 e3
  subst e1;refine⟨fun ad e=>?_,fun e=>by cases e⟩;injection e with e
  subst e;exact⟨hb,(Array.getElem?_eq_some_iff.1 hg).1⟩
abbrev iG:=List Int×List Gd×List St
def TxA.core (x:TxA):iG:=(x.rs,x.gs,x.ss)
structure XIn (lo hi:Nat) (v:Value) (x:TxA):Prop where
 r:InBlocks lo hi x.ra
 g:InBlocks lo hi x.ga
 s:InBlocks lo hi x.sa
 nr:∀ad,x.ra=M ad->v.ownBlock≠M ad.block
 ng:∀ad,x.ga=M ad->v.ownBlock≠M ad.block
 ns:∀ad,x.sa=M ad->v.ownBlock≠M ad.block
def TxRow (C:Nat) (w:World) (v:Value) (l:List TxA):Prop:=
 w.ownsRow C 95 3 v l.length (iQ l)/\∀x∈l,IsX w x/\XIn C w.heap.size v x
theorem zZ (C:Nat) (w:World):TxRow C w (J Q 0 0) []:=⟨n8 _ _ _ _,fun r hr=>by cases hr⟩
theorem IsInts.keptBy {w:World} (h:IsInts w a zs) (hg:w.grownBy w' row) (hr:∀ad,a=M ad->row≠M ad.block):IsInts w' a zs:=fun i hi=>by
 obtain⟨b,off,ha,hlt,hc⟩:=h i hi;exact⟨b,off,ha,nd hlt hg.size,hg.cell hc (fun e=>hr _ ha e.symm)⟩
theorem IsGs.keptBy {w:World} {zs:List Gd} (h:IsGs w a zs) (hg:w.grownBy w' row) (hr:∀ad,a=M ad->row≠M ad.block):IsGs w' a zs:=fun i hi=>by
 obtain⟨b,off,ha,hlt,c0,c1,c2,c3,c4⟩:=h i hi;have hn:M b≠row:=fun e=>hr _ ha e.symm
 exact⟨b,off,ha,nd hlt hg.size,hg.cell c0 hn,hg.cell c1 hn,hg.cell c2 hn,hg.cell c3 hn,hg.cell c4 hn⟩
theorem IsSs.keptBy {w:World} {zs:List St} (h:IsSs w a zs) (hg:w.grownBy w' row) (hr:∀ad,a=M ad->row≠M ad.block):IsSs w' a zs:=fun i hi=>by
 obtain⟨b,off,ha,hlt,c0,c1,c2,c3,c4,c5⟩:=h i hi;have hn:M b≠row:=fun e=>hr _ ha e.symm
 exact⟨b,off,ha,nd hlt hg.size,hg.cell c0 hn,hg.cell c1 hn,hg.cell c2 hn,hg.cell c3 hn,hg.cell c4 hn,hg.cell c5 hn⟩
theorem IsX.keptBy {w:World} {x:TxA} (h:IsX w x) (hg:w.grownBy w' row) (h1:∀ad,x.ra=M ad->row≠M ad.block) (h2:∀ad,x.ga=M ad->row≠M ad.block) (h3:∀ad,x.sa=M ad->row≠M ad.block):IsX w' x:=
 ⟨⟨h.t.r.keptBy hg h1,h.t.g.keptBy hg h2,h.t.s.keptBy hg h3,h.t.lr,h.t.lg,h.t.ls⟩,h.rn,h.gn,h.sn⟩
theorem XIn.widen {x:TxA} (h:XIn lo hi v x) (h1:lo'<=lo) (h2:hi<=hi'):XIn lo' hi' v x:=⟨h.r.widen h1 h2,h.g.widen h1 h2,h.s.widen h1 h2,h.nr,h.ng,h.ns⟩
theorem XIn.to {x:TxA} (h:XIn lo hi v x) (hv:v'.ownBlock=v.ownBlock∨v'.ownBlock=M hi):XIn lo hi v' x:=by
 rcases hv with e | e
 ·exact⟨h.r,h.g,h.s,by rw[e];exact h.nr,by rw[e];exact h.ng,by rw[e];exact h.ns⟩
 ·refine⟨h.r,h.g,h.s,fun ad ha q=>?_,fun ad ha q=>?_,fun ad ha q=>?_⟩
  ·rw[e]at q;injection q with q;have:=(h.r ad ha).2;omega
  ·rw[e]at q;injection q with q;have:=(h.g ad ha).2;omega
  ·rw[e]at q;injection q with q;have:=(h.s ad ha).2;omega
theorem TxRow.kept {w:World} {l:List TxA} (h:TxRow C w v l) (hg:w.grownBy w' row) (hr:∀j,row=M j->j<C):TxRow C w' v l:=by
 refine⟨h.1.kept hg ?_,fun x hm=>?_⟩
 ·exact UK
 ·obtain⟨h1,h2⟩:=h.2 x hm;exact⟨h1.keptBy hg (fun ad e q=>by have:=(h2.r ad e).1;have:=hr _ q;omega) (fun ad e q=>by have:=(h2.g ad e).1;have:=hr _ q;omega) (fun ad e q=>by have:=(h2.s ad e).1;have:=hr _ q;omega),h2.widen nr hg.size⟩
theorem TxRow.below {w:World} {l:List TxA} (h:TxRow C w v l) (hb:Below w.heap.size w w'):TxRow C w' v l:=h.kept (cC hb Q) (fun j e=>by cases e)
theorem TxRow.low {w:World} {l:List TxA} (h:TxRow C w v l) (hc:C'<=C):TxRow C' w v l:=⟨rM h.1 hc,fun x hx=>⟨(h.2 x hx).1,(h.2 x hx).2.widen hc nr⟩⟩
theorem TxRow.push {w:World} {l m:List TxA} (h:TxRow C w v l) (ho:w'.ownsRow C 95 3 v' (l.length+m.length) (iQ l++iQ m)) (hg:w.grownBy w' v.ownBlock) (hv:v'.ownBlock=v.ownBlock∨v'.ownBlock=M w.heap.size) (hm:∀x∈m,IsX w x/\XIn C w.heap.size v x):TxRow C w' v' (l++m):=by
 refine⟨by rw[aBe,nj];exact ho,fun x hx=>?_⟩
 have key:IsX w x/\XIn C w.heap.size v x:=by
  rcases List.mem_append.1 hx with hx | hx
  ·exact h.2 x hx
  ·exact hm x hx
 exact⟨key.1.keptBy hg key.2.nr key.2.ng key.2.ns,(key.2.to hv).widen nr hg.size⟩
theorem TxRow.txs {w:World} {l:List TxA} (h:TxRow C w v l):∃a cap,v=J a l.length cap/\IsTxs w a l:=txs_of_owns h.1 (fun x hx=>(h.2 x hx).1)
theorem UZ (h:p:=by
 congr 1;omega;congr 1;omega;congr 1;omega;congr 1;omega;congr 1;omega;congr 1;omega;congr 1;omega;congr 1;omega):p:=h
def Byt (bs:List Int):Prop:=∀b∈bs,0<=b/\b<256
theorem Byt.tail (h:Byt (b::r)):Byt r:=fun x hx=>h x (ly _ hx)
theorem Byt.app {a b:List Int} (h:Byt (a++b)):Byt b:=fun x hx=>h x (List.mem_append_right _ hx)
def eI (s:ByteArray):List Int:=s.data.toList.map (fun b=>(b.toNat:Int))
theorem rR (s:ByteArray):Byt (eI s):=by
 intro b hb;obtain⟨c,_,rfl⟩:=List.mem_map.1 hb;have:=c.toNat_lt;omega
theorem jJ (s:ByteArray):(eI s).length=s.size:=by
 cases s;simp[eI,ByteArray.size]
theorem lst_cons (h:eI s=b::r):∃h0:0<s.size,((s[0]'h0).toNat:Int)=b/\eI (s.extract 1 s.size)=r:=by
 obtain⟨⟨l⟩⟩:=s
 cases l with
 | nil=>simp[eI]at h
 | cons x l=>
  simp only[eI,List.map_cons,List.cons.injEq]at h;obtain⟨h1,h2⟩:=h;refine⟨by simp[ByteArray.size],?_,?_⟩
  ·rw[<-h1];rfl
  ·rw[<-h2,ByteArray.extract_mk];simp[eI,ByteArray.size]
theorem pF:(s.toList==([]:List UInt8))=decide (eI s=[]):=by
 rw[ByteArray.toList_eq];obtain⟨⟨l⟩⟩:=s
 cases l <;> simp[eI]
theorem lst_inj (h:eI s=eI t):s.toList=t.toList:=by
 rw[ByteArray.toList_eq,ByteArray.toList_eq]
 have inj:∀(a b:List UInt8),a.map (fun b=>(b.toNat:Int))=b.map (fun b=>(b.toNat:Int))->a=b:=by
  intro a
  induction a with
  | nil=>intro b hb;cases b with
   | nil=>rfl
   | cons y b=>simp at hb
  | cons x a ih=>
   intro b hb
   cases b with
   | nil=>simp at hb
   | cons y b=>
    simp only[List.map_cons,List.cons.injEq]at hb;have hxy:x=y:=UInt8.toNat_inj.1 om;rw[hxy,ih b hb.2]
 exact inj _ _ h
theorem lst_eq (h:eI s=eI t):s=t:=by
 have:=lst_inj h;rw[ByteArray.toList_eq,ByteArray.toList_eq]at this;obtain⟨⟨l⟩⟩:=s;obtain⟨⟨m⟩⟩:=t;simp at this;rw[this]
theorem lst_iff (s t:ByteArray):(s.toList==t.toList)=decide (eI s=eI t):=by
 by_cases h:eI s=eI t
 ·rw[lst_inj h];simp[h]
 ·have:s.toList≠t.toList:=by
   intro e;rw[ByteArray.toList_eq,ByteArray.toList_eq]at e;exact h (by unfold eI;rw[e])
  simp[h,this]
theorem lst_push (s:ByteArray) (n:Int) (h:0<=n/\n<256):eI (s.push (UInt8.ofNat n.toNat))=eI s++[n]:=by
 obtain⟨⟨l⟩⟩:=s;have hn:n.toNat%256=_:=Nat.mod_eq_of_lt om
 have e:((UInt8.ofNat n.toNat).toNat:Int)=n:=by
  simp[hn];omega
 simp only[eI,ByteArray.push,List.push_toArray,List.map_append,List.map_cons,List.map_nil,e]
theorem aAr:∀(ns:List Int) (s:ByteArray),Byt ns->eI (ns.foldl (fun r n=>r.push (UInt8.ofNat n.toNat)) s)=eI s++ns
 | [],s,_=>by simp
 | n::ns,s,h=>by
  rw[List.foldl_cons,aAr ns _ (fun x hx=>h x (ly _ hx)),lst_push s n (h n sm)];simp
theorem or_u64 {v:Int} (h0:0<=v) (h1:v<18446744073709551616) (hm:v%256=0) (hb0:0<=b) (hb1:b<256):bits .or .u64 v b=v+b:=by
 rw[u64_or v b h0 h1 hb0 om,nat_join 8 v.toNat b.toNat om om];omega
theorem or_i64 (hx:0<=x) (hx1:x<72057594037927936) (hb0:0<=b) (hb1:b<256):bits .or I (IntKind.i64.wrap (x*256)) b=IntKind.i64.wrap (x*256+b):=by
 show IntKind.i64.wrap ((BitVec.ofInt 64 (IntKind.i64.wrap (x*256)) ||| BitVec.ofInt 64 b).toNat:Int)=_
 have e1:(BitVec.ofInt 64 (IntKind.i64.wrap (x*256))).toNat=(x*256).toNat:=by
  rw[BitVec.toNat_ofInt];simp[IntKind.wrap,IntKind.bits,IntKind.signed];omega
 have e2:(BitVec.ofInt 64 b).toNat=b.toNat:=by
  rw[BitVec.toNat_ofInt];omega
 rw[BitVec.toNat_or,e1,e2,nat_join 8 _ b.toNat om om];congr 1;omega
def jP (n:Int):Prop:=-9223372036854775808<=n/\n<9223372036854775808
def sgn (v:Int):Int:=if v<9223372036854775808 then v else v - 18446744073709551616
def gN (l:List Int):Int:=l.foldl (fun v b=>v*256+b) 0
def jX:List Int->Option (Int×List Int)
 | []=>Q
 | b::r=>M (b,r)
def rdV (bs:List Int):Option (Int×List Int):=if bs.length<8 then Q else M (sgn (gN (bs.take 8)),bs.drop 8)
def vQ (bs:List Int):Option ((Int×Int)×List Int):=(jX bs).bind fun p=>(rdV p.2).map fun q=>((p.1,q.1),q.2)
def nW (bs:List Int):Option (Gd×List Int):=(jX bs).bind fun p=>(vQ p.2).bind fun q=>(vQ q.2).map fun s=>(⟨p.1,q.1.1,q.1.2,s.1.1,s.1.2⟩,s.2)
def mI (bs:List Int):Option (St×List Int):=(jX bs).bind fun p=>(jX p.2).bind fun o=>(vQ o.2).bind fun q=>(vQ q.2).map fun s=>(⟨p.1,o.1,q.1.1,q.1.2,s.1.1,s.1.2⟩,s.2)
def lK {α:Type} (f:List Int->Option (α×List Int)):Nat->List Int->Option (List α×List Int)
 | 0,bs=>M ([],bs)
 | n+1,bs=>(f bs).bind fun p=>(lK f n p.2).map fun q=>(p.1::q.1,q.2)
def iU {α:Type} (f:List Int->Option (α×List Int)) (bs:List Int):Option (List α×List Int):=(jX bs).bind fun p=>lK f p.1.toNat p.2
def nV (bs:List Int):Option (iG×List Int):=(iU jX bs).bind fun p=>(iU nW p.2).bind fun q=>(iU mI q.2).map fun s=>((p.1,q.1,s.1),s.2)
def rdP (bs:List Int):Option ((Int×List iG)×List Int):=(jX bs).bind fun p=>(iU nV p.2).map fun q=>((p.1,q.1),q.2)
def zY {α:Type} (f:List Int->Option (α×List Int)) (e:α->List Int) (x:α):Prop:=∀r,f (e x++r)=M (x,r)
def zX {α:Type} (f:List Int->Option (α×List Int)) (e:α->List Int) (G:α->Prop):Prop:=∀bs x r,Byt bs->f bs=M (x,r)->bs=e x++r/\G x
theorem valL_valN (n:Int):gN (mE n)=n%18446744073709551616:=by
 have h0:0<=n%18446744073709551616:=Int.emod_nonneg _ dc;have h1:n%18446744073709551616<18446744073709551616:=Int.emod_lt_of_pos _ dc;simp only[gN,mE,qZ,List.foldl_cons,List.foldl_nil];generalize n%18446744073709551616=m at *;simp only[Nat.reduceMul,Int.reducePow];omega
theorem valL_byt (n:Int):Byt (mE n):=by
 intro b hb;simp only[mE,List.mem_cons,List.not_mem_nil,or_false]at hb;rcases hb with rfl | rfl | rfl | rfl | rfl | rfl | rfl | rfl <;> exact⟨Int.emod_nonneg _ dc,Int.emod_lt_of_pos _ dc⟩
theorem sgn_mod {n:Int} (h:jP n):sgn (n%18446744073709551616)=n:=by
 obtain⟨h1,h2⟩:=h;unfold sgn;split <;> omega
theorem rdV_back {n:Int} (h:jP n):zY rdV mE n:=by
 intro r;have e8:(mE n).length=8:=rfl;have hl:¬(mE n++r).length<8:=by rw[nj,e8];omega
 unfold rdV;rw[if_neg hl,List.take_append_of_le_length (by rw[e8];exact nr),List.drop_append_of_le_length (by rw[e8];exact nr),le (by rw[e8];exact nr),wh (by rw[e8];exact nr),valL_valN,sgn_mod h];rfl
theorem valN_valL {a c d e f g h:Int} (hb:Byt [a,b,c,d,e,f,g,h]):letI Z:=sgn (gN [a,b,c,d,e,f,g,h]);mE Z=[a,b,c,d,e,f,g,h]/\jP Z:=by
 have ha:=hb a sm;have hb':=hb b sm;have hc:=hb c sm;have hd:=hb d sm;have he:=hb e sm;have hf:=hb f sm;have hg:=hb g sm;have hh:=hb h sm
 have e1:gN [a,b,c,d,e,f,g,h]=a*72057594037927936+b*281474976710656+c*1099511627776+d*4294967296+e*16777216+f*65536+g*256+h:=by
  simp only[gN,List.foldl_cons,List.foldl_nil];omega
 have hs:∀v:Int,0<=v->v<18446744073709551616->sgn v%18446744073709551616=v/\jP (sgn v):=by
  intro v h0 h1;unfold sgn jP;split <;> omega
 obtain⟨h1,h2⟩:=hs (gN [a,b,c,d,e,f,g,h]) om om;refine⟨?_,h2⟩;simp only[mE,qZ,h1];rw[e1];simp only[Nat.reduceMul,Int.reducePow];clear h1 h2 e1 hs hb;exact UZ
theorem rdV_only:zX rdV mE jP:=by
 intro bs x r hB h;unfold rdV at h;by_cases hl:bs.length<8
 ·rw[if_pos hl]at h;cases h
 ·rw[if_neg hl]at h;injection h with h
  injection h with h1 h2
  match bs,hl with
  | a::b::c::d::e::f::g::i::t,_=>
   simp only[List.take_succ_cons,List.take_zero,List.drop_succ_cons,List.drop_zero]at h1 h2;have hb8:Byt [a,b,c,d,e,f,g,i]:=fun x hx=>hB x (by simp only[List.mem_cons,List.not_mem_nil,or_false]at hx ⊢;rcases hx with h | h | h | h | h | h | h | h <;> simp[h])
   obtain⟨k1,k2⟩:=valN_valL hb8;subst h1 h2;exact⟨by rw[k1];rfl,k2⟩
  | [],hl=>simp at hl
  | [_],hl=>simp at hl
  | [_,_],hl=>simp at hl
  | [_,_,_],hl=>simp at hl
  | [_,_,_,_],hl=>simp at hl
  | [_,_,_,_,_],hl=>simp at hl
  | [_,_,_,_,_,_],hl=>simp at hl
  | [_,_,_,_,_,_,_],hl=>simp at hl
def B1 (n:Int):Prop:=0<=n/\n<256
theorem B1.mod {n:Int} (h:B1 n):n%256=n:=Int.emod_eq_of_lt h.1 h.2
def oB (o:Int×Int):List Int:=rP o.1 o.2
def gB (x:Gd):List Int:=yP x.k x.ak x.an x.bk x.bn
def sB (x:St):List Int:=yN x.key x.op x.ak x.an x.bk x.bn
def cB (c:iG):List Int:=txB c.1 c.2.1 c.2.2
def OkO (o:Int×Int):Prop:=B1 o.1/\jP o.2
def OkG (x:Gd):Prop:=B1 x.k/\B1 x.ak/\jP x.an/\B1 x.bk/\jP x.bn
def OkS (x:St):Prop:=B1 x.key/\B1 x.op/\B1 x.ak/\jP x.an/\B1 x.bk/\jP x.bn
def OkC (c:iG):Prop:=(c.1.length<256/\∀z∈c.1,B1 z)/\(c.2.1.length<256/\∀z∈c.2.1,OkG z)/\(c.2.2.length<256/\∀z∈c.2.2,OkS z)
theorem rdN_back {n:Int} (h:B1 n):zY jX (fun n=>[n%256]) n:=by
 intro r;simp[jX,h.mod]
theorem rdN_only:zX jX (fun n=>[n%256]) B1:=by
 intro bs x r hB h
 match bs,h with
 | b::t,h=>
  injection h with h
  injection h with h1 h2
  subst h1 h2;have hb:B1 b:=hB b sm;exact⟨by simp[hb.mod],hb⟩
theorem rK {o:Int×Int} (h:OkO o):zY vQ oB o:=by
 intro r;have e:oB o++r=_::(mE o.2++r):=rfl;rw[e];simp[vQ,jX,rdV_back h.2 r,h.1.mod]
theorem rJ:zX vQ oB OkO:=by
 intro bs x r hB h
 match bs,h with
 | b::t,h=>
  simp only[vQ,jX,Option.bind_some,Option.map_eq_some_iff]at h;obtain⟨⟨v,r'⟩,hv,h⟩:=h;obtain⟨e,k⟩:=rdV_only t v r' hB.tail hv;have hb:B1 b:=hB b sm;injection h with h1 h2
  subst h1 h2;exact⟨by rw[e];simp[oB,rP,hb.mod],hb,k⟩
theorem rdG_back {x:Gd} (h:OkG x):zY nW gB x:=by
 intro r;obtain⟨h1,h2,h3,h4,h5⟩:=h;have e:gB x++r=(x.k%256)::(oB (x.ak,x.an)++(oB (x.bk,x.bn)++r)):=by simp[gB,yP,oB]
 rw[e];simp[nW,jX,rK (o:=(x.ak,x.an)) ⟨h2,h3⟩ _,rK (o:=(x.bk,x.bn)) ⟨h4,h5⟩ _,h1.mod]
theorem rdG_only:zX nW gB OkG:=by
 intro bs x r hB h
 match bs,h with
 | b::t,h=>
  simp only[nW,jX,Option.bind_some,Option.map_eq_some_iff,Option.bind_eq_some_iff]at h;obtain⟨⟨o,r1⟩,h1,⟨p,r2⟩,h2,h⟩:=h;obtain⟨e1,k1⟩:=rJ t o r1 hB.tail h1;have hB1:Byt r1:=by have:=hB.tail;rw[e1]at this;exact this.app
  obtain⟨e2,k2⟩:=rJ r1 p r2 hB1 h2;have hb:B1 b:=hB b sm;injection h with h1 h2
  subst h1 h2;exact⟨by rw[e1,e2];simp[gB,yP,oB,hb.mod],hb,k1.1,k1.2,k2.1,k2.2⟩
theorem rdS_back {x:St} (h:OkS x):zY mI sB x:=by
 intro r;obtain⟨h0,h1,h2,h3,h4,h5⟩:=h;have e:sB x++r=(x.key%256)::(x.op%256)::(oB (x.ak,x.an)++(oB (x.bk,x.bn)++r)):=by simp[sB,yN,oB]
 rw[e];simp[mI,jX,rK (o:=(x.ak,x.an)) ⟨h2,h3⟩ _,rK (o:=(x.bk,x.bn)) ⟨h4,h5⟩ _,h0.mod,h1.mod]
theorem rdS_only:zX mI sB OkS:=by
 intro bs x r hB h
 match bs,h with
 | a::b::t,h=>
  simp only[mI,jX,Option.bind_some,Option.map_eq_some_iff,Option.bind_eq_some_iff]at h;obtain⟨⟨o,r1⟩,h1,⟨p,r2⟩,h2,h⟩:=h;obtain⟨e1,k1⟩:=rJ t o r1 hB.tail.tail h1;have hB1:Byt r1:=by have:=hB.tail.tail;rw[e1]at this;exact this.app
  obtain⟨e2,k2⟩:=rJ r1 p r2 hB1 h2;have ha:B1 a:=hB a sm;have hb:B1 b:=hB b sm;injection h with h1 h2
  subst h1 h2;exact⟨by rw[e1,e2];simp[sB,yN,oB,ha.mod,hb.mod],ha,hb,k1.1,k1.2,k2.1,k2.2⟩
 | [_],h=>simp[mI,jX]at h
theorem rdK_back {α:Type} {f:List Int->Option (α×List Int)} {e:α->List Int}:∀(l:List α),(∀x∈l,zY f e x)->∀r,lK f l.length (l.flatMap e++r)=M (l,r)
 | [],_,r=>rfl
 | x::l,h,r=>by
  have e1:(x::l).flatMap e++r=e x++(l.flatMap e++r):=sm;rw[e1];have ih:=rdK_back l (fun y hy=>h y (ly _ hy)) r;simp[lK,h x sm _,ih]
theorem rdK_only {α:Type} {f:List Int->Option (α×List Int)} {e:α->List Int} {G:α->Prop} (hf:zX f e G):∀(n:Nat) bs l r,Byt bs->lK f n bs=M (l,r)->bs=l.flatMap e++r/\l.length=n/\∀x∈l,G x
 | 0,bs,l,r,_,h=>by
  simp only[lK]at h;injection h with h
  injection h with h1 h2
  subst h1 h2;simp
 | n+1,bs,l,r,hB,h=>by
  simp only[lK,Option.bind_eq_some_iff,Option.map_eq_some_iff]at h;obtain⟨⟨x,r1⟩,h1,⟨l2,r2⟩,h2,h⟩:=h;obtain⟨e1,k1⟩:=hf bs x r1 hB h1;have hB1:Byt r1:=by rw[e1]at hB;exact hB.app
  obtain⟨e2,k2,k3⟩:=rdK_only hf n r1 l2 r2 hB1 h2;injection h with h1 h2
  subst h1 h2;refine⟨by rw[e1,e2];simp,by simp[k2],fun y hy=>?_⟩;rcases List.mem_cons.1 hy with rfl | hy
  ·exact k1
  ·exact k3 y hy
def lB' {α:Type} (e:α->List Int) (l:List α):List Int:=((l.length:Int)%256)::l.flatMap e
theorem rL {α:Type} {f:List Int->Option (α×List Int)} {e:α->List Int} (l:List α) (hl:l.length<256) (h:∀x∈l,zY f e x):zY (iU f) (lB' e) l:=by
 intro r;have hm:((l.length:Int)%256).toNat=l.length:=om;simp only[iU,lB',List.cons_append,jX,Option.bind_some,hm];exact rdK_back l h r
theorem kT {α:Type} {f:List Int->Option (α×List Int)} {e:α->List Int} {G:α->Prop} (hf:zX f e G):zX (iU f) (lB' e) (fun l=>l.length<256/\∀x∈l,G x):=by
 intro bs l r hB h
 match bs,h with
 | b::t,h=>
  simp only[iU,jX,Option.bind_some]at h;obtain⟨e1,k1,k2⟩:=rdK_only hf _ t l r hB.tail h;have hb:B1 b:=hB b sm;have hb1:=hb.1;have hb2:=hb.2;have hm:(l.length:Int)%256=b:=om;exact⟨by rw[e1];simp[lB',hm],by omega,k2⟩
theorem zsB_lB (zs:List Int):zsB zs=lB' (fun n=>[n%256]) zs:=by
 simp only[zsB,lB'];congr 1
 induction zs with
 | nil=>rfl
 | cons z zs ih=>simp[ih]
theorem cB_eq (c:iG):cB c=lB' (fun n=>[n%256]) c.1++(lB' gB c.2.1++lB' sB c.2.2):=by
 simp only[cB,txB,zsB_lB,List.append_assoc];rfl
theorem rdT_back {c:iG} (h:OkC c):zY nV cB c:=by
 intro r;obtain⟨⟨h1,h2⟩,⟨h3,h4⟩,h5,h6⟩:=h;rw[cB_eq,lu,lu];simp[nV,rL (f:=jX) c.1 h1 (fun x hx=>rdN_back (h2 x hx)) _,rL (f:=nW) (e:=gB) c.2.1 h3 (fun x hx=>rdG_back (h4 x hx)) _,rL (f:=mI) (e:=sB) c.2.2 h5 (fun x hx=>rdS_back (h6 x hx)) _]
theorem rdT_only:zX nV cB OkC:=by
 intro bs x r hB h;simp only[nV,Option.bind_eq_some_iff,Option.map_eq_some_iff]at h;obtain⟨⟨a,r1⟩,h1,⟨b,r2⟩,h2,⟨c,r3⟩,h3,h⟩:=h;obtain⟨e1,k1⟩:=kT rdN_only bs a r1 hB h1;have hB1:Byt r1:=by rw[e1]at hB;exact hB.app
 obtain⟨e2,k2⟩:=kT rdG_only r1 b r2 hB1 h2;have hB2:Byt r2:=by rw[e2]at hB1;exact hB1.app
 obtain⟨e3,k3⟩:=kT rdS_only r2 c r3 hB2 h3;injection h with h1 h2
 subst h1 h2;exact⟨by rw[cB_eq,e1,e2,e3];simp,k1,k2,k3⟩
def pB (p:Int×List iG):List Int:=(p.1%256)::lB' cB p.2
def OkP (p:Int×List iG):Prop:=B1 p.1/\p.2.length<256/\∀c∈p.2,OkC c
theorem rdP_back {p:Int×List iG} (h:OkP p):zY rdP pB p:=by
 intro r;obtain⟨h1,h2,h3⟩:=h;have e:pB p++r=_::(lB' cB p.2++r):=rfl;rw[e];simp[rdP,jX,rL (f:=nV) (e:=cB) p.2 h2 (fun x hx=>rdT_back (h3 x hx)) _,h1.mod]
theorem xE:zX rdP pB OkP:=by
 intro bs x r hB h
 match bs,h with
 | b::t,h=>
  simp only[rdP,jX,Option.bind_some,Option.map_eq_some_iff]at h;obtain⟨⟨l,r1⟩,h1,h⟩:=h;obtain⟨e1,k1,k2⟩:=kT rdT_only t l r1 hB.tail h1;have hb:B1 b:=hB b sm;injection h with h1 h2
  subst h1 h2;exact⟨by rw[e1];simp[pB,hb.mod],hb,k1,k2⟩
def zN (bs:List Int):Int×List Int:=(bs.headD 0,bs.tail)
def zK {α:Type} (f:List Int->α×List Int):Nat->List Int->List α×List Int
 | 0,bs=>([],bs)
 | n+1,bs=>((f bs).1::(zK f n (f bs).2).1,(zK f n (f bs).2).2)
def zL {α:Type} (f:List Int->α×List Int) (bs:List Int):List α×List Int:=zK f (zN bs).1.toNat (zN bs).2
def zV (bs:List Int):Int×List Int:=(sgn (gN (zK zN 8 bs).1),(zK zN 8 bs).2)
def zO (bs:List Int):(Int×Int)×List Int:=(((zN bs).1,(zV (zN bs).2).1),(zV (zN bs).2).2)
def zG (bs:List Int):Gd×List Int:=
 let p:=zN bs
 let q:=zO p.2
 let s:=zO q.2
 (⟨p.1,q.1.1,q.1.2,s.1.1,s.1.2⟩,s.2)
def zS (bs:List Int):St×List Int:=
 let p:=zN bs
 let o:=zN p.2
 let q:=zO o.2
 let s:=zO q.2
 (⟨p.1,o.1,q.1.1,q.1.2,s.1.1,s.1.2⟩,s.2)
def zT (bs:List Int):iG×List Int:=
 let p:=zL zN bs
 let q:=zL zG p.2
 let s:=zL zS q.2
 ((p.1,q.1,s.1),s.2)
def zP (bs:List Int):(Int×List iG)×List Int:=(((zN bs).1,(zL zT (zN bs).2).1),(zL zT (zN bs).2).2)
def oS {α:Type} (f:List Int->Option (α×List Int)) (g:List Int->α×List Int):Prop:=∀bs p,f bs=M p->g bs=p
theorem lE:oS jX zN:=by
 intro bs p h
 match bs,h with
 | b::t,h=>injection h
theorem aBt {α:Type} {f:List Int->Option (α×List Int)} {g:List Int->α×List Int} (h:oS f g):∀n,oS (lK f n) (zK g n)
 | 0,bs,p,hp=>by injection hp
 | n+1,bs,p,hp=>by
  simp only[lK,Option.bind_eq_some_iff,Option.map_eq_some_iff]at hp;obtain⟨x,h1,q,h2,hp⟩:=hp;have e1:=h bs x h1;have e2:=aBt h n x.2 q h2;simp only[zK,e1,e2];exact hp
theorem vM {α:Type} {f:List Int->Option (α×List Int)} {g:List Int->α×List Int} (h:oS f g):oS (iU f) (zL g):=by
 intro bs p hp;simp only[iU,Option.bind_eq_some_iff]at hp;obtain⟨x,h1,h2⟩:=hp;simp only[zL,lE bs x h1];exact aBt h _ _ _ h2
theorem rdK_take:∀(n:Nat) (bs:List Int),n<=bs.length->lK jX n bs=M (bs.take n,bs.drop n)
 | 0,bs,_=>by simp[lK]
 | n+1,b::t,h=>by
  have:=rdK_take n t (by simpa using h);simp[lK,jX,this]
 | n+1,[],h=>by simp at h
theorem zV_zero:oS rdV zV:=by
 intro bs p h;unfold rdV at h;by_cases hl:bs.length<8
 ·rw[if_pos hl]at h;cases h
 ·rw[if_neg hl]at h;have e:=aBt lE 8 bs _ (rdK_take 8 bs om);simp only[zV,e];injection h
theorem vK:oS vQ zO:=by
 intro bs p h;simp only[vQ,Option.bind_eq_some_iff,Option.map_eq_some_iff]at h;obtain⟨x,h1,y,h2,rfl⟩:=h;simp only[zO,lE bs x h1,zV_zero _ y h2]
theorem zG_zero:oS nW zG:=by
 intro bs p h;simp only[nW,Option.bind_eq_some_iff,Option.map_eq_some_iff]at h;obtain⟨x,h1,y,h2,z,h3,rfl⟩:=h;simp only[zG,lE bs x h1,vK _ y h2,vK _ z h3]
theorem zS_zero:oS mI zS:=by
 intro bs p h;simp only[mI,Option.bind_eq_some_iff,Option.map_eq_some_iff]at h;obtain⟨x,h1,o,h0,y,h2,z,h3,rfl⟩:=h;simp only[zS,lE bs x h1,lE _ o h0,vK _ y h2,vK _ z h3]
theorem zT_zero:oS nV zT:=by
 intro bs p h;simp only[nV,Option.bind_eq_some_iff,Option.map_eq_some_iff]at h;obtain⟨x,h1,y,h2,z,h3,rfl⟩:=h;simp only[zT,vM lE bs x h1,vM zG_zero _ y h2,vM zS_zero _ z h3]
theorem zP_zero:oS rdP zP:=by
 intro bs p h;simp only[rdP,Option.bind_eq_some_iff,Option.map_eq_some_iff]at h;obtain⟨x,h1,y,h2,rfl⟩:=h;simp only[zP,lE bs x h1,vM zT_zero _ y h2]
theorem dX (h:p):Hid p:=h
def RdS (P:Nat) (w:World) (bs:List Int):Prop:=∃s:ByteArray,w.cell? ⟨P,0,Q⟩=sg s/\w.frozen? ⟨P,0,Q⟩=false/\eI s=bs
theorem RdS.lt {w:World} (h:RdS P w bs):P<w.heap.size:=by
 obtain⟨s,hc,_,_⟩:=h;exact np w ⟨P,0,Q⟩ hc
theorem RdS.byt {w:World} (h:RdS P w bs):Byt bs:=by
 obtain⟨s,_,_,rfl⟩:=h;exact rR s
theorem RdS.kept {w:World} (h:RdS P w bs) (hg:w.grownBy w' row) (hr:M P≠row):RdS P w' bs:=by
 have hP:=h.lt;obtain⟨s,hc,hf,hs⟩:=h;have e:=hg.block P hP hr;exact⟨s,(nu (a:=⟨P,0,Q⟩) e).trans hc,(nv (a:=⟨P,0,Q⟩) e).trans hf,hs⟩
theorem RdS.below {w:World} (h:RdS P w bs) (hb:Below w.heap.size w w'):RdS P w' bs:=h.kept (cC hb Q) sm
theorem RdS.alloc {w:World} (h:RdS P w bs) (o:Obj):RdS P (w.alloc o) bs:=h.below (aA br _)
def gO:Ending:=pg [{v:=fc 22 (Y I 1),recovered:=false}]
def RdR {α:Type} (P:Nat) (w:World) (o:Option (α×List Int)) (V:α->Value->World->Prop) (e:Ending) (w':World):Prop:=
 w.grownBy w' (M P)/\match o with
  | none=>e=gO
  | some p=>∃v,e=rt v/\V p.1 v w'/\RdS P w' p.2
theorem gb_set (w:World) (P:Nat) (v:Value):w.grownBy (w.setCell ⟨P,0,Q⟩ v) (M P):=⟨rfl,rfl,rfl,by simp,fun b _ hb=>wo _ _ _ _ (fun e=>hb (by rw[e]))⟩
theorem xI (P:Nat) (w:World) (h:RdS P w []):Calls prog 69 #[pd (M ⟨P,0,Q⟩)] w fun e w'=>e=gO/\w.grownBy w' (M P):=by
 obtain⟨s,hc,hf,hs⟩:=h;have hn:(s.toList==([]:List UInt8))=true:=by rw[pF,hs];rfl
 clear hs;have hn2:s.toList=[]:=by simpa using hn
 go_enter func69,ntmps69
 go_wp2_with fail
 refine(dK [1] 0 1 w.heap.size 1 _ sm sm sm rfl dc sm).mono ?_;rintro e w' ⟨rfl,rfl⟩;go_wp2;exact⟨rfl,rfl,lb _ _ _⟩
theorem aAo (P:Nat) (b:Int) (r:List Int) (w:World) (h:RdS P w (b::r)):Calls prog 69 #[pd (M ⟨P,0,Q⟩)] w fun e w'=>e=rt (Y I b)/\RdS P w' r/\w.grownBy w' (M P):=by
 obtain⟨s,hc,hf,hs⟩:=h;have hn:(s.toList==([]:List UInt8))=false:=by rw[pF,hs];rfl
 obtain⟨h0,hb,hr⟩:=lst_cons hs;have h1:(1:Int)<=(s.size:Int):=om;have hB:b<256/\0<=b:=by have:=(s[0]'h0).toNat_lt;omega
 have hwr:IntKind.i64.wrap b=b:=iH om om;clear hs;go_enter func69,ntmps69;go_wp2;go_ret;refine⟨?_,⟨_,aK hc,by simpa using hf,hr⟩,gb_set _ _ _⟩
 first | rfl | (rw[hb,hwr])
theorem x6 (h:p:=by
 go_enter func122,ntmps122
 go_wp2_with fail
 refine C1.out.mono ?_;rintro e w1 ⟨rfl,hb1⟩;have B1:=aI hb1;have S1:=aI (S0.out.on hb1);clear hb1
 go_wp2_with fail
 refine(C2.out _ S1.out).mono ?_;rintro e w2 ⟨rfl,hb2⟩;have B2:=Hi (aC B1.out hb2);clear hb2
 go_wp2_with fail
 refine(leave1 _ _ _ (aF _ _ 22 _ 0 _ rfl rfl)).mono ?_;rintro e w2 ⟨rfl,rfl⟩;go_wp2;exact⟨rfl,rfl,aA B2.out _⟩):p:=h
theorem Ub (h:p:=by
 have B1:=aI hb1;clear hb1
 go_wp2_with fail
 refine(leave1 _ _ _ (aF _ _ 22 _ 0 _ rfl rfl)).mono ?_;rintro e w2 ⟨rfl,rfl⟩;go_wp2;exact⟨rfl,rfl,aA B1.out _⟩):p:=h
theorem UM (h:p:=by
 go_ret;exact⟨rfl,B2.out⟩):p:=h
theorem VP (h:p:=by
 rintro e w1 ⟨rfl,hb1⟩;have B1:=aI hb1;clear hb1;go_wp2;go_ret;exact⟨rfl,B1.out⟩):p:=h
structure Std (w:World):Prop where
 tab:Lib.TabIs prog w "internal/strconv.uint64pow10" .u64 Lib.pow10Tab
 syn:∃tp p,w.var? prog "strconv.ErrSyntax" = M #[fc tp p]
 ran:∃tp p,w.var? prog "strconv.ErrRange" = M #[fc tp p]
 mx:∃m,w.cell? ⟨0,0,Q⟩=Y I m
theorem var_on {w:World} {n:String} {v:Array Value} (h:w.var? prog n=M v) (hb:Below B w w') (hB:w.heap.size<=B):w'.var? prog n=M v:=by
 unfold World.var? at h ⊢
 cases hg:prog.globalNamed n with
 | none=>rw[hg]at h;cases h
 | some g=>
  rw[hg]at h;simp only[Option.bind_some]at h ⊢;by_cases hl:g<w.heap.size
  ·rw[hb.block g om];exact h
  ·rw[Array.getElem?_eq_none om]at h;cases h
theorem Std.below {w:World} (h:Std w) (hb:Below B w w') (hB:w.heap.size<=B):Std w':=by
 obtain⟨tp,p,hs⟩:=h.syn;obtain⟨tq,q,hr⟩:=h.ran;obtain⟨m,hm⟩:=h.mx;refine⟨var_on h.tab hb hB,⟨tp,p,var_on hs hb hB⟩,⟨tq,q,var_on hr hb hB⟩,⟨m,?_⟩⟩
 have hl:0<w.heap.size:=by
  by_cases h0:0<w.heap.size
  ·exact h0
  ·exfalso;have:w.heap[0]?=Q:=Array.getElem?_eq_none om;simp[World.cell?,this]at hm
 have hc:=hb.block 0 om;unfold World.cell? at hm ⊢;simp only at hm ⊢;rw[hc];exact hm
theorem Std.on {w:World} (h:Std w) (hb:Below w.heap.size w w'):Std w':=h.below hb nr
theorem tM (n:Int) (h0 : -9223372036854775808<=n) (h1:n<=9223372036854775807) (w:World) (hs:Std w):Kr 45 #[Y I n] w (aM (cL n)):=
 (Tryz.strconv_Itoa n h0 h1 w hs.tab).mono fun e w' ⟨he,k,os,hw⟩=>⟨by rw[he,itoa_itx],by rw[hw];exact Lib.below_grow _ _ nr _ _⟩
theorem aBs (x:List UInt8) (hx:x.length<=4096) (v:Int) (h:Lib.atoiAll x=.ok v) (w:World):Kr 157 #[aM x] w (tu #[Y I v,.nilIface]):=
 (Tryz.strconv_Atoi_ok ⟨x.toArray⟩ (by show x.toArray.size<=_;simp;omega) v (by simpa using h) w).mono fun e w' ⟨he,hw⟩=>⟨he,by
  rcases hw with rfl | ⟨t,rfl⟩
  ·exact br
  ·exact Lib.bytesWorld_below _ _ _⟩
theorem atoi_bad_q (x:List UInt8) (hx:x.length<=4096) (h:∀v,Lib.atoiAll x≠.ok v) (w:World) (hs:Std w):Calls prog 157 #[aM x] w fun e w'=>∃(n:Int) (N:Nat),e=rt (tu #[Y I n,fc 258 (pd (M ⟨N,0,Q⟩))])/\Below w.heap.size w w':=by
 have hz:(ByteArray.mk x.toArray).size<=281474976710656:=by show x.toArray.size<=_;simp;omega
 cases hc:Lib.atoiAll x with
 | ok v=>exact absurd hc (h v)
 | «syntax»=>
  obtain⟨tp,p,hv⟩:=hs.syn;exact(Tryz.strconv_Atoi_syntax_var ⟨x.toArray⟩ hz (by simpa using hc) tp p w hv).mono fun e w' ⟨N,he,_,_,hb⟩=>⟨_,N,he,hb⟩
 | range=>
  obtain⟨tp,p,hv⟩:=hs.ran;exact(Tryz.strconv_Atoi_range_var ⟨x.toArray⟩ hz (by simpa using hc) tp p w hv).mono fun e w' ⟨N,he,_,_,hb⟩=>⟨_,N,he,hb⟩
theorem leave1 (b cap:Nat) (w:World) (h:w.cell? ⟨b,0,Q⟩=Y I 1):Calls prog 15 #[J (M ⟨b,0,Q⟩) 1 cap] w fun e w'=>e=pg [{v:=fc 22 (Y I 1),recovered:=false}]/\w'=w:=
 dR [1] b cap w dc dc (fun k hk=>by
  have:k=0:=by simpa using hk
  subst this;exact h)
theorem qA (x:List UInt8) (hx:x.length<=4096) (n:Int) (h:cG x=M n) (w:World) (hs:Std w):Kr 122 #[aM x] w (Y I n):=by
 obtain⟨hi,h1,h2⟩:=(oG x n).mp h
 have ha:Lib.atoiAll x=.ok n:=by
  have:=numW_all x;rw[h]at this
  cases hc:Lib.atoiAll x with
  | ok v=>
   rw[hc]at this;simp only at this;split at this
   ·injection this with this;rw[this]
   ·cases this
  | «syntax»=>rw[hc]at this;cases this
  | range=>rw[hc]at this;cases this
 have C1:=Hi (aBs x hx n ha w)
 have C2:Hid (∀w:World,Std w->Kr 45 #[Y I n] w (aM x)):=fun w hs=>by
  have:=tM n om om w hs;rw[hi]at this;exact this
 have S0:=aI hs;clear h hi ha hs hx;go_enter func122,ntmps122
 go_wp2_with fail
 refine C1.out.mono ?_;rintro e w1 ⟨rfl,hb1⟩;have B1:=aI hb1;have S1:=aI (S0.out.on hb1);clear hb1
 go_wp2_with fail
 refine(C2.out _ S1.out).mono ?_;rintro e w2 ⟨rfl,hb2⟩;have B2:=Hi (aC B1.out hb2);clear hb2
 go_wp2_with fail
 exact UM
theorem valueOf_bad1 (x:List UInt8) (hx:x.length<=4096) (h:∀v,Lib.atoiAll x≠.ok v) (w:World) (hs:Std w):Calls prog 122 #[aM x] w fun e w'=>e=gO/\Below w.heap.size w w':=by
 have C1:=Hi (atoi_bad_q x hx h w hs);clear h hs hx;go_enter func122,ntmps122
 go_wp2_with fail
 refine C1.out.mono ?_;rintro e w1 ⟨n,N,rfl,hb1⟩;exact Ub
theorem valueOf_ne (X D:ByteArray) (n:Int) (hne:¬D=X) (w:World) (c1:Kr 157 #[sg X] w (tu #[Y I n,.nilIface])) (c2:∀w:World,Std w->Kr 45 #[Y I n] w (sg D)) (hs:Std w):Calls prog 122 #[sg X] w fun e w'=>e=gO/\Below w.heap.size w w':=by
 have C1:=aI c1;have C2:=aI c2;have S0:=aI hs
 have hne2:¬D.toList=X.toList:=by
  rw[ByteArray.toList_eq,ByteArray.toList_eq];exact fun hh=>hne (by cases D;cases X;congr;exact Array.ext' hh)
 clear c1 c2 hs;exact x6
theorem valueOf_bad2 (x:List UInt8) (hx:x.length<=4096) (n:Int) (h:Lib.atoiAll x=.ok n) (hn:cG x=Q) (w:World) (hs:Std w):Calls prog 122 #[aM x] w fun e w'=>e=gO/\Below w.heap.size w w':=by
 have C1:=Hi (aBs x hx n h w);have hbd:=Lib.atoiAll_bounds h;have C2:=Hi (fun w hs=>tM n hbd.1 hbd.2 w hs);have S0:=aI hs;have hall:=numW_all x;rw[h,hn]at hall;simp only at hall
 have HN:¬(cL n=x/\-999999<=n/\n<=999999):=by
  intro hh;rw[if_pos hh]at hall;cases hall
 clear h hn hs hx hall hbd;by_cases hi:cL n=x
 ·rw[hi]at C2;have HN':¬_:=fun hh=>HN ⟨hi,hh⟩
  clear HN hi;by_cases i1:(999999:Int)<n;rotate_left
  focus
   have i2:n < -999999:=om
  rotate_left
  all_goals
   exact x6
 ·have hne:¬(ByteArray.mk (cL n).toArray)=ByteArray.mk x.toArray:=by
   intro hh;injection hh with hh
   exact hi (by simpa using congrArg Array.toList hh)
  exact valueOf_ne _ _ n hne w C1.out C2.out S0.out
theorem tY (x:List UInt8) (hx:x.length<=4096) (hn:cG x=Q) (w:World) (hs:Std w):Calls prog 122 #[aM x] w fun e w'=>e=gO/\Below w.heap.size w w':=by
 by_cases h:∃v,Lib.atoiAll x=.ok v
 ·obtain⟨v,hv⟩:=h;exact valueOf_bad2 x hx v hv hn w hs
 ·exact valueOf_bad1 x hx (fun v hv=>h ⟨v,hv⟩) w hs
theorem numberOf_ok (x:List UInt8) (hx:x.length<=4096) (n:Int) (h:cG x=M n) (h0:0<=n) (w:World) (hs:Std w):Kr 121 #[aM x] w (Y I n):=by
 have C1:=aI (qA x hx n h w hs);clear h hs hx;go_enter func121,ntmps121
 go_wp2_with fail
 refine C1.out.mono ?_;exact VP
theorem numberOf_neg (x:List UInt8) (hx:x.length<=4096) (n:Int) (h:cG x=M n) (h0:n<0) (w:World) (hs:Std w):Calls prog 121 #[aM x] w fun e w'=>e=gO/\Below w.heap.size w w':=by
 have C1:=aI (qA x hx n h w hs);clear h hs hx;go_enter func121,ntmps121
 go_wp2_with fail
 refine C1.out.mono ?_;rintro e w1 ⟨rfl,hb1⟩;exact Ub
theorem zA (x:List UInt8) (hx:x.length<=4096) (h:cG x=Q) (w:World) (hs:Std w):Calls prog 121 #[aM x] w fun e w'=>e=gO/\Below w.heap.size w w':=by
 have C1:Hid (Calls prog 122 _ w fun e w'=>e=pg [{v:=fc 22 _,recovered:=false}]/\Below w.heap.size w w'):=tY x hx h w hs;clear h hs hx;go_enter func121,ntmps121
 go_wp2_with fail
 refine C1.out.mono ?_;rintro e w1 ⟨rfl,hb1⟩;have B1:=aI hb1;clear hb1;go_wp2;exact⟨rfl,rfl,B1.out⟩
def dJ (x:List UInt8):Option Int:=(cG x).bind fun n=>if n<0 then Q else M n
theorem mL {x:List UInt8} {n:Int} (h:dJ x=M n):cG x=M n/\0<=n:=by
 unfold dJ at h
 cases hc:cG x with
 | none=>rw[hc]at h;cases h
 | some m=>
  rw[hc]at h;simp only[Option.bind_some]at h;split at h
  ·cases h
  ·injection h with h;subst h;exact⟨rfl,by omega⟩
theorem gQ (x:List UInt8) (hx:x.length<=4096) (n:Int) (h:dJ x=M n) (w:World) (hs:Std w):Kr 121 #[aM x] w (Y I n):=
 numberOf_ok x hx n (mL h).1 (mL h).2 w hs
theorem iM (x:List UInt8) (hx:x.length<=4096) (h:dJ x=Q) (w:World) (hs:Std w):Calls prog 121 #[aM x] w fun e w'=>e=gO/\Below w.heap.size w w':=by
 cases hc:cG x with
 | none=>exact zA x hx hc w hs
 | some m=>
  have:m<0:=by
   unfold dJ at h;rw[hc]at h;simp only[Option.bind_some]at h;split at h
   ·assumption
   ·cases h
  exact numberOf_neg x hx m hc this w hs
theorem wordOf_any (k:Int) (w:World):Calls prog 151 #[Y I k] w fun e w'=>e=rt (aM (if k=1 then [114,101,97,100] else [119,114,105,116,101]))/\w'=w:=by
 by_cases h:k=1
 ·rw[if_pos h];go_enter func151,ntmps151;exact uj
 ·rw[if_neg h];go_enter func151,ntmps151;exact uj
theorem uy (h:p:=by
 exact⟨fun ad h=>by first | (cases h;done) | (injection h with h;subst h;first | (simp;done) | (simp;omega)),fun ad h=>by first | (cases h;done) | (injection h with h;subst h;first | (simp;done) | (simp;omega)),fun ad h=>by first | (cases h;done) | (injection h with h;subst h;first | (simp;done) | (simp;omega))⟩):p:=h
def sMark (n:Int):St:=⟨7,1,1,n,1,0⟩
abbrev xMark (n:Int) (sa:Option Addr) (sc:Nat):TxA:=⟨Q,Q,sa,0,0,sc,[],[],[sMark n]⟩
def XAt (C:Nat) (ra ga sa:Option Addr):Prop:=(∀ad,ra=M ad->C<=ad.block)/\(∀ad,ga=M ad->C<=ad.block)/\(∀ad,sa=M ad->C<=ad.block)
theorem XAt.low {ra ga sa:Option Addr} (h:XAt C ra ga sa) (hc:C'<=C):XAt C' ra ga sa:=
 ⟨fun ad e=>nh hc (h.1 ad e),fun ad e=>nh hc (h.2.1 ad e),fun ad e=>nh hc (h.2.2 ad e)⟩
theorem far_ints {w:World} (h:IsInts w a zs) (b j:Nat) (v:Value) (hne:∀ad,a=M ad->b<ad.block):IsInts (w.setCell ⟨b,j,Q⟩ v) a zs:=fun i hi=>by
 obtain⟨b',off,ha,hlt,hc⟩:=h i hi;have hn:b<b':=hne _ ha;exact⟨b',off,ha,by simpa using hlt,by rw[nt _ _ _ _ (by simp;omega)];exact hc⟩
theorem far_gs {w:World} {zs:List Gd} (h:IsGs w a zs) (b j:Nat) (v:Value) (hne:∀ad,a=M ad->b<ad.block):IsGs (w.setCell ⟨b,j,Q⟩ v) a zs:=fun i hi=>by
 obtain⟨b',off,ha,hlt,c0,c1,c2,c3,c4⟩:=h i hi;have hn:b<b':=hne _ ha;have far:∀k u,w.cell? _=M u->(w.setCell ⟨b,j,Q⟩ v).cell? ⟨b',k,Q⟩=M u:=fun k u hc=>by rw[nt _ _ _ _ (by simp;omega)];exact hc
 exact⟨b',off,ha,by simpa using hlt,far _ _ c0,far _ _ c1,far _ _ c2,far _ _ c3,far _ _ c4⟩
theorem far_ss {w:World} {zs:List St} (h:IsSs w a zs) (b j:Nat) (v:Value) (hne:∀ad,a=M ad->b<ad.block):IsSs (w.setCell ⟨b,j,Q⟩ v) a zs:=fun i hi=>by
 obtain⟨b',off,ha,hlt,c0,c1,c2,c3,c4,c5⟩:=h i hi;have hn:b<b':=hne _ ha;have far:∀k u,w.cell? _=M u->(w.setCell ⟨b,j,Q⟩ v).cell? ⟨b',k,Q⟩=M u:=fun k u hc=>by rw[nt _ _ _ _ (by simp;omega)];exact hc
 exact⟨b',off,ha,by simpa using hlt,far _ _ c0,far _ _ c1,far _ _ c2,far _ _ c3,far _ _ c4,far _ _ c5⟩
theorem aBj {w:World} {x:TxA} (h:IsX w x) (b j:Nat) (v:Value) (hx:XAt (b+1) x.ra x.ga x.sa):IsX (w.setCell ⟨b,j,Q⟩ v) x:=
 ⟨⟨far_ints h.t.r b j v (fun ad e=>hx.1 ad e),far_gs h.t.g b j v (fun ad e=>hx.2.1 ad e),far_ss h.t.s b j v (fun ad e=>hx.2.2 ad e),h.t.lr,h.t.lg,h.t.ls⟩,h.rn,h.gn,h.sn⟩
theorem note_at (w:World):Calls prog 62 #[] w fun e w'=>∃ra sa rc sc,e=rt (ag #[J ra ([1]:List Int).length rc,J Q ([]:List Gd).length 0,J sa [sNote].length sc])/\IsTx w' ra Q sa [1] [] [sNote]/\XAt w.heap.size ra Q sa/\Below w.heap.size w w':=by
 go_enter func62,ntmps62
 go_wp2_with fail
 refine(kA 0 _).mono ?_;rintro e w' ⟨rfl,rfl⟩
 go_wp2_with fail
 refine(fJ 0 _).mono ?_;rintro e w' ⟨rfl,rfl⟩;go_wp2;refine bodyPost_ret (v:=ag #[J (M ⟨w.heap.size+1,0,Q⟩) 1 1,J Q 0 0,J (M ⟨w.heap.size+1+1+1+1,0,Q⟩) 1 1]) ?_ rfl ⟨_,_,_,_,rfl,⟨?_,?_,?_,by decide,by decide,by decide⟩,?_,?_⟩
 ·simp[results,results62,go_sem]
 ·generalize U #[_,_,_] 95=O0;exact(isInts_one (w.alloc O0) (w.heap.size+1) 1 sm).below gb
 ·exact fun i hi=>absurd hi sm
 ·exact isSs_one _ _ _ _ _ _ _ _ sm
 ·exact uy
 ·exact ut
theorem pay_at (n:Int) (w:World):Calls prog 61 #[Y I n] w fun e w'=>∃ra ga sa rc gc sc,e=rt (ag #[J ra ([0,1]:List Int).length rc,J ga [gPay n].length gc,J sa [s1Pay n,s2Pay n].length sc])/\IsTx w' ra ga sa [0,1] [gPay n] [s1Pay n,s2Pay n]/\XAt w.heap.size ra ga sa/\Below w.heap.size w w':=by
 go_enter func61,ntmps61
 go_wp2_with fail
 refine(fJ n _).mono ?_;rintro e w' ⟨rfl,rfl⟩
 go_wp2_with fail
 refine(kA 0 _).mono ?_;rintro e w' ⟨rfl,rfl⟩
 go_wp2_with fail
 refine(kA 0 _).mono ?_;rintro e w' ⟨rfl,rfl⟩
 go_wp2_with fail
 refine(fJ n _).mono ?_;rintro e w' ⟨rfl,rfl⟩
 go_wp2_with fail
 refine(kA 1 _).mono ?_;rintro e w' ⟨rfl,rfl⟩
 go_wp2_with fail
 refine(fJ n _).mono ?_;rintro e w' ⟨rfl,rfl⟩;go_wp2;refine bodyPost_ret (v:=ag #[J (M ⟨w.heap.size+1,0,Q⟩) 2 2,J (M ⟨w.heap.size+1+1+1+1,0,Q⟩) 1 1,J (M ⟨w.heap.size+1+1+1+1+1+1+1+1+1,0,Q⟩) 2 2]) ?_ rfl ⟨_,_,_,_,_,_,rfl,⟨?_,?_,?_,by simp[maxLen],by simp[maxLen],by simp[maxLen]⟩,?_,?_⟩
 ·simp[results,results61,go_sem]
 ·generalize U #[_,_,_] 95=O0;exact(isInts_two (w.alloc O0) (w.heap.size+1) 0 1 sm).below gb
 ·generalize U #[_,_,_] 95=O0;exact(isGs_one ((((w.alloc O0).alloc (U #[Y I 0,Y I 1] 3)).alloc (U #[Y I 1,Y I n] 97)).alloc (U #[Y I 2,Y I 0] 97)) (w.heap.size+1+1+1+1) 4 1 n 2 0 sm).below gb
 ·exact isSs_two _ _ _ _ _ _ _ _ _ _ _ _ _ _ sm
 ·exact uy
 ·exact ut
theorem mark_at (n:Int) (w:World):Calls prog 63 #[Y I n] w fun e w'=>∃sa sc,e=rt (ag #[J Q ([]:List Int).length 0,J Q ([]:List Gd).length 0,J sa [sMark n].length sc])/\IsTx w' Q Q sa [] [] [sMark n]/\XAt w.heap.size Q Q sa/\Below w.heap.size w w':=by
 go_enter func63,ntmps63
 go_wp2_with fail
 refine(fJ n _).mono ?_;rintro e w' ⟨rfl,rfl⟩
 go_wp2_with fail
 refine(fJ 0 _).mono ?_;rintro e w' ⟨rfl,rfl⟩;go_wp2;refine bodyPost_ret (v:=ag #[J Q 0 0,J Q 0 0,J (M ⟨w.heap.size+1+1+1,0,Q⟩) 1 1]) ?_ rfl ⟨_,_,rfl,⟨?_,?_,?_,by simp[maxLen],by simp[maxLen],by simp[maxLen]⟩,?_,?_⟩
 ·simp[results,results63,go_sem]
 ·exact fun i hi=>absurd hi sm
 ·exact fun i hi=>absurd hi sm
 ·exact isSs_one _ _ _ _ _ _ _ _ sm
 ·exact uy
 ·exact ut
theorem three_any (w:World):Calls prog 26 #[] w fun e w'=>∃a ra ga sa rc gc sc ra2 sa2 rc2 sc2 sa3 sc3,e=rt (ag #[Y I ((2:Nat):Int),J a [xPay ra ga sa rc gc sc,xNote ra2 sa2 rc2 sc2,xMark 9 sa3 sc3].length 3])/\IsTxs w' a [xPay ra ga sa rc gc sc,xNote ra2 sa2 rc2 sc2,xMark 9 sa3 sc3]/\Below w.heap.size w w':=by
 go_enter func26,ntmps26;have q0:(w.alloc (U #[Y I 0,J Q 0 0] 29)).cell? ⟨w.heap.size,0,Q⟩=Y I 0:=sm;have q1:(w.alloc (U #[Y I 0,J Q 0 0] 29)).cell? ⟨w.heap.size,1,Q⟩=J Q 0 0:=sm;have qf:∀j,(w.alloc (U #[Y I 0,J Q 0 0] 29)).frozen? ⟨w.heap.size,j,Q⟩=false:=fun j=>by simp
 have qs:w.heap.size<(w.alloc (U #[Y I 0,J Q 0 0] 29)).heap.size:=sm;have B0:Hid (Below w.heap.size w (w.alloc (U #[Y I 0,J Q 0 0] 29))):=aA br _
 go_wp2_with fail
 generalize (w.alloc (U #[Y I 0,J Q 0 0] 29))=W at *;refine(pay_at 3 _).mono ?_;rintro e w1 ⟨ra,ga,sa,rc,gc,sc,rfl,ht1,hq1,hb1⟩;have hx1:Hid (IsX w1 (xPay ra ga sa rc gc sc)):=⟨ht1,rC ht1.r,some_of_gs ht1.g,qE ht1.s⟩;clear ht1
 go_wp2_with fail
 refine(note_at _).mono ?_;rintro e w2 ⟨ra2,sa2,rc2,sc2,rfl,ht2,hq2,hb2⟩;have hx2:Hid (IsX w2 (xNote ra2 sa2 rc2 sc2)):=⟨ht2,rC ht2.r,fun _=>rfl,qE ht2.s⟩;clear ht2
 go_wp2_with fail
 refine(mark_at 9 _).mono ?_;rintro e w3 ⟨sa3,sc3,rfl,ht3,hq3,hb3⟩;have hx3:Hid (IsX w3 (xMark 9 sa3 sc3)):=⟨ht3,fun _=>rfl,fun _=>rfl,qE ht3.s⟩;clear ht3;have B3:=aC hb1 (aC hb2 hb3);have r0:=aB B3 q0;have r1:=aB B3 q1;have rf:=fun j=>(B3.frozen (p:=⟨w.heap.size,j,Q⟩) qs).trans (qf j)
 have y1:=Hi (hx1.out.below (aC hb2 hb3));have y2:=Hi (hx2.out.below hb3);have BB:=Hi (aC B0.out B3);have s1:=hb1.size;have s2:=hb2.size;have s3:=hb3.size;have z1:Hid (XAt (w.heap.size+1) ra ga sa):=hq1.low om;have z2:Hid (XAt (w.heap.size+1) ra2 Q sa2):=hq2.low om;have z3:Hid (XAt (w.heap.size+1) Q Q sa3):=hq3.low om;have hws:w.heap.size<w3.heap.size:=om;clear B3 hb1 hb2 hb3 hx1 hx2 q0 q1 qf B0 s1 s2 s3 hq1 hq2 hq3 qs;go_wp2;have t1:=aBj (aBj y1.out w.heap.size 0 (Y I 2) z1.out) w.heap.size 1 (J (M ⟨w3.heap.size,0,Q⟩) 3 3) z1.out;have t2:=aBj (aBj y2.out w.heap.size 0 (Y I 2) z2.out) w.heap.size 1 (J (M ⟨w3.heap.size,0,Q⟩) 3 3) z2.out;have t3:=aBj (aBj hx3.out w.heap.size 0 (Y I 2) z3.out) w.heap.size 1 (J (M ⟨w3.heap.size,0,Q⟩) 3 3) z3.out;refine bodyPost_ret (v:=ag #[Y I 2,J (M ⟨w3.heap.size,0,Q⟩) 3 3]) ?_ rfl ⟨M ⟨w3.heap.size,0,Q⟩,ra,ga,sa,rc,gc,sc,ra2,sa2,rc2,sc2,sa3,sc3,rfl,?_,?_⟩
 ·have e0:=fun (o:Obj)=>(ni ((w3.setCell ⟨w.heap.size,0,Q⟩ (Y I 2)).setCell ⟨w.heap.size,1,Q⟩ (J (M ⟨w3.heap.size,0,Q⟩) 3 3)) o ⟨w.heap.size,0,Q⟩ (by simp;exact hws)).trans (show _=M (Y I 2) by simp[go_sem,r0])
  have e1:=fun (o:Obj)=>(ni ((w3.setCell ⟨w.heap.size,0,Q⟩ (Y I 2)).setCell ⟨w.heap.size,1,Q⟩ (J (M ⟨w3.heap.size,0,Q⟩) 3 3)) o ⟨w.heap.size,1,Q⟩ (by simp;exact hws)).trans (show _=M (J (M ⟨w3.heap.size,0,Q⟩) 3 3) by simp[go_sem,r1])
  simp[results,results26,go_sem,e0,e1]
 ·exact isTxs_three _ (xPay ra ga sa rc gc sc) (xNote ra2 sa2 rc2 sc2) (xMark 9 sa3 sc3) _ sm t1 t2 t3
 ·exact aA (aG (aG BB.out nr _) nr _) _
def plB (m:Int) (l:List TxA):List Int:=(m%256)::xsB l
theorem wrPlan_any (P:Nat) (m:Int) (l:List TxA) (la:Option Addr) (lc:Nat) (bs:List Int) (w:World) (h:WrS P w bs) (hl:bs.length<=10000) (h8:l.length<=8) (hfew:Few l) (hz:∀w',Below P w w'->IsTxs w' la l) :
  Calls prog 29 #[pd (M ⟨P,0,Q⟩),ag #[Y I m,J la l.length lc]] w fun e w'=>e=rt (tu #[])/\WrS P w' (bs++plB m l)/\WK P w w':=by
 have hP:=h.lt;have H:=Hi h;have HZ:=Hi hz;have HFW:=Hi hfew;clear h hz hfew;go_enter func29,ntmps29
 go_wp2_with fail
 refine(eH P m bs _ (H.out.alloc _) om).mono ?_;rintro e w1 ⟨rfl,h1,k1⟩;have c1:w1.cell? ⟨w.heap.size,1,Q⟩=J la l.length lc:=k1.cell sm om (Or.inr (kM _ _ _ dc));have H1:=Hi h1;have K1:=Hi (((WK.refl P w).alloc _).trans k1);clear h1 k1
 go_wp2_with fail
 refine(wrTxns_any P l la lc _ _ H1.out (by simp;omega) h8 HFW.out (fun w' hb=>HZ.out w' ((K1.out.below hP).trans hb))).mono ?_;rintro e w2 ⟨rfl,h2,k2⟩;have H2:=Hi h2;have K2:=Hi (K1.out.trans k2);clear h2 k2
 go_wp2_with fail
 go_end0;exact⟨rfl,by simpa[plB]using H2.out,K2.out⟩
theorem Uo (h:p:=by
 rcases List.mem_cons.1 hb with rfl | hb
 ·exact hm _
 ·rcases List.mem_append.1 hb with hb | hb
  ·exact ho _ _ b hb
  ·exact ho _ _ b hb):p:=h
section
theorem few_of {m:Int} {l:List TxA} (h:aN m l=0):l.length<=8/\Few l:=by
 obtain⟨_,_,h3⟩:=aX h;refine⟨gZ h3,fun k hk=>?_⟩;have hx:=pK h3 k hk;generalize l.getD k x0=x at *
 have hmany:cW x.rs.length x.gs.length x.ss.length=0:=by
  by_cases hm:cW x.rs.length x.gs.length x.ss.length=0
  ·exact hm
  ·have h1:=sC x.rs x.gs x.ss hm;have h2:bP x.rs x.gs x.ss=0:=hx;omega
 obtain⟨m1,m2,m3,_⟩:=bI _ _ _ hmany;exact⟨by omega,by omega,by omega⟩
theorem plB_byt (m:Int) (l:List TxA):Byt (plB m l):=by
 have hm:∀x:Int,0<=x%256/\x%256<256:=fun x=>⟨Int.emod_nonneg _ dc,Int.emod_lt_of_pos _ dc⟩
 have hv:=valL_byt
 have ho:∀k n:Int,Byt (rP k n):=fun k n b hb=>by
  rcases List.mem_cons.1 hb with rfl | hb
  ·exact hm _
  ·exact hv n b hb
 have hg:∀x:Gd,Byt (yP x.k x.ak x.an x.bk x.bn):=fun x b hb=>by
  exact Uo
 have hs:∀x:St,Byt (yN x.key x.op x.ak x.an x.bk x.bn):=fun x b hb=>by
  rcases List.mem_cons.1 hb with rfl | hb
  ·exact hm _
  ·exact Uo
 have hx:∀x:TxA,Byt (xB x):=fun x b hb=>by
  rcases List.mem_append.1 hb with hb | hb
  ·rcases List.mem_append.1 hb with hb | hb
   ·rcases List.mem_cons.1 hb with rfl | hb
    ·exact hm _
    ·obtain⟨z,_,rfl⟩:=List.mem_map.1 hb;exact hm _
   ·rcases List.mem_cons.1 hb with rfl | hb
    ·exact hm _
    ·obtain⟨z,_,hz⟩:=List.mem_flatMap.1 hb;exact hg z b hz
  ·rcases List.mem_cons.1 hb with rfl | hb
   ·exact hm _
   ·obtain⟨z,_,hz⟩:=List.mem_flatMap.1 hb;exact hs z b hz
 intro b hb;rcases List.mem_cons.1 hb with rfl | hb
 ·exact hm _
 ·rcases List.mem_cons.1 hb with rfl | hb
  ·exact hm _
  ·obtain⟨z,_,hz⟩:=List.mem_flatMap.1 hb;exact hx z b hz
theorem yD (w:World) (base g cap:Nat) (bs:List Int) (h:w.ownsRow base 5 1 (J (M ⟨g,0,Q⟩) bs.length cap) bs.length (bs.map (Y .u8))) (hB:Byt bs) :
  ∃S:ByteArray,(convert 52 9 (J (M ⟨g,0,Q⟩) bs.length cap)).run prog w=.ok (sg S) w/\eI S=bs:=by
 have hl:=run_loadCells_list (P:=prog) w ⟨g,0,Q⟩ (bs.map (Y .u8)) (fun j v hj=>h.cells (g:=g) rfl j v hj);simp only[List.length_map]at hl;refine⟨_,(run_convert_bytes_string w 52 9 5 _ _ _ underlying52 kr kr).trans (run_bytesToString w ⟨g,0,Q⟩ bs.length cap bs hl),?_⟩;rw[aAr bs _ hB];rfl
variable (la:Option Addr) (lc:Nat) (l:List TxA) (m:Int)
theorem write1_ok (B:Nat) (w:World) (c0:w.cell? ⟨B,0,Q⟩=Y I m) (c1:w.cell? ⟨B,1,Q⟩=J la l.length lc) (hl:IsTxs w la l) (hE:aN m l=0) :
  Calls prog 27 #[pd (M ⟨B,0,Q⟩)] w fun e w'=>∃v,e=rt v/\(∃S,v=sg S/\eI S=plB m l)/\Below w.heap.size w w':=by
 obtain⟨h8,hfew⟩:=few_of hE;have HFW:=Hi hfew;have HL:=Hi hl;have CP:=cI la lc l m w hl;rw[hE]at CP;have HCP:=dX CP;clear hl hE CP hfew;go_enter func27,ntmps27
 go_wp2_with fail
 refine HCP.out.mono ?_;rintro e w1 ⟨rfl,hb1⟩;have d0:=aB hb1 c0;have d1:=aB hb1 c1;clear c0 c1 HCP
 go_wp2_with fail
 refine(aQ [0] _ 1 _ sm rfl (dS _ _ _ rfl)).mono ?_;rintro e w' ⟨rfl,rfl⟩;have HB:B<w1.heap.size:=np w1 ⟨B,0,Q⟩ d0;have b0:Below w.heap.size w ((w1.alloc (U #[Y I 0] 22)).alloc (U #[J Q 0 0] 73)):=aC hb1 (aA (aA br _) _);have B0:=Hi b0;have hsz:=hb1.size;clear b0 hb1
 go_wp2_with fail
 refine(wrPlan_any (w1.heap.size+1) m l la lc [] _ ⟨J Q 0 0,by simp,by simp,n8 _ _ _ _⟩ sm h8 HFW.out (fun w' hb=>HL.out.below (B0.out.trans (hb.mono om)))).mono ?_;rintro e w3 ⟨rfl,h3,k3⟩;obtain⟨v,hc,hf,ho⟩:=h3;have B3:=Hi (B0.out.trans ((k3.below sm).mono om));obtain⟨g,cap,hv,_,_⟩:=ho.form (by simp[plB]);subst hv;rw[List.nil_append]at ho hc;obtain⟨S,hS,hSl⟩:=yD w3 _ g cap _ ho (plB_byt m l);have HS:=Hi hSl;clear k3 ho hSl;generalize (plB m l).length=N at *;go_wp2;go_ret;exact⟨_,rfl,⟨S,rfl,HS.out⟩,B3.out⟩
theorem write1_bad (B:Nat) (w:World) (c0:w.cell? ⟨B,0,Q⟩=Y I m) (c1:w.cell? ⟨B,1,Q⟩=J la l.length lc) (hl:IsTxs w la l) (hE:¬aN m l=0) :
  Kp 27 #[pd (M ⟨B,0,Q⟩)] w (aN m l):=by
 have HCP:=dX (cI la lc l m w hl);have HE:=Hi hE;clear hl hE;generalize aN m l=E at *;go_enter func27,ntmps27
 go_wp2_with fail
 refine HCP.out.mono ?_;rintro e w1 ⟨rfl,hb1⟩;have B1:=Hi hb1;clear hb1 HCP
 go_wp2_with fail
 refine(dK [E] 0 E w1.heap.size 1 _ sm sm sm rfl HE.out (dS _ _ _ rfl)).mono ?_;rintro e w' ⟨rfl,rfl⟩;go_wp2;exact⟨rfl,rfl,aA B1.out _⟩
def wrL (m:Int) (l:List TxA):List Int:=if aN m l=0 then plB m l else []
theorem yS (w:World) (hl:IsTxs w la l) :
  Calls prog 8 #[ag #[Y I m,J la l.length lc]] w fun e w'=>∃S,e=rt (tu #[sg S,Y I (aN m l)])/\eI S=wrL m l/\Below w.heap.size w w':=by
 obtain⟨W,hWe⟩:=nm (w.alloc (U #[Y I m,J la l.length lc] 29));have HWE:=Hi hWe;have c0:W.cell? ⟨w.heap.size,0,Q⟩=Y I m:=by subst hWe;simp
 have c1:W.cell? ⟨w.heap.size,1,Q⟩=J la l.length lc:=by subst hWe;simp
 have BW:Below w.heap.size w W:=by subst hWe;exact aA br _
 have HL:=hl.below BW;clear hl hWe;have E0:Below W.heap.size W (W.alloc (U #[Y I 0] 22)):=aA br _;have e0:=aB E0 c0;have e1:=aB E0 c1;have BW':=Hi BW;by_cases hE:aN m l=0
 ·have HC:=sF 27 #[pd (M ⟨w.heap.size,0,Q⟩)] (fun _=>rfl) (fun v _=>∃S,v=sg S/\eI S=plB m l) W (fun _ _ h=>h) ((write1_ok la lc l m w.heap.size _ e0 e1 (HL.below E0) hE).mono fun e w' ⟨v,h1,h2,h3⟩=>⟨v,h1,h2,by simpa using h3⟩);have HC':=dX HC;have HV:Hid (wrL m l=plB m l):=if_pos hE;rw[hE];clear HC HL E0 e0 e1 hE c0 c1 BW;go_enter func8,ntmps8
  go_upto_region 1 with fail
  rw[<-HWE.out]
  go_wp2_with fail
  refine HC'.out.mono ?_;rintro e w1 ⟨v,rfl,⟨S,rfl,hS⟩,hb⟩;have HS:=Hi (hS.trans HV.out.symm);have HB1:=Hi (aC BW'.out hb);clear hb hS;go_wp2;go_ret2;exact⟨S,rfl,HS.out,HB1.out⟩
 ·have HC:=nL 27 #[pd (M ⟨w.heap.size,0,Q⟩)] (fun _=>rfl) (aN m l) W ((write1_bad la lc l m w.heap.size _ e0 e1 (HL.below E0) hE).mono fun e w' ⟨h1,h3⟩=>⟨h1,by simpa using h3⟩);have HC':=dX HC;have HV:Hid (wrL m l=[]):=if_neg hE;clear HC HL E0 e0 e1 hE c0 c1 BW;generalize aN m l=E at *;go_enter func8,ntmps8
  go_upto_region 1 with fail
  rw[<-HWE.out]
  go_wp2_with fail
  refine HC'.out.mono ?_;rintro e w1 ⟨rfl,hb⟩;have HB1:=Hi (aC BW'.out hb);clear hb;go_wp2;go_ret2;exact⟨_,rfl,HV.out.symm,HB1.out⟩
end
section
open Go.ChangeShapes Go.WideShapes Go.ChangeAt Go.RowKit
theorem star1 : "*"++ "errors.errorString" = "*errors.errorString":=by decide
theorem rowES (u:TypeId) (h:prog.typeName? 3 u=M "*errors.errorString"):u=297:=
 typeName_ptr_named (nm:= "errors.errorString") (by rw[star1];kernel_rfl) kr dc u (by rw[star1];exact h)
theorem std_of {W:World} (hL:laidMetH prog Rows.deskPlaysRow.laid W) (hsh:W.ShapedOpen prog):Std W:=by
 rw[MakeChecks.laidMetH_plain _ _ _ kr]at hL;have h0:laidMet prog (_::_::("internal/strconv.uint64pow10",Rows.laid_internal_strconv_uint64pow10)::_::("strconv.ErrRange",Rows.laid_strconv_ErrRange)::("strconv.ErrSyntax",Rows.laid_strconv_ErrSyntax)::_) W:=hL;have h2:=h0.tail.tail;have h4:=h2.tail.tail;have h5:=h4.tail;refine⟨?_,?_,?_,?_⟩
 ·exact Lib.tabIs_of_head (g:=1) (t:=226) (e:=195) (n:=20) kr kr kr kr kr kr h2
 ·obtain⟨a,s,hv,-,-,-⟩:=laid_sentinel h5 (g:=4) (ti:=58) kr kr underlying58 rowES underlying297 underlying299 rfl rfl underlying9 kr kr;exact⟨_,_,hv⟩
 ·obtain⟨a,s,hv,-,-,-⟩:=laid_sentinel h4 (g:=5) (ti:=58) kr kr underlying58 rowES underlying297 underlying299 rfl rfl underlying9 kr kr;exact⟨_,_,hv⟩
 ·exact cell_of_shapedOpen_int (g:=0) (t:=3) (zero:=#[Y I 0]) hsh (of_decide_eq_true kr) kr rfl kr kr underlying3
end
end Go.Proofs.YtcgpkonfneofdaaGreatDoor
