/- Conditions: those that each theorem states. -/
import Derived.Test.YtcgpkonfneofdaaGreatDoorQOwnE
import Derived.Test.YtcgpkonfneofdaaGreatDoorQHallO
import Derived.Test.YtcgpkonfneofdaaGreatDoorQLawA
set_option maxRecDepth 100000
set_option maxHeartbeats 8000000
namespace Go.Proofs.YtcgpkonfneofdaaGreatDoor
open Go.RowKit Go.Proofs.Tryz
open Go.Value renaming slice->J,int->Y,bool->bo,pointer->pd,agg->ag,tuple->tu,string->sg,iface->fc
open Go.IntKind renaming i64->I
open Go.Obj renaming cells->U
open Go.Ending renaming returned->rt,panicked->pg
open Option renaming some->M,none->Q
variable {p:Prop} {w:World} {a:Option Addr} {xs ws:List (List UInt8)} {s:List UInt8} {k f:Nat}
theorem Ux (h:p:=by
 rw[lp h,ny];exact Xa):p:=h
theorem info9:(prog.info? 9).map (fun i=>(i.zero,i.size,i.bytes))=M (M (sg ⟨#[]⟩),1,16):=by kernel_rfl
theorem one_str (x:List UInt8):∀u∈[aM x],u.oneCell'=true:=by
 intro u hu;rw[kb]at hu;subst hu;rfl
theorem join_len (sep:List UInt8) (B:Nat):∀(xs:List (List UInt8)),(∀x∈xs,x.length<=B)->(Lib.join xs sep).length<=xs.length*(B+sep.length):=by
 have ht:∀(xs:List (List UInt8)),(∀x∈xs,x.length<=B)->(Lib.joinTail sep xs).length<=xs.length*(B+sep.length):=by
  intro xs
  induction xs with
  | nil=>intro _;exact nz
  | cons x t ih=>
   intro h;have h1:=h x sm;have h2:=ih (fun y hy=>h y (by simp[hy]));have e:Lib.joinTail sep (x::t)=(sep++x)++Lib.joinTail sep t:=by simp[Lib.joinTail]
   rw[e,nj,nj,lh,Nat.succ_mul];omega
 intro xs h
 cases xs with
 | nil=>exact nz
 | cons x t=>
  have h1:=h x sm;have h2:=ht t (fun y hy=>h y (by simp[hy]));rw[Lib.join_cons,nj,lh,Nat.succ_mul];omega
theorem map_data (xs:List (List UInt8)):(xs.map fun x=>ByteArray.mk x.toArray).map (·.data.toList)=xs:=by
 rw[List.map_map];exact(List.map_congr_left (fun x _=>by simp)).trans (List.map_id _)
theorem join_own (xs:List (List UInt8)) (sep:List UInt8) (w:World) (base:Nat) (v:Value) (h:w.ownsRow base 9 1 v xs.length (xs.map aM)) (hn:xs.length<=140737488355328) (hl:(Lib.join xs sep).length<=140737488355328) :
  Kr 152 #[v,aM sep] w (aM (Lib.join xs sep)):=by
 have h':=h;rcases h.2 with ⟨rfl,h0⟩ | ⟨g,cap,cur,rfl,hb,hg,hnc,hcm,hcs,htake⟩
 ·have:xs=[]:=kh om;subst this;exact(Tryz.strings_Join_none Q 0 _ w).mono fun e w' ⟨he,hw⟩=>⟨he,by rw[hw];exact br⟩
 ·have:=Tryz.strings_Join g 0 cap (xs.map fun x=>ByteArray.mk x.toArray) ⟨sep.toArray⟩ w (fun j x hj=>by
   have hjl:j<xs.length:=by
    exact xg
   rw[nw,h'.cellAt j om];simp only[List.getElem?_map,Option.map_eq_some_iff]at hj ⊢;obtain⟨y,hy,rfl⟩:=hj;exact⟨y,hy,rfl⟩) (Array.getElem?_eq_some_iff.1 hg).1 (by simpa using hn) (by rw[lm];omega) (by rw[map_data];exact hl)
  rw[map_data]at this;exact Xd
theorem aAy {n:Int} (h0 : -9223372036854775808<=n) (h1:n<=9223372036854775807):(cL n).length<=20:=by
 unfold cL;split
 ·have:=fL (n:=n.natAbs) (k:=19) dc om;rw[lh];omega
 ·have:=fL (n:=n.toNat) (k:=19) dc om;omega
def oW (zs:List Int):List UInt8:=Lib.join (zs.map cL) [32]
theorem take_map_itx (zs:List Int) (k:Nat) (h:k<zs.length):(zs.take (k+1)).map cL=(zs.take k).map cL++[cL (zs.getD k 0)]:=by
 exact Ux
theorem wF (a:Option Addr) (c:Nat) (zs:List Int) (hz:∀z∈zs,-9223372036854775808<=z/\z<=9223372036854775807) (hn:zs.length<=100) (w:World) (hs:Std w) (h:IsInts w a zs) :
  Kr 117 #[J a zs.length c] w (aM (oW zs)):=by
 obtain⟨i0,hi,hz0,hz1,hz2⟩:=info_parts info9;have S0:=aI hs;have HI:=aI h;have HZ:=aI hz;clear hs h hz;go_enter func117,ntmps117;go_wp2
 go_loopw [3,5,8] (fun v _ i wr=>∃k:Nat,k<=zs.length/\i=Y I k/\Hid (wr.ownsRow w.heap.size 9 1 v k (((zs.take k).map cL).map aM))/\Hid (Below w.heap.size w wr)) (fun _ _ i _=>zs.length - (intOf i).toNat)
 case atStart=>exact⟨0,nz,rfl,n8 _ _ _ _,br⟩
 case round=>
  obtain⟨k,hk,rfl,hown,hB⟩:=hrel;by_cases hlt:k<zs.length
  ·obtain⟨b,off,rfl,hb,c0⟩:=HI.out k hlt;have d0:=aB hB.out c0;have hr:=HZ.out (zs.getD k 0) (by simp[List.getD,hlt]);have HT:=aI (take_map_itx zs k hlt);have i1:(k:Int)<(zs.length:Int):=om;have C1:=Hi (fun w hs=>tM _ hr.1 hr.2 w hs);clear c0 hr;generalize zs.getD k 0=z at *
   go_wp2_with fail
   refine(C1.out _ (S0.out.on hB.out)).mono ?_;rintro e w1 ⟨rfl,hb1⟩;have hown1:=aI (bY hown.out hb1);have B1:=Hi (aC hB.out hb1);have hsz:=B1.out.size;clear hb1 hB hown C1 d0
   go_wp2_with (first
    | (at_builtin;refine wpList_append_own _ rfl _ _ 55 rfl w.heap.size 9 i0 (sg ⟨#[]⟩) 1 16 underlying55 hi hz0 hz1 hz2 rfl dc _ _ _ rfl (hown1.out.alloc _) ⟨w1.heap.size,0,Q⟩ 1 1 [aM (cL z)] rfl rfl (oH _ _ 9 _ rfl) (one_str _) (by unfold maxLen;omega) om (by simp;omega) ?_;intro v' w2 hown' hgrow _)
    | go_in)
   have R:Hid (w2.ownsRow w.heap.size 9 1 v' (k+1) (((zs.take (k+1)).map cL).map aM)):=by
    show World.ownsRow _ _ _ _ _ _ _;rw[HT.out,ny];exact hown'
   have RB:=Hi ((B1.out.alloc om _).grown hgrow (by simp;omega) (fun j hj=>(hown1.out.lt j hj).1));clear hown' hgrow hown1 B1;exact vp
  ·have hkk:k=zs.length:=om;have i1:¬(k:Int)<(zs.length:Int):=om
   have R:Hid (wr.ownsRow w.heap.size 9 1 u3 (zs.map cL).length ((zs.map cL).map aM)):=by
    show World.ownsRow _ _ _ _ _ _ _;have:=hown.out;rw[hkk,ld]at this;rw[lm];exact this
   have CJ:=aI (join_own (zs.map cL) [32] wr w.heap.size u3 R.out (by rw[lm];omega) (by
    have:=join_len [32] 20 (zs.map cL) (fun x hx=>by
     obtain⟨z,hz,rfl⟩:=List.mem_map.1 hx;exact aAy (HZ.out z hz).1 (HZ.out z hz).2)
    rw[lm,lz]at this;omega))
   clear hown R
   go_wp2_with fail
   refine CJ.out.mono ?_;rintro e w1 ⟨rfl,hb1⟩;have RB:=Hi (aC hB.out hb1);clear hb1 CJ hB;go_wp2;go_ret;exact⟨rfl,RB.out⟩
theorem Uv (h:p:=by
 go_wp2_with fail
 refine C1.out.mono ?_;rintro e w1 ⟨rfl,rfl⟩;exact uj):p:=h
theorem aBn (c:UInt8):∀(k:Nat) (l:List UInt8),l.length<=k->Lib.count l [c]=l.count c
 | k,l,hk=>by
  rcases nS l c with ⟨h1,h2⟩ | ⟨a,r,h1,h2,h3⟩
  ·rw[Lib.count_miss (by rw[Lib.index_one];exact h2),List.count_eq_zero.2 h1]
  ·have hl:l.length=a.length+1+r.length:=by rw[h1];simp;omega
   match k,hk with
   | 0,hk=>exact absurd hk om
   | k+1,hk=>
    rw[Lib.count_hit (i:=a.length) sm (by rw[Lib.index_one];exact h3)];have e2:l.drop (a.length+1)=r:=by rw[h1];simp
    rw[lz,e2,aBn c k r om,h1,List.count_append,List.count_cons_self,List.count_eq_zero.2 h2];omega
def IsStrs (w:World) (a:Option Addr) (xs:List (List UInt8)):Prop:=
 ∀i,i<xs.length->∃b off,a=M ⟨b,off,Q⟩/\b<w.heap.size/\w.cell? ⟨b,off+i,Q⟩=M (aM (xs.getD i []))
theorem IsStrs.below {w':World} (h:IsStrs w a xs) (hb:Below w.heap.size w w'):IsStrs w' a xs:=by
 intro i hi;obtain⟨b,off,ha,hlt,hc⟩:=h i hi;exact⟨b,off,ha,nd hlt hb.size,aB hb hc⟩
theorem split_q (x:List UInt8) (hx:x.length<=4096) (c:UInt8) (w:World) (hs:Std w) :
  Calls prog 41 #[aM x,aM [c]] w fun e w'=>e=rt (J (M ⟨w.heap.size,0,Q⟩) (x.count c+1) (x.count c+1))/\w'=w.alloc (U ((eT c x).map aM).toArray 9):=by
 obtain⟨m,hm⟩:=hs.mx
 have hcnt:Lib.countB ⟨x.toArray⟩ ⟨[c].toArray⟩=x.count c:=by
  show Lib.count _ _=_;simpa using aBn c x.length x nr
 have:=Tryz.strings_Split ⟨x.toArray⟩ ⟨[c].toArray⟩ m w (by show x.toArray.size<_;simp;omega) hm (by show 1<=[c].toArray.size;simp);rw[hcnt]at this
 have e:(Lib.splitB ⟨[c].toArray⟩ 0 (x.count c) ⟨x.toArray⟩).map sg=(eT c x).map aM:=by
  have h1:(Lib.splitB _ 0 _ _).map _=Lib.splitK [c] 0 _ x:=Lib.splitB_data ⟨[c].toArray⟩ 0 (x.count c) ⟨x.toArray⟩;have h2:=wM c _ x nr;rw[h2]at h1;rw[<-h1,List.map_map];refine List.map_congr_left fun y _=>?_
  show sg y=sg ⟨y.data.toList.toArray⟩
  cases y;simp
 rw[e]at this;exact this
theorem uA (w:World) (xs:List (List UInt8)):IsStrs (w.alloc (U (xs.map aM).toArray 9)) (M ⟨w.heap.size,0,Q⟩) xs:=fun i hi=>⟨_,0,rfl,by simp,by
 rw[nw];simp[List.getD,hi]⟩
theorem IsStrs.init (h:IsStrs w a xs):IsStrs w a xs.dropLast:=fun i hi=>by
 rw[List.length_dropLast]at hi;obtain⟨b,off,ha,hlt,hc⟩:=h i om;refine⟨b,off,ha,hlt,?_⟩;rw[hc]
 have:xs.dropLast.getD i []=xs.getD i []:=by
  rw[li,li,List.getElem?_dropLast,if_pos om]
 rw[this]
def dW (x:List UInt8):Int:=if 4096<x.length∨40<x.count 10 then 2 else 0
def kB (x:List UInt8):Int:=if x≠[]/\x.getLast?≠M 10 then 1 else 0
theorem many_q (x:List UInt8) (hx:x.length<=9223372036854775807) (w:World):Calls prog 16 #[aM x] w fun e w'=>e=rt (Y I (dW x))/\w'=w:=by
 have hsz:(ByteArray.mk x.toArray).size=x.length:=by show x.toArray.size=_;simp
 have C1:Hid (Calls prog 37 #[aM x,sg ⟨#[10]⟩] w fun e w'=>e=rt (Y I (x.count 10:Nat))/\w'=w):=by
  have:=Tryz.strings_Count_one ⟨x.toArray⟩ 10 w;exact this
 unfold dW;generalize x.count 10=n at *;generalize x.length=m at *;unfold aM at C1 ⊢;generalize ByteArray.mk x.toArray=X at *;by_cases h1:4096<m
 ·have i1:(4096:Int)<(m:Int):=om;rw[if_pos (.inl h1)];go_enter func16,ntmps16;exact uj
 ·have i1:¬(4096:Int)<(m:Int):=om;by_cases h2:40<n
  ·have i2:(40:Int)<(n:Int):=om;rw[if_pos (.inr h2)];go_enter func16,ntmps16;exact Uv
  ·have i2:¬(40:Int)<(n:Int):=om;rw[if_neg om];go_enter func16,ntmps16;exact Uv
theorem suff_last (x:List UInt8) (c:UInt8) (hne:x≠[]):Lib.hasSuffix x [c]=decide (x.getLast?=M c):=by
 obtain⟨a,b,rfl⟩:∃a b,x=a++[b]:=⟨x.dropLast,x.getLast hne,(List.dropLast_concat_getLast hne).symm⟩;rw[List.getLast?_append];simp only[Lib.hasSuffix,List.getLast?_singleton,Option.some_or,Option.some.injEq];rw[Bool.eq_iff_iff,List.isSuffixOf_iff_suffix,decide_eq_true_iff];constructor
 ·rintro ⟨t,ht⟩;have:=List.append_inj' ht rfl;simpa using this.2.symm
 ·rintro rfl;exact⟨a,rfl⟩
theorem end_q (x:List UInt8) (hx:x.length<=9223372036854775807) (w:World):Calls prog 17 #[aM x] w fun e w'=>e=rt (Y I (kB x))/\w'=w:=by
 unfold kB;by_cases h0:x=[]
 ·subst h0;rw[if_neg sm];go_enter func17,ntmps17;exact uj
 ·have C1:Hid (Calls prog 38 #[aM x,sg ⟨#[10]⟩] w fun e w'=>e=rt (bo (decide (x.getLast?=M 10)))/\w'=w):=by
   have:=Tryz.strings_HasSuffix ⟨x.toArray⟩ ⟨#[10]⟩ w (by show x.toArray.size<=_;simpa using hx);rw[<-suff_last x 10 h0];exact this
  have hne:¬(ByteArray.mk x.toArray).toList=(ByteArray.mk #[]).toList:=by
   rw[ByteArray.toList_eq,ByteArray.toList_eq];simpa using h0
  have hne3:¬(ByteArray.mk x.toArray).toList=[]:=by
   rw[ByteArray.toList_eq];simpa using h0
  have hne4:(ByteArray.mk x.toArray).toList.isEmpty=false:=by simpa using hne3
  unfold aM at C1 ⊢;by_cases h1:x.getLast?=M 10
  focus
   rw[if_neg (fun hh=>hh.2 h1)];rw[decide_eq_true h1]at C1
  rotate_left
  focus
   rw[if_pos ⟨h0,h1⟩];rw[decide_eq_false h1]at C1
  rotate_left
  all_goals
   generalize ByteArray.mk x.toArray=X at *;go_enter func17,ntmps17;exact Uv
theorem X5 (h:p:=by
 show World.ownsRow _ _ _ _ _ _ _;rw[ny,nj];exact hown'):p:=h
theorem rS (s:List UInt8) (k:Nat) (h:k<s.length) (w:World):(Instr.index 9 (sg ⟨s.toArray⟩) (Y I k)).run prog w=.ok (Y .u8 (s.getD k 0).toNat) w:=by
 have hz:(ByteArray.mk s.toArray).size=s.length:=by show s.toArray.size=_;simp
 rw[run_index_string w 9 ⟨s.toArray⟩ I k underlying9,dif_pos (by rw[hz];omega)]
 have e:∀(j:Nat) (hj:j<(ByteArray.mk s.toArray).size),j=k->((ByteArray.mk s.toArray)[j]'hj)=s.getD k 0:=by
  intro j hj hjk;subst hjk;show s.toArray[j]'_=_;exact Xa
 rw[e _ _ (lq k)]
theorem slc_str (s:List UInt8) (f k:Nat) (h1:f<=k) (h2:k<=s.length) (w:World):(Instr.slice 9 (sg ⟨s.toArray⟩) (M (Y I f)) (M (Y I k)) Q).run prog w=.ok (aM ((s.drop f).take (k - f))) w:=by
 have hz:(ByteArray.mk s.toArray).size=s.length:=by show s.toArray.size=_;simp
 rw[run_slice_string w 9 ⟨s.toArray⟩ I I f k underlying9 om om (by rw[hz];omega),lq,lq,ByteArray.extract_mk]
structure Cut (c:UInt8) (s:List UInt8) (k f:Nat) (ws:List (List UInt8)):Prop where
 fk:f<=k
 fl:f<=s.length+1
 few:ws.length<=k
 mid:k<=s.length->c∉(s.drop f).take (k - f)/\eT c s=ws++eT c (s.drop f)
 fin:k=s.length+1->ws=eT c s
theorem Cut.zero (c:UInt8) (s:List UInt8):Cut c s 0 0 []:=⟨nr,by omega,nr,fun _=>⟨by simp,by simp⟩,fun h=>by omega⟩
theorem cut_take (hf:f<=k) (hk:k<s.length):(s.drop f).take (k+1 - f)=(s.drop f).take (k - f)++[s.getD k 0]:=by
 have e:k+1 - f=(k - f)+1:=om;have hl:k - f<(s.drop f).length:=by rw[List.length_drop];omega
 rw[e,lp hl];congr 1;simp[List.getD,hk,Nat.add_sub_cancel' hf]
theorem Cut.on {c:UInt8} (h:Cut c s k f ws) (hk:k<s.length) (hc:s.getD k 0≠c):Cut c s (k+1) f ws:=by
 refine⟨by have:=h.fk;omega,h.fl,by have:=h.few;omega,fun _=>?_,fun e=>by omega⟩;obtain⟨h1,h2⟩:=h.mid om;refine⟨?_,h2⟩;rw[cut_take h.fk hk];intro hm;rcases List.mem_append.1 hm with hm | hm
 ·exact h1 hm
 ·exact hc (List.mem_singleton.1 hm).symm
theorem drop_cut (hf:f<=k) (hk:k<s.length):s.drop f=(s.drop f).take (k - f)++s.getD k 0::s.drop (k+1):=by
 have h1:s.drop f=(s.drop f).take (k - f)++(s.drop f).drop _:=(List.take_append_drop _ _).symm;have h2:(s.drop f).drop (k - f)=s.drop k:=by rw[List.drop_drop];congr 1;omega
 have h3:s.drop k=s.getD k 0::s.drop (k+1):=by
  rw[List.drop_eq_getElem_cons hk];simp[List.getD,hk]
 rw[h2,h3]at h1;exact h1
theorem Cut.cut {c:UInt8} (h:Cut c s k f ws) (hk:k<s.length) (hc:s.getD k 0=c):Cut c s (k+1) (k+1) (ws++[(s.drop f).take (k - f)]):=by
 refine⟨nr,by omega,by rw[nj,lz];have:=h.few;omega,fun _=>?_,fun e=>by omega⟩;obtain⟨h1,h2⟩:=h.mid om;refine⟨by simp,?_⟩;rw[h2,lu];congr 1;have:=drop_cut h.fk hk;rw[hc]at this
 conv=>lhs;rw[this]
 rw[spl_app _ h1];rfl
theorem Cut.last {c:UInt8} (h:Cut c s s.length f ws):Cut c s (s.length+1) (s.length+1) (ws++[(s.drop f).take (s.length - f)]):=by
 refine⟨nr,by omega,by rw[nj,lz];have:=h.few;omega,fun e=>by omega,fun _=>?_⟩;obtain⟨h1,h2⟩:=h.mid nr;have e:(s.drop f).take _=s.drop f:=le (by rw[List.length_drop];exact nr);rw[e]at h1 ⊢;rw[h2,mG h1]
theorem strs_own {base:Nat} {v:Value} {n:Nat} (h:w.ownsRow base 9 1 v n (xs.map aM)) (hn:xs.length=n):∃a cap,v=J a xs.length cap/\IsStrs w a xs:=by
 rcases h.2 with ⟨rfl,h0⟩ | ⟨g,cap,cur,rfl,hb,hg,hnc,hcm,hcs,htake⟩
 ·exact xx
 ·refine⟨M ⟨g,0,Q⟩,cap,by rw[hn],fun i hi=>⟨g,0,rfl,(Array.getElem?_eq_some_iff.1 hg).1,?_⟩⟩;rw[nw,h.cellAt i om];simp[List.getD,hi]
theorem rX (s:List UInt8) (hs:s.length<=4096) (w:World) :
  Calls prog 51 #[aM s] w fun e w'=>∃a c,e=rt (J a (eT 32 s).length c)/\IsStrs w' a (eT 32 s)/\Below w.heap.size w w':=by
 obtain⟨i0,hi,hz0,hz1,hz2⟩:=info_parts info9;have hsz:(ByteArray.mk s.toArray).size=s.length:=by show s.toArray.size=_;simp
 have HIX:=Hi (rS s);have HSL:=Hi (slc_str s);unfold aM at *;generalize ByteArray.mk s.toArray=X at *;go_enter func51,ntmps51;go_wp2
 go_loopw [3,4,5] (fun v f i wr=>∃(k m:Nat) (ws:List (List UInt8)),k<=s.length+1/\i=Y I k/\f=Y I m/\Hid (Cut 32 s k m ws)/\Hid (wr.ownsRow w.heap.size 9 1 v ws.length (ws.map aM))/\Hid (Below w.heap.size w wr)) (fun _ _ i _=>s.length+1 - (intOf i).toNat)
 case atStart=>exact⟨0,0,[],nz,rfl,rfl,Cut.zero 32 s,n8 _ _ _ _,br⟩
 case round=>
  obtain⟨k,m,ws,hk,rfl,rfl,HC,hown,hB⟩:=hrel;have hwz:=hB.out.size;by_cases hlt:k<s.length
  ·have i1:(k:Int)<=(s.length:Int):=om;have i2:¬(k:Int)=(s.length:Int):=om;have x1:=HIX.out k hlt;by_cases hc:s.getD k 0=32
   ·have HC2:=aI (HC.out.cut hlt hc);have x2:=HSL.out m k HC.out.fk om;have hwl:ws.length<=4096:=by have:=HC.out.few;omega
    rw[hc]at x1;generalize (s.drop m).take (k - m)=y at *;clear HC hc
    go_wp2_with (first
     | (at_builtin;refine wpList_append_own _ rfl _ _ 55 rfl w.heap.size 9 i0 (sg ⟨#[]⟩) 1 16 underlying55 hi hz0 hz1 hz2 rfl dc _ _ _ rfl (hown.out.alloc _) ⟨wr.heap.size,0,Q⟩ 1 1 [aM y] rfl rfl (oH _ _ 9 _ rfl) (one_str _) (by unfold maxLen;omega) om (by simp;omega) ?_;intro v' w2 hown' hgrow _)
     | go_in)
    have R:Hid (w2.ownsRow w.heap.size 9 1 v' (ws++[y]).length ((ws++[y]).map aM)):=by
     exact X5
    have RB:=Hi ((hB.out.alloc om _).grown hgrow (by simp;omega) (fun j hj=>(hown.out.lt j hj).1));clear hown' hgrow hown hB;go_wp2;go_roundw
    case rel=>exact⟨k+1,k+1,ws++[y],by omega,by go_num,by go_num,HC2,R,RB⟩
    case measure=>simp[intOf];omega
   ·have HC2:=aI (HC.out.on hlt hc);have i3:¬(((s.getD k 0).toNat:Nat):Int)=32:=fun e=>hc (UInt8.toNat_inj.1 (by simpa using Int.ofNat_inj.1 e))
    generalize (s.getD k 0).toNat=B at *;have i3b:((B:Int)==32)=false:=by simpa using i3
    have i2b:((k:Int)==(s.length:Int))=false:=by simpa using i2
    clear HC hc;go_wp2;go_roundw
    case rel=>exact⟨k+1,m,ws,by omega,by go_num,rfl,HC2,hown,hB⟩
    case measure=>simp[intOf];omega
  ·by_cases hle:k<=s.length
   ·have hkk:k=s.length:=om;subst hkk;have HC2:=aI HC.out.last;have x2:=HSL.out m s.length HC.out.fk nr;have hwl:ws.length<=4096:=by have:=HC.out.few;omega
    generalize (s.drop m).take (s.length - m)=y at *;clear HC
    go_wp2_with (first
     | (at_builtin;refine wpList_append_own _ rfl _ _ 55 rfl w.heap.size 9 i0 (sg ⟨#[]⟩) 1 16 underlying55 hi hz0 hz1 hz2 rfl dc _ _ _ rfl (hown.out.alloc _) ⟨wr.heap.size,0,Q⟩ 1 1 [aM y] rfl rfl (oH _ _ 9 _ rfl) (one_str _) (by unfold maxLen;omega) om (by simp;omega) ?_;intro v' w2 hown' hgrow _)
     | go_in)
    have R:Hid (w2.ownsRow w.heap.size 9 1 v' (ws++[y]).length ((ws++[y]).map aM)):=by
     exact X5
    have RB:=Hi ((hB.out.alloc om _).grown hgrow (by simp;omega) (fun j hj=>(hown.out.lt j hj).1));clear hown' hgrow hown hB;go_wp2;go_roundw
    case rel=>exact⟨s.length+1,s.length+1,ws++[y],by omega,by go_num,by go_num,HC2,R,RB⟩
    case measure=>simp[intOf] <;> omega
   ·have hkk:k=s.length+1:=om;have i1:¬(k:Int)<=(s.length:Int):=om;have hw:=HC.out.fin hkk;obtain⟨a,cap,rfl,HS⟩:=strs_own hown.out rfl;have HR:=aI HS;have HW:=aI hw;clear HS hw hown HC;go_wp2;go_ret;rw[<-HW.out];exact⟨a,⟨cap,rfl⟩,HR.out,hB.out⟩
theorem aAh (s:List UInt8) (k:Nat) (h:k<s.length):nX (s.take (k+1))=if s.getD k 0=45 then nX (s.take k) else 10*nX (s.take k)+((s.getD k 0).toNat+208)%256:=by
 have e:s.getD k 0=s[k]:=by simp[List.getD,h]
 rw[lp h,e];unfold nX;rw[List.foldl_append];rfl
theorem rawN_le:∀(s:List UInt8) (k:Nat),k<=s.length->nX (s.take k)+30<=30*10 ^ k:=by
 intro s k
 induction k with
 | zero=>intro _;simp[nX]
 | succ k ih=>
  intro h;have:=ih om;rw[aAh s k om,Nat.pow_succ];split <;> omega
def NumR (s:List UInt8) (e:Ending):Prop:=∃m:Int,e=rt (tu #[Y I m,bo (cG s).isSome])/\∀n,cG s=M n->m=n
theorem numR_no {m:Int} (h:cG s=Q):NumR s (rt (tu #[Y I m,bo false])):=⟨m,by rw[h];rfl,fun n hn=>by rw[h]at hn;cases hn⟩
theorem numR_doc {b:Bool} (hl:1<=s.length/\s.length<=7) (hb:b=decide (cL (jB s)=s/\-999999<=jB s/\jB s<=999999)):NumR s (rt (tu #[Y I (jB s),bo b])):=by
 have hd:=numW_doc s;by_cases hc:cL (jB s)=s/\-999999<=jB s/\jB s<=999999
 ·rw[if_pos ⟨hl,hc⟩]at hd;exact⟨jB s,by rw[hd,hb,decide_eq_true hc];rfl,fun n hn=>by rw[hd]at hn;injection hn⟩
 ·rw[if_neg (fun h=>hc h.2)]at hd;exact⟨jB s,by rw[hd,hb,decide_eq_false hc];rfl,fun n hn=>by rw[hd]at hn;cases hn⟩
theorem sub48 (b:UInt8):IntKind.u8.wrap ((b.toNat:Int) - 48)=(((b.toNat+208)%256:Nat):Int):=by
 have:=b.toNat_lt;simp[IntKind.wrap,IntKind.bits,IntKind.signed];omega
theorem lA (s:List UInt8) (hs:s.length<=4096) (w:World):Calls prog 52 #[aM s] w fun e w'=>NumR s e/\Below w.heap.size w w':=by
 have HW:=Hi iX;have hsz:(ByteArray.mk s.toArray).size=s.length:=by show s.toArray.size=_;simp
 by_cases hl:1<=s.length/\s.length<=7
 ·have hl1:=hl.1;have hl2:=hl.2;have HIX:=Hi (rS s);have x0:∀w:World,(Instr.index 9 _ (Y I 0)).run prog w=.ok _ w:=rS s 0 hl1
  have h45:s.head?=M 45↔s.getD 0 0=45:=by
   cases s with
   | nil=>simp at hl1
   | cons a r=>simp
  have hR:=rawN_le s s.length nr;rw[ld]at hR
  have hR7:nX s<=30*10 ^ 7:=by
   have:10 ^ s.length<=10 ^ 7:=Nat.pow_le_pow_right dc hl2;omega
  have CD:Hid (∀w:World,Calls prog 9 _ w fun e w'=>e=rt (sg _)/\Below w.heap.size w w'):=fun w=>gY (jB s) (by unfold jB;split <;> omega) (by unfold jB;split <;> omega) w
  have HEQ:Hid ((ByteArray.mk (cL (jB s)).toArray).toList=(ByteArray.mk s.toArray).toList↔cL (jB s)=s):=by
   show _↔_;rw[ByteArray.toList_eq,ByteArray.toList_eq]
  have HN:Hid (∀b,b=decide _->NumR s _):=fun b hb=>numR_doc hl hb
  have HDN:Hid (jB s=if s.getD 0 0=45 then -(nX s:Int) else nX s):=by
   show _=_;unfold jB;by_cases h:s.head?=M 45
   ·rw[if_pos h,if_pos (h45.1 h)]
   ·rw[if_neg h,if_neg (fun e=>h (h45.2 e))]
  clear h45;unfold aM;generalize ByteArray.mk s.toArray=X at *;generalize (ByteArray.mk (cL (jB s)).toArray)=D at *;go_enter func52,ntmps52
  go_wp2_with fail
  refine(HW.out _ _ _ _).mono ?_;rintro e w1 ⟨rfl,rfl⟩;have c1:(1:Int)<=(s.length:Int):=om;have c2:(s.length:Int)<=7:=om;go_wp2
  go_loopw [4,5] (fun n i wr=>∃k:Nat,k<=s.length/\i=Y I k/\n=Y I (nX (s.take k))/\Hid (wr=w1)) (fun _ i _=>s.length - (intOf i).toNat)
  case atStart=>exact⟨0,nz,rfl,rfl,rfl⟩
  case round=>
   obtain⟨k,hk,rfl,rfl,hw⟩:=hrel;by_cases hlt:k<s.length
   ·have i1:(k:Int)<(s.length:Int):=om;have x1:=HIX.out k hlt;have hst:=aI (aAh s k hlt);have hbd:=rawN_le s k om
    have hbd7:nX (s.take k)<=30*10 ^ 7:=by
     have:10 ^ k<=10 ^ 7:=Nat.pow_le_pow_right dc om;omega
    by_cases hc:s.getD k 0=45
    ·rw[if_pos hc]at hst;rw[hc]at x1;go_wp2;go_roundw
     case rel=>exact⟨k+1,by omega,by go_num,by rw[hst.out],hw⟩
     case measure=>simp[intOf];omega
    ·rw[if_neg hc]at hst;have i3:¬(((s.getD k 0).toNat:Nat):Int)=45:=fun e=>hc (UInt8.toNat_inj.1 (by simpa using Int.ofNat_inj.1 e))
     have i4:=sub48 (s.getD k 0);have i5:((s.getD k 0).toNat+208)%256<256:=l7 _ dc;generalize ((s.getD k 0).toNat+208)%256=E at *;generalize (s.getD k 0).toNat=B at *;generalize nX (s.take k)=R at *;clear hc hbd;have i3b:((B:Int)==45)=false:=by simpa using i3
     go_wp2;go_roundw
     case rel=>exact⟨k+1,by omega,by go_num,by rw[hst.out];go_num,hw⟩
     case measure=>simp[intOf];omega
   ·have hkk:k=s.length:=om;subst hkk;rw[ld];by_cases hc:s.getD 0 0=45
    focus
     have e1:=HDN.out;rw[if_pos hc]at e1;rw[hc]at x0
    rotate_left
    focus
     have e1:=HDN.out;rw[if_neg hc]at e1;have i3:¬(((s.getD 0 0).toNat:Nat):Int)=45:=fun e=>hc (UInt8.toNat_inj.1 (by simpa using Int.ofNat_inj.1 e))
     generalize (s.getD 0 0).toNat=B at *;have i3b:((B:Int)==45)=false:=by simpa using i3
    rotate_left
    all_goals
     rw[e1]at CD HN HEQ;generalize nX s=R at *;have hw':=hw.out;subst hw';clear hw HIX hR HDN;by_cases hq:D.toList=X.toList
     ·have hi1:=HEQ.out.1 hq;have HI:=aI hi1;clear hi1 HEQ
      go_wp2_with fail
      refine(CD.out _).mono ?_;rintro e w2 ⟨rfl,hb1⟩;have B1:=aI hb1;clear hb1
      go_wp2_with fail
      refine(HW.out _ _ _ _).mono ?_;rintro e w3 ⟨rfl,rfl⟩;go_wp2;go_ret2;exact⟨HN.out _ (by simp[HI.out]),B1.out⟩
     ·have HI:=aI (fun e=>hq (HEQ.out.2 e));clear HEQ
      go_wp2_with fail
      refine(CD.out _).mono ?_;rintro e w2 ⟨rfl,hb1⟩;have B1:=aI hb1;clear hb1;go_wp2;go_ret2;exact⟨HN.out _ (by rw[decide_eq_false (fun h=>HI.out h.1)]),B1.out⟩
 ·have h0:Hid (cG s=Q):=by
   show _=_;rw[numW_doc,if_neg (fun h=>hl h.1)]
  unfold aM;generalize ByteArray.mk s.toArray=X at *;have c1:¬((1:Int)<=(s.length:Int)/\(s.length:Int)<=7):=om
  have c2:(decide ((1:Int)<=(s.length:Int)) && decide ((s.length:Int)<=7))=false:=by
   rw[<-Bool.decide_and];exact decide_eq_false c1
  go_enter func52,ntmps52
  go_wp2_with fail
  refine(HW.out _ _ _ _).mono ?_;rintro e w1 ⟨rfl,rfl⟩;rw[c2];go_wp2;go_ret2;exact⟨numR_no h0.out,br⟩
theorem ug (h:p:=by
 generalize hNB:ByteArray.mk N.toArray=NB at *;generalize hKB:ByteArray.mk K.toArray=KB at *;clear hNB hKB
 go_upto_region 10 with fail
 go_cut [3] (fun u wx=>u=sg T5/\Hid (Below wr.heap.size wr wx))
 case first=>
  clear HT E5 E6 HSS;refine wp_region_held_drew (S:=(fun w'=>w'.cell? ⟨b,off+k*3+1,Q⟩=Y I n/\w'.cell? ⟨b,off+k*3+2,Q⟩=Y I j/\Hid (Below wr.heap.size wr w'))) kr ?_ (fun hHeld=>?_)
  ·exact KS.out _ (aD br)
  refine tk 0 ?_;refine tk 1 ?_;refine tk 2 ?_;refine tk 3 ?_;refine tk 4 ?_;refine tk 5 ?_;refine tk 6 ?_;refine tk 7 ?_;refine tk 8 ?_;refine tk 12 ?_;refine tk 13 ?_;refine tk 14 ?_;refine tk 15 ?_;refine tk 16 ?_;refine r1 9 (fun K hK=>?_);go_simp;obtain⟨d1,d2,hbx⟩:=hHeld
  go_wp2_with (go_at_call 9;refine(C1.out _).mono ?_;rintro e w1 ⟨rfl,hb1⟩)
  have B1:=Hi (aC hbx.out hb1);clear hb1 d1 d2 hbx;have hHeld:=trivial;clear hHeld;refine hK.out _ _ (KS.out _ B1.out) (fun hHeld=>?_);clear hK K;refine tk 10 ?_;refine tk 11 ?_;refine r1 17 (fun K hK=>?_);go_simp;obtain⟨d1,d2,hbx⟩:=hHeld
  go_wp2_with (go_at_call 9;refine(C2.out _).mono ?_;rintro e w2 ⟨rfl,hb2⟩)
  have B2:=Hi (aC hbx.out hb2);clear hb2 d1 d2 hbx;have hHeld:=trivial;clear hHeld;refine hK.out _ _ (KS.out _ B2.out) (fun hHeld=>?_);clear hK K;refine tk 18 ?_;refine tk 19 ?_;refine wpAnyH_done kr ?_ _
  go_wp2_with fail
  go_meet;exact⟨rfl,B2⟩
 case rest=>
  obtain⟨rfl,hbc⟩:=hcut;have RB:=Hi (aC hB.out hbc.out);clear hbc KS C1 C2;by_cases hl1:k+1<L.length
  ·have i5:(k:Int)+1<(L.length:Int):=om;rw[if_pos hl1]at HT;go_wp2;go_roundw
   case rel=>exact⟨k+1,by omega,by go_num,by rw[HT.out,E6.out],RB⟩
   case measure=>simp[intOf];omega
  ·have i5:¬(k:Int)+1<(L.length:Int):=om;rw[if_neg hl1]at HT;go_wp2;go_roundw
   case rel=>exact⟨k+1,by omega,by go_num,by rw[HT.out,E5.out],RB⟩
   case measure=>simp[intOf];omega):p:=h
def rdW:List UInt8:=[114,101,97,100]
def wrW:List UInt8:=[119,114,105,116,101]
def dO (p:Nat×Nat×Nat):List UInt8:=(if p.1=2 then wrW else rdW)++[32]++cL p.2.1++[32]++cL p.2.2
def fO (L:List (Nat×Nat×Nat)):List UInt8:=Lib.join (L.map dO) [59,32]
theorem joinTail_app (sep:List UInt8) (a b:List (List UInt8)):Lib.joinTail sep (a++b)=Lib.joinTail sep a++Lib.joinTail sep b:=by simp[Lib.joinTail]
theorem aAx (sep:List UInt8) (xs:List (List UInt8)) (y:List UInt8) (h:xs≠[]):Lib.join (xs++[y]) sep=Lib.join xs sep++sep++y:=by
 cases xs with
 | nil=>exact absurd rfl h
 | cons x t=>
  rw[List.cons_append,Lib.join_cons,Lib.join_cons,joinTail_app];simp[Lib.joinTail]
theorem take_steps (L:List (Nat×Nat×Nat)) (k:Nat) (h:k<L.length):fO (L.take (k+1))=(if k=0 then [] else fO (L.take k)++[59,32])++dO (L.getD k (0,0,0)):=by
 have e:(L.take (k+1)).map dO=(L.take k).map dO++[dO (L.getD k (0,0,0))]:=by
  exact Ux
 unfold fO;rw[e];by_cases hk:k=0
 ·subst hk;simp[Lib.join_one]
 ·rw[if_neg hk,aAx];intro hn;have:=congrArg List.length hn;rw[lm,l6,List.length_nil]at this;omega
theorem aAb (p:Nat×Nat×Nat) (h1:p.2.1<=100) (h2:p.2.2<=100):(dO p).length<=20:=by
 have a:=fL (n:=p.2.1) (k:=3) dc om;have b:=fL (n:=p.2.2) (k:=3) dc om;have a':(cL (p.2.1:Nat)).length<=3:=by unfold cL;rw[if_neg om];simpa using a
 have b':(cL (p.2.2:Nat)).length<=3:=by unfold cL;rw[if_neg om];simpa using b
 unfold dO;simp only[List.length_append,List.length_singleton];split
 ·simp[wrW];omega
 ·simp[rdW];omega
def tS (L:List (Nat×Nat×Nat)) (k:Nat):List UInt8:=if k=0 then [] else fO (L.take k)++(if k<L.length then [59] else [])
theorem tS_step (L:List (Nat×Nat×Nat)) (k:Nat) (h:k<L.length):tS L (k+1)=((if k=0 then [] else tS L k++[32])++dO (L.getD k (0,0,0)))++(if k+1<L.length then [59] else []):=by
 unfold tS;rw[if_neg (Nat.succ_ne_zero k),take_steps L k h];by_cases hk:k=0
 ·simp[hk]
 ·simp[hk,h]
theorem tS_end (L:List (Nat×Nat×Nat)):tS L L.length=fO L:=by
 unfold tS;by_cases h:L.length=0
 ·have:L=[]:=kh h;subst this;rfl
 ·rw[if_neg h,ld,if_neg (Nat.lt_irrefl _),ke]
theorem tS_len (L:List (Nat×Nat×Nat)) (hb:∀p∈L,p.2.1<=100/\p.2.2<=100):∀k,k<=L.length->(tS L k).length<=30*k:=by
 intro k
 induction k with
 | zero=>intro _;exact nz
 | succ k ih=>
  intro hk;have h1:=ih om;have hp:=hb (L.getD k (0,0,0)) (by simp[List.getD,(show k<L.length by omega)]);have h2:=aAb _ hp.1 hp.2;rw[tS_step L k om];simp only[List.length_append]
  have a1:(if k=0 then ([]:List UInt8) else tS L k++[32]).length<=30*k+1:=by
   split
   ·exact nz
   ·rw[nj,lz];omega
  have a2:(if k+1<L.length then ([59]:List UInt8) else []).length<=1:=by
   split <;> simp
  omega
theorem lQ (n:Nat) (h:n<=100):(cL (n:Int)).length<=3:=by
 have a:=fL (n:=n) (k:=3) dc om;unfold cL;rw[if_neg om];simpa using a
theorem sU (x y:List UInt8) (h:x.length+y.length<=100000) (w:World):(Op.stringOp .add ⟨x.toArray⟩ ⟨y.toArray⟩).run prog w=.ok (sg ⟨(x++y).toArray⟩) w:=run_string_add_lists w x y om om
theorem cats (y op N K:List UInt8) (h:y.length+op.length+N.length+K.length<=10000):∃T1 T2 T3 T4 T5 T6:ByteArray,(∀w,(Op.stringOp .add ⟨y.toArray⟩ ⟨op.toArray⟩).run prog w=.ok (sg T1) w)/\(∀w,(Op.stringOp .add T1 ⟨#[32]⟩).run prog w=.ok (sg T2) w)/\(∀w,(Op.stringOp .add T2 ⟨N.toArray⟩).run prog w=.ok (sg T3) w)/\(∀w,(Op.stringOp .add T3 ⟨#[32]⟩).run prog w=.ok (sg T4) w)/\(∀w,(Op.stringOp .add T4 ⟨K.toArray⟩).run prog w=.ok (sg T5) w)/\(∀w,(Op.stringOp .add T5 ⟨#[59]⟩).run prog w=.ok (sg T6) w)/\T5=⟨(y++op++[32]++N++[32]++K).toArray⟩/\T6=⟨(y++op++[32]++N++[32]++K++[59]).toArray⟩:=
 ⟨_,_,_,_,_,_,sU y op om,sU (y++op) [32] (by simp;omega),sU (y++op++[32]) N (by simp;omega),sU (y++op++[32]++N) [32] (by simp;omega),sU (y++op++[32]++N++[32]) K (by simp;omega),sU (y++op++[32]++N++[32]++K) [59] (by simp;omega),rfl,rfl⟩
set_option linter.unusedSimpArgs false in
theorem docSteps_any (a:Option Addr) (c:Nat) (L:List (Nat×Nat×Nat)) (hn:L.length<=100) (hb:∀p∈L,p.2.1<=100/\p.2.2<=100) (w:World) (h:IsSteps w a L) :
  Kr 56 #[J a L.length c] w (aM (fO L)):=by
 have HI:=aI h;have HB:=aI hb;clear h hb;have HL:=Hi (tS_len L (fun p hp=>HB.out p hp));go_enter func56,ntmps56;go_wp2
 go_loopw [3,4,5] (fun s i _ wr=>∃k:Nat,k<=L.length/\i=Y I k/\s=aM (tS L k)/\Hid (Below w.heap.size w wr)) (fun _ i _ _=>L.length - (intOf i).toNat)
 case atStart=>exact⟨0,nz,rfl,rfl,br⟩
 case round=>
  obtain⟨k,hk,rfl,rfl,hB⟩:=hrel;by_cases hlt:k<L.length
  ·obtain⟨b,off,rfl,hlb,c0,c1,c2⟩:=HI.out k hlt;have d0:=aB hB.out c0;have d1:=aB hB.out c1;have d2:=aB hB.out c2;have HST:=aI (tS_step L k hlt);have hS:=HL.out k hk;have hp:=HB.out (L.getD k (0,0,0)) (by simp[List.getD,hlt]);have i1:(k:Int)<(L.length:Int):=om;clear c0 c1 c2 HL HB HI;obtain⟨⟨kd,n,j⟩,hP⟩:=nm (L.getD k (0,0,0));rw[<-hP]at d0 d1 d2 HST hp;clear hP;simp only at d0 d1 d2 hp;have C1:Hid (∀w:World,Calls _ 9 _ w fun e w'=>e=rt (aM (cL n))/\Below _ w w'):=fun w=>gY _ om om w
   have C2:Hid (∀w:World,Calls _ 9 _ w fun e w'=>e=rt (aM (cL j))/\Below _ w w'):=fun w=>gY _ om om w
   have KS:Hid (∀w',Below _ wr w'->w'.cell? _=M _/\w'.cell? _=M _/\Hid _):=fun w' hb=>⟨aB hb d1,aB hb d2,hb⟩
   have ln:=lQ n hp.1;have lj:=lQ j hp.2;obtain⟨N,hN⟩:=nm (cL (n:Int));obtain⟨K,hK⟩:=nm (cL (j:Int));rw[<-hN]at C1 ln;rw[<-hK]at C2 lj;have HNN:=Hi hN.symm;have HKK:=Hi hK.symm;clear hN hK;by_cases hz:k=0
   ·have i2:¬(0:Int)<(k:Int):=om;have e0:tS L k=[]:=by rw[hz];rfl
    rw[e0];clear e0;have HSS:=Hi trivial;have HZ:=aI hz;have i2d:¬0<k:=om;clear hz i2;by_cases hkd:kd=2
    focus
     subst hkd;obtain⟨T1,T2,T3,T4,T5,T6,f1,f2,f3,f4,f5,f6,e5,e6⟩:=cats [] [119,114,105,116,101] N K (by simp;omega);have E5:=aI e5;have E6:=aI e6
     have HT:Hid (tS L (k+1)=if k+1<L.length then []++[119,114,105,116,101]++[32]++N++[32]++K++[59] else []++[119,114,105,116,101]++[32]++N++[32]++K):=by
      show _=_;rw[HST.out];by_cases hl1:k+1<L.length
      ·rw[if_pos hl1,if_pos hl1];simp[dO,HNN.out,HKK.out,rdW,wrW,HZ.out,HSS.out]
      ·rw[if_neg hl1,if_neg hl1];simp[dO,HNN.out,HKK.out,rdW,wrW,HZ.out,HSS.out]
    rotate_left
    focus
     have i4:¬(kd:Int)=2:=om;obtain⟨T1,T2,T3,T4,T5,T6,f1,f2,f3,f4,f5,f6,e5,e6⟩:=cats [] [114,101,97,100] N K (by simp;omega);have E5:=aI e5;have E6:=aI e6
     have HT:Hid (tS L (k+1)=if k+1<L.length then []++[114,101,97,100]++[32]++N++[32]++K++[59] else []++[114,101,97,100]++[32]++N++[32]++K):=by
      show _=_;rw[HST.out];by_cases hl1:k+1<L.length
      ·rw[if_pos hl1,if_pos hl1];simp[dO,HNN.out,HKK.out,rdW,wrW,HZ.out,HSS.out,hkd]
      ·rw[if_neg hl1,if_neg hl1];simp[dO,HNN.out,HKK.out,rdW,wrW,HZ.out,HSS.out,hkd]
    rotate_left
    all_goals
     clear e5 e6 HST HNN HKK;unfold aM at *;exact ug
   ·have i2:(0:Int)<(k:Int):=om;obtain⟨S,hSe⟩:=nm (tS L k);have HSS:=Hi hSe.symm;rw[<-hSe]at hS ⊢;clear hSe;by_cases hkd:kd=2
    focus
     subst hkd;obtain⟨T1,T2,T3,T4,T5,T6,f1,f2,f3,f4,f5,f6,e5,e6⟩:=cats (S++[32]) [119,114,105,116,101] N K (by simp;omega);have E5:=aI e5;have E6:=aI e6
     have HT:Hid (tS L (k+1)=if k+1<L.length then (S++[32])++[119,114,105,116,101]++[32]++N++[32]++K++[59] else (S++[32])++[119,114,105,116,101]++[32]++N++[32]++K):=by
      show _=_;rw[HST.out];by_cases hl1:k+1<L.length
      ·rw[if_pos hl1,if_pos hl1];simp[dO,HNN.out,HKK.out,rdW,wrW,hz,HSS.out]
      ·rw[if_neg hl1,if_neg hl1];simp[dO,HNN.out,HKK.out,rdW,wrW,hz,HSS.out]
    rotate_left
    focus
     have i4:¬(kd:Int)=2:=om;obtain⟨T1,T2,T3,T4,T5,T6,f1,f2,f3,f4,f5,f6,e5,e6⟩:=cats (S++[32]) [114,101,97,100] N K (by simp;omega);have E5:=aI e5;have E6:=aI e6
     have HT:Hid (tS L (k+1)=if k+1<L.length then (S++[32])++[114,101,97,100]++[32]++N++[32]++K++[59] else (S++[32])++[114,101,97,100]++[32]++N++[32]++K):=by
      show _=_;rw[HST.out];by_cases hl1:k+1<L.length
      ·rw[if_pos hl1,if_pos hl1];simp[dO,HNN.out,HKK.out,rdW,wrW,hz,HSS.out,hkd]
      ·rw[if_neg hl1,if_neg hl1];simp[dO,HNN.out,HKK.out,rdW,wrW,hz,HSS.out,hkd]
    rotate_left
    all_goals
     clear e5 e6 HST HNN HKK;have f0:=sU S [32] (by simp;omega);unfold aM at *;generalize ByteArray.mk (S++[32]).toArray=Yy at *;generalize hSB:ByteArray.mk S.toArray=SB at *;clear hSB;exact ug
  ·have hkk:k=L.length:=om;have HE:=aI (tS_end L);subst hkk;go_wp2;go_ret;exact⟨by rw[<-HE.out];rfl,hB.out⟩
end Go.Proofs.YtcgpkonfneofdaaGreatDoor
