/- The law DeskPlays of the document (promises M1, M2) returns true at every input that its statement admits:
  Play answers just what the document says, errors too, whatever it is handed (DeskPlays).
  Conditions: the library's variables that the row lists are as the program's text lays them (the card ties them); none beyond the form's own besides.
-/
import Derived.Test.YtcgpkonfneofdaaGreatDoorQGvD
import Derived.Test.YtcgpkonfneofdaaGreatDoorQDk8
import Derived.ChangeMaps5
import Derived.SizedLaws
import Derived.SevenTiedAt
import Derived.Test.YtcgpkonfneofdaaGreatDoorCards
import Derived.Test.YtcgpkonfneofdaaGreatDoorTie
set_option maxRecDepth 100000
set_option maxHeartbeats 8000000
namespace Go.Proofs.YtcgpkonfneofdaaGreatDoor
open Go.RowKit Go.Proofs.Tryz
open Go.Value renaming slice->J,int->Y,bool->bo,pointer->pd,agg->ag,tuple->tu,string->sg,iface->fc
open Go.IntKind renaming i64->I
open Go.Obj renaming cells->U
open Go.Ending renaming returned->rt,panicked->pg
open Option renaming some->M,none->Q
variable {x y:List UInt8} {p:Prop} {a:Option Addr} {m:Int}
section
section
variable (P:Nat) (sh:Nat) (la:Option Addr) (lc:Nat) (l:List TxA) (ba:Option Addr) (bc:Nat) (bg:List Int) (q:Q4) (S:SA) (w:World)
theorem given_put (x:List UInt8) (hx:x.length<=4096) (a b:List UInt8) (hn:eT 32 x=[[112,117,116],a,b]) (h:Dek P (sh:Int) la lc l ba bc bg q S w) (hk:Dsk (sh:Int) l bg S):Calls prog 25 #[pd (M ⟨P,0,Q⟩),aM x] w fun e w'=>oU P (sh:Int) la lc l w (match bJ (sh:Int) l bg S [112,117,116] a b with | .ok p=>p | .error z=>([101,114,114,111,114,32]++cL z,bg,S)) e w':=by
 have hst:=hk.st
 have fin:∀{z:Int} {e:Ending} {w':World},bJ (sh:Int) l bg S [112,117,116] a b=.error z->e=rt _/\Below w.heap.size w w'->oU P (sh:Int) la lc l w (match bJ (sh:Int) l bg S [112,117,116] a b with | .ok p=>p | .error z=>([101,114,114,111,114,32]++cL z,bg,S)) e w':=fun he hp=>by
  rw[he];exact eC h hp.1 hp.2
 cases ha:cG a with
 | none=>
  have e:bJ (sh:Int) l bg S [112,117,116] a b=.error 1:=by
   have h1:dJ a=Q:=by unfold dJ;rw[ha];rfl
   unfold bJ;rw[if_pos rfl,h1]
  exact(gv_put_bad1 P x hx a b hn ha w).mono fun _ _ hp=>fin e hp
 | some n=>
  cases hb:cG b with
  | none=>
   have e:bJ (sh:Int) l bg S [112,117,116] a b=.error 1:=by
    have h1:=hb;unfold bJ;rw[if_pos rfl,h1]
    cases dJ a <;> rfl
   exact(gv_put_bad2 P x hx a b hn n ha hb w).mono fun _ _ hp=>fin e hp
  | some k=>
   by_cases h0:n<0
   ·have e:bJ (sh:Int) l bg S [112,117,116] a b=.error 1:=by
     have h1:dJ a=Q:=by unfold dJ;rw[ha];exact if_pos h0
     unfold bJ;rw[if_pos rfl,h1]
    exact(gv_put_bad3 P x hx a b hn n k ha hb h0 w).mono fun _ _ hp=>fin e hp
   ·have h1:dJ a=M n:=by unfold dJ;rw[ha];exact if_neg h0
    obtain⟨n',rfl⟩:∃n':Nat,n=(n':Int):=⟨n.toNat,by omega⟩;by_cases h8:8<=n'
    ·have e:bJ (sh:Int) l bg S [112,117,116] a b=.error 3:=by
      unfold bJ;rw[if_pos rfl,h1,hb];exact if_pos om
     exact(gv_put_range P x hx a b hn n' k ha hb h8 w).mono fun _ _ hp=>fin e hp
    ·have e:bJ (sh:Int) l bg S [112,117,116] a b=.ok ([111,107],S.st.set n' k,cA (sh:Int) l (S.st.set n' k)):=by
      unfold bJ;rw[if_pos rfl,h1,hb];exact if_neg om
     rw[e];exact gv_put_ok P sh la lc l ba bc bg q S w x hx a b hn n' k ha hb om h hst hk.pe
theorem given_read (x:List UInt8) (hx:x.length<=4096) (a b:List UInt8) (hn:eT 32 x=[[114,101,97,100],a,b]) (h:Dek P (sh:Int) la lc l ba bc bg q S w) (hk:Dsk (sh:Int) l bg S):Calls prog 25 #[pd (M ⟨P,0,Q⟩),aM x] w fun e w'=>oU P (sh:Int) la lc l w (match bJ (sh:Int) l bg S [114,101,97,100] a b with | .ok p=>p | .error z=>([101,114,114,111,114,32]++cL z,bg,S)) e w':=by
 have hst:=hk.st
 have fin:∀{z:Int} {e:Ending} {w':World},bJ (sh:Int) l bg S [114,101,97,100] a b=.error z->e=rt _/\Below w.heap.size w w'->oU P (sh:Int) la lc l w (match bJ (sh:Int) l bg S [114,101,97,100] a b with | .ok p=>p | .error z=>([101,114,114,111,114,32]++cL z,bg,S)) e w':=fun he hp=>by
  rw[he];exact eC h hp.1 hp.2
 cases ha:cG a with
 | none=>
  have e:bJ (sh:Int) l bg S [114,101,97,100] a b=.error 1:=by
   have h1:dJ a=Q:=by unfold dJ;rw[ha];rfl
   unfold bJ;rw[if_neg dc,if_pos rfl,h1]
  exact(gv_read_bad1 P x hx a b hn ha w).mono fun _ _ hp=>fin e hp
 | some n=>
  cases hb:cG b with
  | none=>
   have e:bJ (sh:Int) l bg S [114,101,97,100] a b=.error 1:=by
    have h1:dJ b=Q:=by unfold dJ;rw[hb];rfl
    unfold bJ;rw[if_neg dc,if_pos rfl,h1]
    cases dJ a <;> rfl
   exact(gv_read_bad2 P x hx a b hn n ha hb w).mono fun _ _ hp=>fin e hp
  | some k=>
   by_cases h0:n<0
   ·have e:bJ (sh:Int) l bg S [114,101,97,100] a b=.error 1:=by
     have h1:dJ a=Q:=by unfold dJ;rw[ha];exact if_pos h0
     unfold bJ;rw[if_neg dc,if_pos rfl,h1]
    exact(gv_read_bad3 P x hx a b hn n k ha hb h0 w).mono fun _ _ hp=>fin e hp
   ·have h1:dJ a=M n:=by unfold dJ;rw[ha];exact if_neg h0
    by_cases hk0:k<0
    ·have e:bJ (sh:Int) l bg S [114,101,97,100] a b=.error 1:=by
      have h2:dJ b=Q:=by unfold dJ;rw[hb];exact if_pos hk0
      unfold bJ;rw[if_neg dc,if_pos rfl,h1,h2]
     exact(gv_read_bad4 P x hx a b hn n k ha hb h0 hk0 w).mono fun _ _ hp=>fin e hp
    ·have h2:dJ b=M k:=by unfold dJ;rw[hb];exact if_neg hk0
     by_cases hd:gM (sh:Int) l S 1 n k=0
     ·have e:bJ (sh:Int) l bg S [114,101,97,100] a b=.ok ([111,107],bg,lU (sh:Int) l S 1 n k):=by
       unfold bJ;rw[if_neg dc,if_pos rfl,h1,h2];exact if_pos hd
      rw[e];exact gv_read_ok P sh la lc l ba bc bg q S w x hx a b hn n k ha hb h0 hk0 h hst hd
     ·have e:bJ (sh:Int) l bg S [114,101,97,100] a b=.error (gM (sh:Int) l S 1 n k):=by
       unfold bJ;rw[if_neg dc,if_pos rfl,h1,h2];exact if_neg hd
      exact(gv_read_err P sh la lc l ba bc bg q S w x hx a b hn n k ha hb h0 hk0 h hst hd).mono fun _ _ hp=>fin e hp
theorem given_write (x:List UInt8) (hx:x.length<=4096) (a b:List UInt8) (hn:eT 32 x=[[119,114,105,116,101],a,b]) (h:Dek P (sh:Int) la lc l ba bc bg q S w) (hk:Dsk (sh:Int) l bg S):Calls prog 25 #[pd (M ⟨P,0,Q⟩),aM x] w fun e w'=>oU P (sh:Int) la lc l w (match bJ (sh:Int) l bg S [119,114,105,116,101] a b with | .ok p=>p | .error z=>([101,114,114,111,114,32]++cL z,bg,S)) e w':=by
 have hst:=hk.st
 have fin:∀{z:Int} {e:Ending} {w':World},bJ (sh:Int) l bg S [119,114,105,116,101] a b=.error z->e=rt _/\Below w.heap.size w w'->oU P (sh:Int) la lc l w (match bJ (sh:Int) l bg S [119,114,105,116,101] a b with | .ok p=>p | .error z=>([101,114,114,111,114,32]++cL z,bg,S)) e w':=fun he hp=>by
  rw[he];exact eC h hp.1 hp.2
 cases ha:cG a with
 | none=>
  have e:bJ (sh:Int) l bg S [119,114,105,116,101] a b=.error 1:=by
   have h1:dJ a=Q:=by unfold dJ;rw[ha];rfl
   unfold bJ;rw[if_neg dc,if_neg dc,if_pos rfl,h1]
  exact(zF P x hx a b hn ha w).mono fun _ _ hp=>fin e hp
 | some n=>
  cases hb:cG b with
  | none=>
   have e:bJ (sh:Int) l bg S [119,114,105,116,101] a b=.error 1:=by
    have h1:dJ b=Q:=by unfold dJ;rw[hb];rfl
    unfold bJ;rw[if_neg dc,if_neg dc,if_pos rfl,h1]
    cases dJ a <;> rfl
   exact(zE P x hx a b hn n ha hb w).mono fun _ _ hp=>fin e hp
  | some k=>
   by_cases h0:n<0
   ·have e:bJ (sh:Int) l bg S [119,114,105,116,101] a b=.error 1:=by
     have h1:dJ a=Q:=by unfold dJ;rw[ha];exact if_pos h0
     unfold bJ;rw[if_neg dc,if_neg dc,if_pos rfl,h1]
    exact(zD P x hx a b hn n k ha hb h0 w).mono fun _ _ hp=>fin e hp
   ·have h1:dJ a=M n:=by unfold dJ;rw[ha];exact if_neg h0
    by_cases hk0:k<0
    ·have e:bJ (sh:Int) l bg S [119,114,105,116,101] a b=.error 1:=by
      have h2:dJ b=Q:=by unfold dJ;rw[hb];exact if_pos hk0
      unfold bJ;rw[if_neg dc,if_neg dc,if_pos rfl,h1,h2]
     exact(zC P x hx a b hn n k ha hb h0 hk0 w).mono fun _ _ hp=>fin e hp
    ·have h2:dJ b=M k:=by unfold dJ;rw[hb];exact if_neg hk0
     by_cases hd:gM (sh:Int) l S 2 n k=0
     ·have e:bJ (sh:Int) l bg S [119,114,105,116,101] a b=.ok ([111,107],bg,lU (sh:Int) l S 2 n k):=by
       unfold bJ;rw[if_neg dc,if_neg dc,if_pos rfl,h1,h2];exact if_pos hd
      rw[e];exact gv_write_ok P sh la lc l ba bc bg q S w x hx a b hn n k ha hb h0 hk0 h hst hd
     ·have e:bJ (sh:Int) l bg S [119,114,105,116,101] a b=.error (gM (sh:Int) l S 2 n k):=by
       unfold bJ;rw[if_neg dc,if_neg dc,if_pos rfl,h1,h2];exact if_neg hd
      exact(gv_write_err P sh la lc l ba bc bg q S w x hx a b hn n k ha hb h0 hk0 h hst hd).mono fun _ _ hp=>fin e hp
theorem given_one (x:List UInt8) (hx:x.length<=4096) (hn:eT 32 x=[x]) (h:Dek P (sh:Int) la lc l ba bc bg q S w) (hk:Dsk (sh:Int) l bg S):Calls prog 25 #[pd (M ⟨P,0,Q⟩),aM x] w fun e w'=>oU P (sh:Int) la lc l w (match (eU (sh:Int) l bg S x).map (fun p=>(p.1,bg,p.2)) with | .ok p=>p | .error z=>([101,114,114,111,114,32]++cL z,bg,S)) e w':=by
 have hst:=hk.st;by_cases h1:x=[99,97,110]
 ·subst h1;have e:eU (sh:Int) l bg S [99,97,110]=.ok (if lY (sh:Int) l S=true then [111,118,101,114] else fO _,S):=if_pos rfl;rw[e]
  cases ho:lY (sh:Int) l S with
  | true=>exact(gvCan_over P sh la lc l ba bc bg q S w h hk.pe hst ho).mono fun _ _ hp=>eC h hp.1 hp.2
  | false=>exact(gvCan_steps P sh la lc l ba bc bg q S w h hk.pe hst ho).mono fun _ _ hp=>eC h hp.1 hp.2
 by_cases h2:x=[115,116,111,114,101]
 ·subst h2;have e:eU (sh:Int) l bg S [115,116,111,114,101]=.ok (oW S.st,S):=by rw[eU,if_neg h1,if_pos rfl]
  rw[e];exact(gvStore P sh la lc l ba bc bg q S w h hk.pe hst hk.si).mono fun _ _ hp=>eC h hp.1 hp.2
 by_cases h3:x=[114,101,115,116]
 ·subst h3;have e:eU (sh:Int) l bg S [114,101,115,116]=.ok (cL (rN (sh:Int) l S:Nat),itr (sh:Int) l S (rN (sh:Int) l S)):=by rw[eU,if_neg h1,if_neg h2,if_pos rfl]
  rw[e];exact gvRest P sh la lc l ba bc bg q S w h hk.pe hst (itr (sh:Int) l S) (rN (sh:Int) l S) rfl hk.rest.1
 by_cases h4:x=[97,117,100,105,116]
 ·subst h4;by_cases hr:lD (sh:Int) l S=0
  ·have e:eU (sh:Int) l bg S [97,117,100,105,116]=.ok (cL (jE bg l S.st (iV (sh:Int) l S)),S):=by rw[eU,if_neg h1,if_neg h2,if_neg h3,if_pos rfl,if_pos hr]
   rw[e];exact(gvAudit_ok P sh la lc l ba bc bg q S w h hk.pe hst hr).mono fun _ _ hp=>eC h hp.1 hp.2
  ·have e:eU (sh:Int) l bg S [97,117,100,105,116]=.error (lD (sh:Int) l S):=by rw[eU,if_neg h1,if_neg h2,if_neg h3,if_pos rfl,if_neg hr]
   rw[e];exact(gvAudit_bad P sh la lc l ba bc bg q S w h hk.pe hst hr).mono fun _ _ hp=>eC h hp.1 hp.2
 ·have e:eU (sh:Int) l bg S x=.error 1:=by rw[eU,if_neg h1,if_neg h2,if_neg h3,if_neg h4]
  rw[e];exact(gvNone1 P x hx 1 (by rw[hn];rfl) dc h1 h2 h3 h4 w).mono fun _ _ hp=>eC h hp.1 hp.2
theorem spl_one {c:UInt8} (h:eT c x=[y]):y=x:=by
 have h1:=oX c x;rw[h]at h1;have h2:x.count c=0:=by simpa using h1.symm
 have h3:=mG (List.count_eq_zero.1 h2);rw[h]at h3;injection h3
theorem wO {z:List UInt8} {r:List (List UInt8)} (h:eT 32 x=y::z::r):¬x=[99,97,110]/\¬x=[115,116,111,114,101]/\¬x=[114,101,115,116]/\¬x=[97,117,100,105,116]:=by
 have h1:=oX 32 x;rw[h]at h1;refine⟨?_,?_,?_,?_⟩ <;> (rintro rfl;simp at h1)
theorem docGiven (x:List UInt8) (hx:x.length<=4096) (h:Dek P (sh:Int) la lc l ba bc bg q S w) (hk:Dsk (sh:Int) l bg S):Calls prog 25 #[pd (M ⟨P,0,Q⟩),aM x] w fun e w'=>oU P (sh:Int) la lc l w (jF (sh:Int) l bg S x) e w':=by
 obtain⟨wd,xs,hsp⟩:∃wd xs,eT 32 x=wd::xs:=by
  cases hs:eT 32 x with
  | nil=>exact absurd hs (spl_ne 32 x)
  | cons a t=>exact⟨a,t,rfl⟩
 have eA:jF (sh:Int) l bg S x=(match vE (sh:Int) l bg S wd xs with | .ok p=>p | .error z=>([101,114,114,111,114,32]++cL z,bg,S)):=by
  unfold jF;rw[hsp];rfl
 rw[eA]
 match xs,hsp with
 | [],hsp=>
  have:=spl_one hsp;subst this;exact given_one P sh la lc l ba bc bg q S w wd hx hsp h hk
 | [a],hsp=>
  obtain⟨n1,n2,n3,n4⟩:=wO hsp;exact(gvNone1 P x hx 2 (by rw[hsp];rfl) dc n1 n2 n3 n4 w).mono fun _ _ hp=>eC h hp.1 hp.2
 | [a,b],hsp=>
  show Calls _ _ _ _ fun e w'=>oU P (sh:Int) la lc l w (match bJ (sh:Int) l bg S wd a b with | .ok p=>p | .error z=>([101,114,114,111,114,32]++cL z,bg,S)) e w'
  by_cases h1:wd=[112,117,116]
  ·subst h1;exact given_put P sh la lc l ba bc bg q S w x hx a b hsp h hk
  by_cases h2:wd=[114,101,97,100]
  ·subst h2;exact given_read P sh la lc l ba bc bg q S w x hx a b hsp h hk
  by_cases h3:wd=[119,114,105,116,101]
  ·subst h3;exact given_write P sh la lc l ba bc bg q S w x hx a b hsp h hk
  obtain⟨n1,n2,n3,n4⟩:=wO hsp;have e:bJ (sh:Int) l bg S wd a b=.error 1:=by rw[bJ,if_neg h1,if_neg h2,if_neg h3]
  rw[e];exact(gvNone3 P x hx wd a b hsp h1 h2 h3 n1 n2 n3 n4 w).mono fun _ _ hp=>eC h hp.1 hp.2
 | a::b::c::r,hsp=>
  obtain⟨n1,n2,n3,n4⟩:=wO hsp;exact(gvNone1 P x hx (r.length+4) (by rw[hsp];simp) om n1 n2 n3 n4 w).mono fun _ _ hp=>eC h hp.1 hp.2
end
end
theorem uv (h:p:=by
 have j2:(n:Int)<=40:=om;have x1:=HIX.out k hlt;have HS1:=aI (HST.out hlt);clear HST HTL HLE;by_cases h10:t.getD k 0=10
 ·rw[h10]at x1
  have HS2:Hid (n+1=(t.take (k+1)).count 10):=by
   show _=_;rw[HS1.out,if_pos h10]
  clear h10 HS1;go_wp2;go_round
  case rel=>exact⟨k+1,by omega,by go_num,by rw[<-HS2.out];go_num,by rw[<-HS2.out];omega⟩
  case measure=>simp[intOf];omega
 ·have i3:¬(((t.getD k 0).toNat:Nat):Int)=10:=fun e=>h10 (UInt8.toNat_inj.1 (by simpa using Int.ofNat_inj.1 e))
  have HS2:Hid (n=(t.take (k+1)).count 10):=by
   show _=_;rw[HS1.out,if_neg h10];rfl
  generalize (t.getD k 0).toNat=B at *;have i3b:((B:Int)==10)=false:=by simpa using i3
  clear h10 HS1 i3;go_wp2;go_round
  case rel=>exact⟨k+1,by omega,by go_num,by rw[<-HS2.out],by rw[<-HS2.out];omega⟩
  case measure=>simp[intOf];omega):p:=h
theorem zz (h:p:=by
 go_wp2;go_ret2;exact⟨by rw[HE.out];rfl,BW.out⟩):p:=h
theorem Ud (h:p:=by
 have e:t.take (k+1)=t.take k++[t.getD k 0]:=by
  rw[lp hlt];simp[List.getD,hlt]
 rw[e,List.count_append,List.count_singleton];simp):p:=h
theorem doc_res {b:ByteArray} (hB:Byt (eI b)) (h:b.size<=4096):mR (eI b)=fR (eI b):=by
 have hl:=jJ b;unfold fR;rw[if_neg om,doc_same hB]
theorem script_long (b:ByteArray) (t:List UInt8) (w:World) (h:4096<b.size) (hb:b.size<=9223372036854775807):Kr 6 #[sg b,sg ⟨t.toArray⟩] w (tu #[sg ⟨#[]⟩,Y I 2]):=by
 have i1:(4096:Int)<(b.size:Int):=om;generalize ByteArray.mk t.toArray=T at *;go_enter func6,ntmps6;go_wp2;go_ret2;exact⟨rfl,br⟩
theorem script_form (b:ByteArray) (t:List UInt8) (w:World) (h:b.size<=4096) (hd:mR (eI b)=Q):Kr 6 #[sg b,sg ⟨t.toArray⟩] w (tu #[sg ⟨#[]⟩,Y I 1]):=by
 have i1:¬(4096:Int)<(b.size:Int):=om
 have CF:Hid (Calls prog 23 _ w fun e w'=>e=rt _/\Below w.heap.size w w'):=(oO b w).mono (by
  rintro e w' ⟨hb,ho⟩;unfold nN at ho;rw[hd]at ho;exact⟨ho,hb⟩)
 generalize ByteArray.mk t.toArray=T at *;go_enter func6,ntmps6
 go_wp2_with fail
 refine CF.out.mono ?_;rintro e w1 ⟨rfl,hb1⟩;have B1:=aI hb1;clear hb1 CF;go_wp2;go_ret2;refine⟨rfl,?_⟩
 repeat (first | exact B1.out | refine aG ?_ B1.out.size _ | refine aA ?_ _)
theorem script_err (b:ByteArray) (t:List UInt8) (p:Int×List iG) (w:World) (h:b.size<=4096) (htl:t.length<=1000000000000000000) (hd:mR (eI b)=M p) (he:¬aH [dW t,kB t]=0):Kr 6 #[sg b,sg ⟨t.toArray⟩] w (tu #[sg ⟨#[]⟩,Y I (aH [dW t,kB t])]):=by
 have i1:¬(4096:Int)<(b.size:Int):=om
 have CF:Hid (Calls prog 23 _ w fun e w'=>∃(a:Option Addr) (cl:List TxA) (c:Nat),e=rt _/\Hid (IsTxs w' a cl)/\Hid _/\Below w.heap.size w w'):=(oO b w).mono (by
  rintro e w' ⟨hb,ho⟩;unfold nN at ho;rw[hd]at ho;obtain⟨a,cl,c,h1,h2,h3⟩:=ho;exact⟨a,cl,c,h1,h2,h3,hb⟩)
 have hsz:(ByteArray.mk t.toArray).size=t.length:=by show t.toArray.size=_;simp
 have HIX:=Hi (rS t);generalize ByteArray.mk t.toArray=T at *;go_enter func6,ntmps6
 go_wp2_with fail
 refine CF.out.mono ?_;rintro e w1 ⟨la,l,lc,rfl,HL1,HCR,hb1⟩;clear CF hd
 go_upto_region 6 with fail
 obtain⟨W,hWe⟩:=nm ((w1.alloc (U #[Y I p.1,J la l.length lc] 29)));have BX:Hid (Below w1.heap.size w1 W):=by subst hWe;exact aA br _
 have q0:W.cell? ⟨w1.heap.size,0,Q⟩=Y I p.1:=by
  subst hWe;exact aF w1 _ 29 _ 0 _ rfl rfl
 have BW:=Hi (aC hb1 BX.out);rw[<-hWe];clear hWe hb1 HL1 BX;go_wp2
 go_loop [8,9] (fun c i=>∃k:Nat,k<=t.length/\i=Y I (k:Nat)/\c=Y I ((t.take k).count 10:Nat)/\(t.take k).count 10<=41) (fun _ i=>t.length - (intOf i).toNat)
 case atStart=>exact⟨0,nz,rfl,by simp,by simp⟩
 case round=>
  obtain⟨k,hk,rfl,rfl,hc41⟩:=hrel
  have HST:Hid (k<t.length->(t.take _).count 10=(t.take k).count 10+if t.getD k 0=10 then 1 else 0):=fun hlt=>by
   exact Ud
  have HTL:Hid (k=t.length->(t.take k).count 10=t.count 10):=fun h=>by rw[h,ld]
  have HLE:=Hi ((List.take_sublist k t).count_le 10);obtain⟨n,hn⟩:=nm ((t.take k).count 10);rw[<-hn]at HST HTL HLE hc41 ⊢;clear hn;by_cases hlt:k<t.length
  ·have j1:(k:Int)<(t.length:Int):=om;by_cases hc:n<=40
   ·exact uv
   ·have j2:¬(n:Int)<=40:=om;have j3:(40:Int)<(n:Int):=om
    have HM:Hid (40<t.count 10):=by
     show _<_;have:=HLE.out;omega
    clear HST HTL HLE
    have HE:Hid (aH [dW t,kB t]=2):=by
     show _=_;unfold dW;rw[if_pos (.inr HM.out)];rfl
    by_cases h5:4096<t.length
    ·have j5:(4096:Int)<(t.length:Int):=om;exact zz
    ·have j5:¬(4096:Int)<(t.length:Int):=om;exact zz
  ·have j1:¬(k:Int)<(t.length:Int):=om;have HM:=aI (HTL.out om);clear HST HTL HLE hlt;by_cases h5:4096<t.length
   ·have j5:(4096:Int)<(t.length:Int):=om
    have HE:Hid (aH [dW t,kB t]=2):=by
     show _=_;unfold dW;rw[if_pos (.inl h5)];rfl
    exact zz
   ·have j5:¬(4096:Int)<(t.length:Int):=om;by_cases h6:40<n
    ·have j6:(40:Int)<(n:Int):=om
     have HE:Hid (aH [dW t,kB t]=2):=by
      show _=_;unfold dW;rw[if_pos (.inr (by rw[<-HM.out];exact h6))];rfl
     exact zz
    ·have j6:¬(40:Int)<(n:Int):=om
     have HM0:Hid (dW t=0):=by
      show _=_;unfold dW;exact if_neg (by rw[<-HM.out];omega)
     have HEN:Hid (kB t=1/\t≠[]/\t.getLast?≠M 10):=by
      have h7:=he;rw[HM0.out]at h7;unfold kB at h7 ⊢;split at h7
      ·next h8=>exact⟨if_pos h8,h8.1,h8.2⟩
      ·exact absurd rfl h7
     have HE:Hid (aH [dW t,kB t]=1):=by
      show _=_;rw[HM0.out,HEN.out.1];rfl
     have hpos:=List.length_pos_iff.2 HEN.out.2.1;have j7:(0:Int)<(t.length:Int):=om;have x1:=HIX.out (t.length - 1) om;have e1:(((t.length - 1:Nat):Nat):Int)=(t.length:Int) - 1:=om;rw[e1]at x1
     have i3:¬(((t.getD _ 0).toNat:Nat):Int)=10:=fun e=>HEN.out.2.2 (by
      have h8:t.getD (t.length - 1) 0=10:=UInt8.toNat_inj.1 (by simpa using Int.ofNat_inj.1 e);rw[List.getLast?_eq_getElem?,<-h8,li,wj om];rfl)
     generalize (t.getD (t.length - 1) 0).toNat=B at *;have i3b:((B:Int)==10)=false:=by simpa using i3
     have i3c:((B:Int) != 10)=true:=by simpa using i3
     clear i3 e1 hpos;exact zz
theorem ints_blk {w w':World} {s:List Int} (h:IsInts w a s) (hs:w.heap.size<=w'.heap.size) (hb:∀b,b<w.heap.size->w'.heap[b]?=w.heap[b]?):IsInts w' a s:=fun i hi=>by
 obtain⟨b,off,e,hl,hc⟩:=h i hi;exact⟨b,off,e,nd hl hs,by rw[nu (hb b hl)];exact hc⟩
theorem desk_new {w:World} {la:Option Addr} {lc:Nat} {l:List TxA} {S:SA} {q:Q4} {z lo:Nat} (hl:IsTxs w la l) (hI:IsInts w (M ⟨z,0,Q⟩) z8) (hs:StaF lo S q w) :
  Dek w.heap.size m la lc l (M ⟨z,0,Q⟩) 8 z8 q S (w.alloc (U #[Y I m,J la l.length lc,J (M ⟨z,0,Q⟩) 8 8,J q.sa q.sn q.sc,J q.ra q.rn q.rc,J q.wa q.wn q.tc,J q.va q.vn q.vc] 68)):=by
 have hsz:(w.alloc (U #[Y I m,J la l.length lc,J (M ⟨z,0,Q⟩) 8 8,J q.sa q.sn q.sc,J q.ra q.rn q.rc,J q.wa q.wn q.tc,J q.va q.vn q.vc] 68)).heap.size=w.heap.size+1:=sm;have hb:Below w.heap.size w (w.alloc (U #[Y I m,J la l.length lc,J (M ⟨z,0,Q⟩) 8 8,J q.sa q.sn q.sc,J q.ra q.rn q.rc,J q.wa q.wn q.tc,J q.va q.vn q.vc] 68)):=aA br _;refine⟨⟨?_,?_,?_,?_,?_,?_,?_⟩,fun j=>aU _ _ 68 _ j rfl,fun w' h'=>hl.below ⟨h'.os.trans hb.os,h'.tape.trans hb.tape,h'.output.trans hb.output,nh hb.size h'.size,fun b hl=>?_⟩,fun w' h1 h2=>hs w' (fun b _ hl=>?_) (nh hb.size h1),fun w' h1 h2=>ints_blk hI (nh hb.size h1) (fun b hl=>?_)⟩
 ·exact aF _ _ 68 _ 0 _ rfl rfl
 ·exact aF _ _ 68 _ 1 _ rfl rfl
 ·exact aF _ _ 68 _ 2 _ rfl rfl
 ·exact aF _ _ 68 _ 3 _ rfl rfl
 ·exact aF _ _ 68 _ 4 _ rfl rfl
 ·exact aF _ _ 68 _ 5 _ rfl rfl
 ·exact aF _ _ 68 _ 6 _ rfl rfl
 ·rw[h'.block b (by rw[hsz];omega) (fun e=>by injection e with e;omega),hb.block b hl]
 ·rw[h2 b (by rw[hsz];omega) om,hb.block b hl]
 ·rw[h2 b (by rw[hsz];omega) om,hb.block b hl]
theorem docGivenM {P:Nat} {la:Option Addr} {lc:Nat} {l:List TxA} {ba:Option Addr} {bc:Nat} {bg:List Int} {q:Q4} {S:SA} {w:World} (x:List UInt8) (hx:x.length<=4096) (h:Dek P m la lc l ba bc bg q S w) (hk:Dsk m l bg S):Calls prog 25 #[pd (M ⟨P,0,Q⟩),aM x] w fun e w'=>oU P m la lc l w (jF m l bg S x) e w':=by
 obtain⟨sh,rfl,_⟩:=aZ hk.st;exact docGiven P sh la lc l ba bc bg q S w x hx h hk
theorem cut_lines {t:List UInt8} {f:Nat} {ws:List (List UInt8)} (h:Cut 10 t t.length f ws):ws=(eT 10 t).dropLast:=by
 obtain⟨h1,h2⟩:=h.mid nr;have e:(t.drop f).take _=t.drop f:=le (by rw[List.length_drop];exact nr);rw[e]at h1;rw[h2,mG h1,List.dropLast_concat]
theorem beg24 {la:Option Addr} {lc:Nat} {l:List TxA} {w:World} (hk:Dsk m l z8 (cA m l z8)) (hl:IsTxs w la l) (hI:IsInts w a z8):Calls prog 24 #[ag #[Y I m,J la l.length lc],J a 8 8] w fun e w''=>∃q:Q4,e=rt (ag #[J q.sa q.sn q.sc,J q.ra q.rn q.rc,J q.wa q.wn q.tc,J q.va q.vn q.vc])/\StaF w.heap.size (cA m l z8) q w''/\Below w.heap.size w w'':=by
 obtain⟨sh,rfl,_⟩:=aZ hk.st
 have hb0:jD (sh:Int) l z8=0:=by
  have hl:cP z8=0:=rfl;unfold jD;rw[hk.pe,hl];rfl
 have e1:cA (sh:Int) l z8=jW (sh:Int).toNat l z8:=if_pos hb0;rw[e1,lq];exact sA la lc l a 8 z8 sh w hl hI hk.pe rfl
theorem script_ok (b:ByteArray) (t:List UInt8) (p:Int×List iG) (w:World) (h:b.size<=4096) (hd:mR (eI b)=M p) (hr:jY (eI b)=M p) (he:aH [dW t,kB t]=0):Kr 6 #[sg b,sg ⟨t.toArray⟩] w (tu #[aM (oY p.1 (p.2.map cX) (eT 10 t).dropLast z8 (cA p.1 (p.2.map cX) z8)),Y I 0]):=by
 have HRD:=aI hr
 have htl:t.length<=4096/\t.count 10<=40:=by
  exact UL
 have HLS:Hid (t≠[]->t.getLast?=M 10):=fun h0=>by
  by_cases h1:t.getLast?=M 10
  ·exact h1
  ·have h2:=he;unfold dW kB at h2;rw[if_neg om,if_pos ⟨h0,h1⟩]at h2
   cases h2
 obtain⟨htl,htc⟩:=htl;have hmk:=mk8;clear hr;have i1:¬(4096:Int)<(b.size:Int):=om
 have CF:Hid (Calls prog 23 _ w fun e w'=>∃(a:Option Addr) (cl:List TxA) (c:Nat),e=rt _/\Hid (IsTxs w' a cl)/\Hid _/\Below w.heap.size w w'):=(oO b w).mono (by
  rintro e w' ⟨hb,ho⟩;unfold nN at ho;rw[hd]at ho;obtain⟨a,cl,c,h1,h2,h3⟩:=ho;exact⟨a,cl,c,h1,h2,h3,hb⟩)
 have hsz:(ByteArray.mk t.toArray).size=t.length:=by show t.toArray.size=_;simp
 have HIX:=Hi (rS t);have HSL:=Hi (slc_str t);generalize ByteArray.mk t.toArray=T at *;go_enter func6,ntmps6
 go_wp2_with fail
 refine CF.out.mono ?_;rintro e w1 ⟨la,l,lc,rfl,HL1,HCR,hb1⟩;clear CF hd
 go_upto_region 6 with fail
 obtain⟨W,hWe⟩:=nm ((w1.alloc (U #[Y I p.1,J la l.length lc] 29)));have BX:Hid (Below w1.heap.size w1 W):=by subst hWe;exact aA br _
 have q0:W.cell? ⟨w1.heap.size,0,Q⟩=Y I p.1:=by
  subst hWe;exact aF w1 _ 29 _ 0 _ rfl rfl
 have q1:W.cell? ⟨w1.heap.size,1,Q⟩=J la l.length lc:=by
  subst hWe;exact aF w1 _ 29 _ 1 _ rfl rfl
 have BW:=Hi (aC hb1 BX.out);have HLW:=aI (HL1.out.below BX.out);rw[<-hWe];clear hWe hb1 HL1 BX;go_wp2
 go_loop [8,9] (fun c i=>∃k:Nat,k<=t.length/\i=Y I (k:Nat)/\c=Y I ((t.take k).count 10:Nat)/\(t.take k).count 10<=41) (fun _ i=>t.length - (intOf i).toNat)
 case atStart=>exact⟨0,nz,rfl,by simp,by simp⟩
 case round=>
  obtain⟨k,hk,rfl,rfl,hc41⟩:=hrel
  have HST:Hid (k<t.length->(t.take _).count 10=(t.take k).count 10+if t.getD k 0=10 then 1 else 0):=fun hlt=>by
   exact Ud
  have HTL:Hid (k=t.length->(t.take k).count 10=t.count 10):=fun h=>by rw[h,ld]
  have HLE:=Hi ((List.take_sublist k t).count_le 10);obtain⟨n,hn⟩:=nm ((t.take k).count 10);rw[<-hn]at HST HTL HLE hc41 ⊢;clear hn;by_cases hlt:k<t.length
  ·have j1:(k:Int)<(t.length:Int):=om;by_cases hc:n<=40
   ·exact uv
   ·have j2:¬(n:Int)<=40:=om
    have HM:Hid (40<t.count 10):=by
     show _<_;have:=HLE.out;omega
    clear HST HTL HLE
    exact absurd he (by
     unfold dW;rw[if_pos (.inr HM.out)];exact fun h=>by cases h)
  ·have j1:¬(k:Int)<(t.length:Int):=om;have HM:=aI (HTL.out om);clear HST HTL HLE hlt;have j5:¬(4096:Int)<(t.length:Int):=om;have j6:¬(40:Int)<(n:Int):=by have:=HM.out;omega
   by_cases h0:t=[]
   focus
    have hl0:¬(0:Int)<(t.length:Int):=by rw[h0];decide
    clear h0
    go_upto_region 17 with fail
    have HIV:=Hi (made8 W);have BV:Hid (Below W.heap.size W (W.alloc (U MZ 3))):=aA br _;have HLV:=Hi (HLW.out.below BV.out);have r0:=aB BV.out q0;have r1:=aB BV.out q1;generalize W.alloc (U MZ 3)=V at *;have KS:Hid (∀w',Below V.heap.size V w'->w'.cell? _=M _/\w'.cell? _=M _/\Hid _):=fun w' hb=>⟨aB hb r0,aB hb r1,hb⟩
    have HDSK:=aI (beg_ok (rR b) HRD.out HCR.out);have HSC:=aI (wV HCR.out (eT 10 t).dropLast);have CBG:Hid (∀w',Below V.heap.size V w'->Calls prog 24 #[ag #[Y I p.1,J la l.length lc],J _ 8 8] w' fun e w''=>∃q:Q4,e=rt _/\StaF w'.heap.size _ q w''/\Below w'.heap.size w' w''):=fun w' hb=>beg24 HDSK.out (HLV.out.below hb) (HIV.out.below hb)
    clear r0 r1 HLW;refine wp_region_held_drew (S:=(fun w'=>w'.cell? ⟨w1.heap.size,0,Q⟩=Y I p.1/\w'.cell? ⟨w1.heap.size,1,Q⟩=J la l.length lc/\Hid (Below V.heap.size V w'))) kr ?_ (fun hHeld=>?_)
    ·exact KS.out _ (aD br)
    refine tk 0 ?_;refine tk 1 ?_;refine tk 2 ?_;refine tk 3 ?_;refine r1 4 (fun K hK=>?_);go_simp;obtain⟨q0,q1,hbx⟩:=hHeld
    go_wp2_with (go_at_call 24;refine(CBG.out _ hbx.out).mono ?_;rintro e w2 ⟨q2,rfl,hsf,hb2⟩)
    have B2:=Hi (aC hbx.out hb2);have HSF:=aI hsf;clear q0 q1 hbx hb2 hsf;have hHeld:=trivial;clear hHeld;refine hK.out _ _ (KS.out _ B2.out) (fun hHeld=>?_);clear hK K;refine tk 5 ?_;refine r1 6 (fun K hK=>?_);go_simp;have B3:Hid (Below V.heap.size V (w2.alloc (U #[Y I p.1,J la l.length lc,J (M ⟨W.heap.size,0,Q⟩) 8 8,J q2.sa q2.sn q2.sc,J q2.ra q2.rn q2.rc,J q2.wa q2.wn q2.tc,J q2.va q2.vn q2.vc] 68))):=aA B2.out _;have HD:Hid (Dek w2.heap.size p.1 la lc l _ 8 z8 q2 _ _):=desk_new (HLV.out.below B2.out) (HIV.out.below B2.out) HSF.out;have BF:=Hi (aC (aC BW.out BV.out) B3.out);have hPw:=Hi ((aC (aC BW.out BV.out) B2.out).size);generalize (w2.alloc (U #[Y I p.1,J la l.length lc,J (M ⟨W.heap.size,0,Q⟩) 8 8,J q2.sa q2.sn q2.sc,J q2.ra q2.rn q2.rc,J q2.wa q2.wn q2.tc,J q2.va q2.vn q2.vc] 68))=Uuu at *;generalize w2.heap.size=P at *;clear hHeld;refine hK.out _ _ (KS.out _ B3.out) (fun hHeld=>?_);clear hK K;refine tk 7 ?_;refine wpAnyH_done kr ?_ _;clear hHeld KS CBG HSF B2 HLV HIV BV B3 q0 q1 BW
   rotate_left
   focus
    have hpos:=List.length_pos_iff.2 h0;have j7:(0:Int)<(t.length:Int):=om;have x1:=HIX.out (t.length - 1) om;have e1:(((t.length - 1:Nat):Nat):Int)=(t.length:Int) - 1:=om;rw[e1]at x1
    have h10:t.getD (t.length - 1) 0=10:=by
     have h8:=HLS.out h0;rw[List.getLast?_eq_getElem?,wj om]at h8;rw[li,wj om];injection h8
    rw[h10]at x1;clear e1 hpos h0 h10
    go_upto_region 17 with fail
    have HIV:=Hi (made8 W);have BV:Hid (Below W.heap.size W (W.alloc (U MZ 3))):=aA br _;have HLV:=Hi (HLW.out.below BV.out);have r0:=aB BV.out q0;have r1:=aB BV.out q1;generalize W.alloc (U MZ 3)=V at *;have KS:Hid (∀w',Below V.heap.size V w'->w'.cell? _=M _/\w'.cell? _=M _/\Hid _):=fun w' hb=>⟨aB hb r0,aB hb r1,hb⟩
    have HDSK:=aI (beg_ok (rR b) HRD.out HCR.out);have HSC:=aI (wV HCR.out (eT 10 t).dropLast);have CBG:Hid (∀w',Below V.heap.size V w'->Calls prog 24 #[ag #[Y I p.1,J la l.length lc],J _ 8 8] w' fun e w''=>∃q:Q4,e=rt _/\StaF w'.heap.size _ q w''/\Below w'.heap.size w' w''):=fun w' hb=>beg24 HDSK.out (HLV.out.below hb) (HIV.out.below hb)
    clear r0 r1 HLW;refine wp_region_held_drew (S:=(fun w'=>w'.cell? ⟨w1.heap.size,0,Q⟩=Y I p.1/\w'.cell? ⟨w1.heap.size,1,Q⟩=J la l.length lc/\Hid (Below V.heap.size V w'))) kr ?_ (fun hHeld=>?_)
    ·exact KS.out _ (aD br)
    refine tk 0 ?_;refine tk 1 ?_;refine tk 2 ?_;refine tk 3 ?_;refine r1 4 (fun K hK=>?_);go_simp;obtain⟨q0,q1,hbx⟩:=hHeld
    go_wp2_with (go_at_call 24;refine(CBG.out _ hbx.out).mono ?_;rintro e w2 ⟨q2,rfl,hsf,hb2⟩)
    have B2:=Hi (aC hbx.out hb2);have HSF:=aI hsf;clear q0 q1 hbx hb2 hsf;have hHeld:=trivial;clear hHeld;refine hK.out _ _ (KS.out _ B2.out) (fun hHeld=>?_);clear hK K;refine tk 5 ?_;refine r1 6 (fun K hK=>?_);go_simp;have B3:Hid (Below V.heap.size V (w2.alloc (U #[Y I p.1,J la l.length lc,J (M ⟨W.heap.size,0,Q⟩) 8 8,J q2.sa q2.sn q2.sc,J q2.ra q2.rn q2.rc,J q2.wa q2.wn q2.tc,J q2.va q2.vn q2.vc] 68))):=aA B2.out _;have HD:Hid (Dek w2.heap.size p.1 la lc l _ 8 z8 q2 _ _):=desk_new (HLV.out.below B2.out) (HIV.out.below B2.out) HSF.out;have BF:=Hi (aC (aC BW.out BV.out) B3.out);have hPw:=Hi ((aC (aC BW.out BV.out) B2.out).size);generalize (w2.alloc (U #[Y I p.1,J la l.length lc,J (M ⟨W.heap.size,0,Q⟩) 8 8,J q2.sa q2.sn q2.sc,J q2.ra q2.rn q2.rc,J q2.wa q2.wn q2.tc,J q2.va q2.vn q2.vc] 68))=Uuu at *;generalize w2.heap.size=P at *;clear hHeld;refine hK.out _ _ (KS.out _ B3.out) (fun hHeld=>?_);clear hK K;refine tk 7 ?_;refine wpAnyH_done kr ?_ _;clear hHeld x1 KS CBG HSF B2 HLV HIV BV B3 q0 q1 BW
   rotate_left
   all_goals
    go_wp2
    go_loopw [12,13,14] (fun o f i wr=>∃(k m:Nat) (ws:List (List UInt8)) (ba:Option Addr) (bc:Nat) (q:Q4),k<=t.length/\i=Y I (k:Nat)/\f=Y I (m:Nat)/\o=aM (oY p.1 l ws z8 (cA p.1 l z8))/\Hid (Cut 10 t k m ws)/\Hid (Dek P p.1 la lc l ba bc (gP p.1 l ws (z8,cA p.1 l z8)).1 q (gP p.1 l ws (z8,cA p.1 l z8)).2 wr)/\Hid (Below w.heap.size w wr)) (fun _ _ i _=>t.length - (intOf i).toNat)
    case atStart=>exact⟨0,0,[],_,_,_,nz,rfl,rfl,rfl,Cut.zero 10 t,HD,BF⟩
    case round=>
     clear HD BF;obtain⟨k,m,ws,ba,bc,q,hk,rfl,rfl,rfl,HC,HD,HB⟩:=hrel;have HK:=aI (scrS_ok ws (z8,cA p.1 l z8) HDSK.out);have hlen:=scr_len ws (z8,cA p.1 l z8) HDSK.out;have hwl:ws.length<=4096:=nh HC.out.few om;by_cases hlt:k<t.length
     ·have i1:(k:Int)<(t.length:Int):=om;have x1:=HIX.out k hlt;by_cases hc:t.getD k 0=10
      ·have HC2:=aI (HC.out.cut hlt hc);have x2:=HSL.out m k HC.out.fk om;rw[hc]at x1;have hyl:((t.drop m).take (k - m)).length<=4096:=by rw[l6,List.length_drop];omega
       generalize (t.drop m).take (k - m)=y at *;have CG:=aI (docGivenM y hyl HD.out HK.out);have hal:=HK.out.ans_len y
       have HSA:Hid (letI Z:=gP p.1 l ws (z8,cA p.1 l z8);oY p.1 l (ws++[y]) z8 (cA p.1 l z8)=(oY p.1 l ws z8 (cA p.1 l z8)++(jF p.1 l Z.1 Z.2 y).1)++[10]/\gP p.1 l (ws++[y]) (z8,cA p.1 l z8)=(jF p.1 l Z.1 Z.2 y).2):=by
        refine⟨?_,?_⟩
        ·have:=scr_app p.1 l ws [y] (z8,cA p.1 l z8);rw[this,lu];rfl
        ·rw[wW];rfl
       generalize jF p.1 l (gP p.1 l ws (z8,cA p.1 l z8)).1 (gP p.1 l ws (z8,cA p.1 l z8)).2 y=r at *;have f1:∀w,(Op.stringOp .add ⟨(oY p.1 l ws z8 (cA p.1 l z8)).toArray⟩ ⟨r.1.toArray⟩).run prog w=.ok _ w:=fun w=>run_string_add_lists w _ _ (by simp only at hlen;omega) om
       have f2:∀w,(Op.stringOp .add _ _).run prog w=.ok (sg ⟨(oY p.1 l _ z8 _).toArray⟩) w:=fun w=>by
        rw[HSA.out.1];exact run_string_add_lists w _ _ (by rw[nj];simp only at hlen;omega) dc
       clear hlen hal HC hc hyl HK HD;unfold aM at *;obtain⟨T0,hT0⟩:=nm (ByteArray.mk (oY p.1 l ws z8 (cA p.1 l z8)).toArray);obtain⟨T1,hT1⟩:=nm (ByteArray.mk (oY p.1 l ws z8 (cA p.1 l z8)++r.1).toArray);obtain⟨T2,hT2⟩:=nm (ByteArray.mk (oY p.1 l (ws++[y]) z8 (cA p.1 l z8)).toArray);obtain⟨T3,hT3⟩:=nm (ByteArray.mk r.1.toArray);rw[<-hT0,<-hT3,<-hT1]at f1;rw[<-hT1,<-hT2]at f2;rw[<-hT0];unfold oU aM at CG;rw[<-hT3]at CG;have HT2:=aI hT2;clear hT0 hT1 hT2 hT3
       go_wp2_with fail
       refine CG.out.mono ?_;rintro e w3 ⟨rfl,ba2,bc2,q3,hD3,hg3⟩
       have HD3:Hid (letI Z:=gP p.1 l (ws++[y]) (z8,cA p.1 l z8);Dek P p.1 la lc l ba2 bc2 Z.1 q3 Z.2 w3):=by
        show Dek _ _ _ _ _ _ _ _ _ _ _;rw[HSA.out.2];exact hD3
       have B3:=Hi (HB.out.trans (tN hg3 hPw.out HB.out.size));clear hD3 hg3 CG HSA HB;go_wp2;go_roundw
       case rel=>exact⟨k+1,k+1,ws++[y],ba2,bc2,q3,by omega,by go_num,by go_num,by rw[HT2.out],HC2,HD3,B3⟩
       case measure=>simp[intOf];omega
      ·have HC2:=aI (HC.out.on hlt hc);have i3:¬(((t.getD k 0).toNat:Nat):Int)=10:=fun e=>hc (UInt8.toNat_inj.1 (by simpa using Int.ofNat_inj.1 e))
       generalize (t.getD k 0).toNat=B at *;have i3b:((B:Int)==10)=false:=by simpa using i3
       clear HC hc i3 hlen HK;go_wp2;go_roundw
       case rel=>exact⟨k+1,m,ws,ba,bc,q,by omega,by go_num,rfl,rfl,HC2,HD,HB⟩
       case measure=>simp[intOf];omega
     ·have hkk:k=t.length:=om;have i1:¬(k:Int)<(t.length:Int):=om
      have HW:Hid (ws=(eT 10 t).dropLast):=by
       have h7:=HC.out;rw[hkk]at h7;exact cut_lines h7
      clear HC HD HK hlen hkk;go_wp2;go_ret2;exact⟨by rw[HSC.out,<-HW.out];rfl,HB.out⟩
theorem script_any (b:ByteArray) (t:List UInt8) (w:World) (hb:b.size<=9223372036854775807) (htl:t.length<=1000000000000000000) :
  Kr 6 #[sg b,aM t] w (tu #[aM (nB b t),Y I (qL b t)]):=by
 by_cases h:4096<b.size
 ·have hr:fR (eI b)=Q:=by unfold fR;rw[if_pos (by rw[jJ];exact h)]
  have e1:qL b t=2:=by unfold qL;rw[hr];unfold rdE;rw[if_pos (by rw[jJ];exact h)]
  have e2:nB b t=[]:=by unfold nB;rw[hr]
  rw[e1,e2];exact script_long b t w h hb
 ·have hd:=doc_res (b:=b) (rR b) om
  cases hr:fR (eI b) with
  | none=>
   rw[hr]at hd
   have e1:qL b t=1:=by
    have hk:jY (eI b)=Q:=by
     unfold fR at hr;rw[if_neg (by rw[jJ];exact h)]at hr;exact hr
    unfold qL;rw[hr];unfold rdE;rw[if_neg (by rw[jJ];exact h),hk];rfl
   have e2:nB b t=[]:=by unfold nB;rw[hr]
   rw[e1,e2];exact script_form b t w om hd
  | some p=>
   rw[hr]at hd;have e1:qL b t=aH [dW t,kB t]:=by unfold qL;rw[hr]
   by_cases he:aH [dW t,kB t]=0
   ·have e2:nB b t=oY p.1 (p.2.map cX) (eT 10 t).dropLast z8 (cA p.1 (p.2.map cX) z8):=by unfold nB;rw[hr];exact if_pos he
    rw[e1,e2,he];exact script_ok b t p w om hd (rd_good hr).2.1 he
   ·have e2:nB b t=[]:=by unfold nB;rw[hr];exact if_neg he
    rw[e1,e2];exact script_err b t p w om htl hd he
theorem zM (b:ByteArray) (t:List UInt8) (w:World) (hb:b.size<=9223372036854775807) (htl:t.length<=1000000000000000000) (hs:Std w) :
  Kr 3 #[sg b,aM t] w (bo true):=by
 have S0:=aI hs;have C1:=aI (play_any b t w om hs);have C2:=aI (fun w=>script_any b t w hb htl);have C3:=aI zQ;clear hs hb htl;unfold aM at *;generalize ByteArray.mk t.toArray=T at *;generalize ByteArray.mk (nB b t).toArray=R at *;generalize qL b t=E at *;go_enter func3,ntmps3
 go_wp2_with fail
 refine C1.out.mono ?_;rintro e w1 ⟨rfl,hb1⟩;have B1:=aI hb1;clear hb1 C1
 go_wp2_with fail
 refine(C2.out w1).mono ?_;rintro e w2 ⟨rfl,hb2⟩;have B2:=aI (aC B1.out hb2);clear hb2 C2 B1
 go_wp2_with fail
 refine(C3.out w2 (S0.out.on B2.out)).mono ?_;rintro e w3 ⟨rfl,hb3⟩;have B3:=aI (aC B2.out hb3);clear hb3 C3 B2;go_wp2;go_ret;exact⟨rfl,B3.out⟩
section
open Go.ChangeShapes Go.WideShapes Go.ChangeAt Go.RowKit Go.Deep
theorem tR (os:Os) (started:os.Started) (H:Type) (enc:TypeId×Value->H) :
  ReturnsInHanded {} checked os 3 .any (fun w args=>(Rows.deskPlaysSpec.pre enc prog f3 Rows.deskPlaysRow.domain false w args/\laidMetH prog Rows.deskPlaysRow.laid w)/\sizedMet enc prog f3 (OpenSpec.ofChange Rows.deskPlaysSpec) false w args) (Rows.deskPlaysSpec.post enc prog f3 false true false false):=by
 refine returnsInHanded_of_calls (C:=checked) ownK started kr
  (ChangeSpec.witness_shaped (enc:=enc) (C:=checked) (os:=os) (X:=fun w _=>laidMetH prog Rows.deskPlaysRow.laid w) false (World.laidAll prog os Rows.deskPlaysRow.laid) #[sg ⟨#[]⟩,sg ⟨#[]⟩] 8 (World.laidAll_os _ _ _)
   (World.shaped_of_ZipB kr kr) kr kr kr
   (by rw[MakeChecks.laidMetH_plain _ _ _ kr];exact laidMet_laidAll _ kr kr)) ?_
 intro w tape i _ hsh _ hok hpre _;obtain⟨_,_,_,fn',hfn',_,_,_,_,hval0⟩:=hok;obtain rfl:fn'=f3:=Option.some.inj (hfn'.symm.trans func3);obtain⟨⟨⟨ds,gs0,before,hw,hcnd⟩,hx⟩,hz⟩:=hpre;have hW:DataW.Whole enc prog f3.params.toList Rows.deskPlaysSpec.vars false (w.forCall tape i) i.args.toList ds gs0 before:=DataW.Whole.of_heap (by rfl) hw;have hsz:(DataW.weightsEach prog (f3.params.toList++Rows.deskPlaysSpec.plain.varTypes prog) (ds++gs0)).all (·<=reachBytes)=true:=hz.weights hw;have hS:Std (w.forCall tape i):=std_of (hx.of_heap (by rfl)) hsh;clear hw hx hz hsh hcnd;generalize w.forCall tape i=W at *;generalize w.heap.size=base at *;generalize i.args=args at *
 suffices hc:Calls prog 3 args W fun e W'=>∃v,e=rt v/\Rows.deskPlaysSpec.post enc prog f3 false true false false W args v W' by
  refine hc.mono ?_;rintro e W' ⟨v,rfl,hp⟩;exact ChangeSpec.post_blind hp
 have hval:∀(j:Nat) t v,f3.params[j]?=M t->args[j]?=M v->Value.okWide prog W .any base t v:=hval0;have hW':=hW;obtain⟨p,q,hA0,hV,rfl,hfz,hnd⟩:=hW;have hA:DataW.TrodAll enc prog W 0 (fun _=>true) true f3.params.toList args.toList ds p:=hA0;rw[params3]at hA hval hsz;obtain⟨v0,vs0,d0,ds0,p0,q0,hargs,rfl,rfl,h0,r0⟩:=trodAll_cons hA;obtain⟨v1,vs1,d1,ds1,p1,q1,rfl,rfl,rfl,h1,r1⟩:=trodAll_cons r0;obtain⟨rfl,rfl,rfl⟩:=trodAll_nil r1;obtain rfl:args=#[v0,v1]:=by cases args;simp_all
 obtain⟨rfl,rfl⟩:=trodVars_none hV;have k0:=h0;have lt0:∀x∈p0,x.block<W.heap.size:=by obtain⟨m,hm⟩:=k0;exact DataW.trod_lt m _ _ _ hm
 have k1:=h1;have lt1:∀x∈p1,x.block<W.heap.size:=by obtain⟨m,hm⟩:=k1;exact DataW.trod_lt m _ _ _ hm
 obtain⟨s0,rfl,e0,_,hs0⟩:=Go.ChangeMaps.open_string (show prog.underlying 9=M .string by kernel_rfl) (hval 0 9 v0 rfl rfl) h0;obtain⟨s1,rfl,e1,_,hs1⟩:=Go.ChangeMaps.open_string (show prog.underlying 9=M .string by kernel_rfl) (hval 1 9 v1 rfl rfl) h1;subst e0 e1;have z0:=sized_string hsz (j:=0) (t:=9) rfl rfl;have z1:=sized_string hsz (j:=1) (t:=9) rfl rfl;have zr:=reachBytes_lt;have y0:s0.size=s0.data.toList.length:=Array.length_toList.symm;have e1:(sg s1)=aM s1.data.toList:=by cases s1;simp[aM]
 rw[e1];clear hA0 hval0;refine(zM s0 s1.data.toList W om om hS).mono fun e W' ⟨he,bel⟩=>?_
 subst he;exact⟨_,rfl,_,_,_,[],_,[],hW',trodAll_mk1 (shut_bool underlying4 _),(trodAll_cons_mk (Below.trod laidOutK kr (of_decide_eq_true kr) k0 bel lt0) (trodAll_cons_mk (Below.trod laidOutK kr (of_decide_eq_true kr) k1 bel lt1) trodAll_mk0)),rfl,bel.frame _,fun h=>by cases h⟩
theorem yB:Rows.DeskPlaysSaid:=
 OpenClaim.holds_of_wide 3 f3 rfl rfl rfl rfl rfl rfl rfl ⟨rfl,rfl,rfl,rfl,rfl⟩ rfl rfl rfl rfl rfl kr func3 kr
  (of_decide_eq_true kr) (by unfold Func.isWrapper;first | (rw[if_pos (by decide +kernel)];kernel_rfl) | (rw[if_neg (by decide +kernel)];exact⟨rfl,rfl⟩))
  (fun os started H enc _=>tR os started H enc)
theorem deskPlays_holds:Rows.DeskPlaysCardSaid:=
 Claim7.holds_tied_plain_at .later [] [.data,.data,.data,.data,.sentinel,.sentinel,.pinned] true (true,"dcab18beaf62a5b6dd9cccdd1b12eb97303b68388c7de6ab0fbb2eb061c25f40") true yB (fun _ h=>by cases h) kr (fun _ h=>by cases h) deskPlays_row_tie rfl ⟨rfl,rfl⟩ kr rfl
  (fun f fn hf hfn=>by
   obtain rfl:f=3:=Option.some.inj ((show prog.funcNamed "marchpast/marchpastlaw.DeskPlays" = M 3 by kernel_rfl).symm.trans hf) |>.symm
   obtain rfl:fn=f3:=(Option.some.inj (func3.symm.trans hfn)).symm
   exact⟨by kernel_rfl,fun j t ht=>by
    rw[params3]at ht;have hm:t∈[9,9]:=by simpa using Array.mem_of_getElem? ht
    have hall:([9,9].all fun u=>!prog.wantsStandIn u)=true:=kr;exact(show prog.wantsStandIn t=false by simpa using List.all_eq_true.1 hall t hm)⟩)
  kr
#print axioms deskPlays_holds
end
end Go.Proofs.YtcgpkonfneofdaaGreatDoor
