/- Conditions: those that each theorem states. -/
import Derived.Test.YtcgpkonfneofdaaGreatDoorSWireN
set_option maxRecDepth 100000
set_option maxHeartbeats 8000000
namespace Go.Proofs.YtcgpkonfneofdaaGreatDoor
open Go.RowKit
theorem qT {bs:List Int} {b:Int} {r:List Int} (h:fH bs=some (b,r)):b∈bs:=by
 cases bs with
 | nil=>cases h
 | cons c t=>injection h with h;injection h with h1 h2;rw[h1];simp
theorem rU {w w':World} {base E size n P:Nat} {v:Value} {xs:List Value} (h:w.ownsRow base E size v n xs) (hg:w.grownBy w' (some P)) (hP:P<base):w'.ownsRow base E size v n xs:=by
 refine h.kept hg ?_
 cases ho:v.ownBlock with
 | none=>exact .inl rfl
 | some j=>exact .inr (fun e=>by have:=(h.lt j ho).1;injection e with e;omega)
theorem nF (w:World) (cs:List Value) (E:TypeId) (n:Nat) (hn:n=w.heap.size):∀j u,cs[j]?=some u→(w.alloc (.cells cs.toArray E)).cell? ((⟨n,0,none⟩:Addr).add j)=some u:=by
 subst hn
 intro j u hj
 rw[bC,Nat.zero_add]
 simp[hj]
theorem vC:∀(gs hs:List St),eL (gs++hs)=eL gs++eL hs
 | [],_=>rfl
 | g::gs,hs=>by simp[eL,vC gs hs]
theorem flat_snoc (l:List Gd) (g:Gd):jO (l++[g])=jO l++iE g:=by rw[flat_app];simp[jO]
theorem flatS_snoc (l:List St) (g:St):eL (l++[g])=eL l++hJ g:=by rw[vC];simp[eL]
theorem map_snoc (l:List Int) (x:Int):(l++[x]).map (Value.int .i64)=l.map (Value.int .i64)++[Value.int .i64 x]:=by simp
theorem gcells_one (g:Gd):∀u∈iE g,u.oneCell'=true:=fun u hu=>flat_one [g] u (by simpa[jO]using hu)
theorem scells_one (g:St):∀u∈hJ g,u.oneCell'=true:=fun u hu=>vA [g] u (by simpa[eL]using hu)
theorem rdInts_any (P:Nat) (bs:List Int) (w:World) (h:RdS P w bs) :
  Calls Tryz.prog 108 #[.pointer (some ⟨P,0,none⟩),.func (.func 69) #[.pointer (some ⟨P,0,none⟩)] #[]] w fun e w'=>RdR P w (eQ fH bs) (fun l v w'=>w'.ownsRow w.heap.size 3 1 v l.length (l.map (Value.int .i64))) e w':=by
 obtain⟨i0,hi,hz0,hz1,hz2⟩:=info_parts Tryz.info3
 have hP:=h.lt
 have HB:Hid (Byt bs):=h.byt
 have H0:Hid (RdS P w bs):=h
 clear h
 go_enter Tryz.func108,Tryz.ntmps108
 go_wp2_with fail
 refine(dF P bs _ H0.out).mono ?_
 rintro e w1 ⟨g,hm⟩
 cases hc:fH bs with
 | none=>
  rw[hc]at hm
  have HG:Hid (eQ fH bs=none):=by
   show eQ fH bs=none
   simp[eQ,hc]
  subst hm
  unfold dY
  go_wp2
  refine⟨rfl,g,?_⟩
  rw[HG.out];rfl
 | some p=>
  obtain⟨b,r0⟩:=p
  rw[hc]at hm
  obtain⟨v,rfl,rfl,h1⟩:=hm
  obtain⟨hb0,hb1⟩:=HB.out b (qT hc)
  obtain⟨n,rfl⟩:∃n:Nat,b=n:=⟨b.toNat,by omega⟩
  have HL:Hid (eQ fH bs=iP fH n r0):=by
   show eQ fH bs=_
   simp[eQ,hc]
  have H1:Hid (RdS P w1 r0):=h1
  have G1:Hid (w.grownBy w1 (some P)):=g
  clear h1 g hc hb0
  go_wp2
  go_loopw [5,8] (fun v i wr=>∃(k:Nat) (l:List Int) (r:List Int),k≤n∧i=.int .i64 k∧l.length=k∧Hid (iP fH n r0=(iP fH (n - k) r).map fun q=>(l++q.1,q.2))∧Hid (wr.ownsRow w.heap.size 3 1 v l.length (l.map (Value.int .i64)))∧Hid (RdS P wr r)∧Hid (w.grownBy wr (some P))) (fun _ i _=>n - (intOf i).toNat)
  case atStart=>exact⟨0,[],r0,Nat.zero_le _,rfl,rfl,by show _=_;simp,World.ownsRow_nil _ _ _ _,H1,G1⟩
  case round=>
   obtain⟨k,l,r,hk,rfl,hl,hK,hrow,hR,hG⟩:=hrel
   by_cases hlt:k<n
   ·have hlow:Hid (∀j,u5.ownBlock=some j→w.heap.size≤j):=fun j hj=>(hrow.out.lt j hj).1
    go_wp2_with fail
    refine(dF P r _ hR.out).mono ?_
    rintro e w3 ⟨g,hm⟩
    cases hc:fH r with
    | none=>
     rw[hc]at hm
     have HG:Hid (eQ fH bs=none):=by
      show eQ fH bs=none
      rw[HL.out,hK.out]
      obtain⟨j,hj⟩:∃j,n - k=j+1:=⟨n - k - 1,by omega⟩
      rw[hj]
      simp[iP,hc]
     subst hm
     unfold dY
     go_wp2
     refine⟨rfl,hG.out.trans g,?_⟩
     rw[HG.out];rfl
    | some p=>
     obtain⟨x,r'⟩:=p
     rw[hc]at hm
     obtain⟨v,rfl,rfl,h3⟩:=hm
     have HK3:Hid (iP fH n r0=(iP fH (n - (k+1)) r').map fun q=>((l++[x])++q.1,q.2)):=by
      show _=_
      rw[hK.out]
      obtain⟨j,hj⟩:∃j,n - k=j+1:=⟨n - k - 1,by omega⟩
      have hj2:n - (k+1)=j:=by omega
      rw[hj,hj2]
      simp[iP,hc,Option.map_map,Function.comp_def]
     have HO:Hid (w3.ownsRow w.heap.size 3 1 u5 l.length (l.map (Value.int .i64))):=rU hrow.out g hP
     have H3:Hid (RdS P w3 r'):=h3
     have G3:Hid (w.grownBy w3 (some P)):=hG.out.trans g
     have hle:w.heap.size≤w3.heap.size:=G3.out.size
     clear h3 g hc hK hrow hR hG
     go_wp2_with (first
      | (at_builtin;refine wpList_append_own _ rfl _ _ 41 rfl w.heap.size 3 i0 (.int .i64 0) 1 8 Tryz.underlying41 hi hz0 hz1 hz2 rfl (by decide) _ _ _ rfl (HO.out.alloc _) _ 1 1 [.int .i64 x] rfl rfl (nF w3 [.int .i64 x] 3 _ rfl) (ints_oneCell .i64 [x]) (by unfold maxLen;omega) (by omega) (by simp;omega) ?_;intro v' w5 hown' hgrow _;have HO5:Hid _:=hown';have HGR:Hid _:=hgrow;clear hown' hgrow)
      | go_in)
     go_roundw
     case rel=>
      have hgA:w3.grownBy w5 u5.ownBlock:=(World.grownBy_alloc w3 _ _).trans HGR.out
      refine⟨k+1,l++[x],r',by omega,by go_num,by simp[hl],HK3,?_,?_,?_⟩
      ·show w5.ownsRow _ _ _ _ _ _
       rw[map_snoc,List.length_append]
       exact HO5.out
      ·exact H3.out.kept hgA (fun e=>by have:=hlow.out P e.symm;omega)
      ·exact gb_up G3.out hgA hlow.out
     case measure=>simp[intOf];omega
   ·have hkn:k=n:=by omega
    subst hkn
    have HE:Hid (eQ fH bs=some (l,r)):=by
     show eQ fH bs=_
     rw[HL.out,hK.out]
     simp[iP]
    clear hK HL
    go_wp2
    go_ret
    refine⟨hG.out,?_⟩
    rw[HE.out]
    exact⟨_,rfl,hrow.out,hR.out⟩
theorem wR (P:Nat) (bs:List Int) (w:World) (h:RdS P w bs) :
  Calls Tryz.prog 109 #[.pointer (some ⟨P,0,none⟩),.func (.func 110) #[.pointer (some ⟨P,0,none⟩)] #[]] w fun e w'=>RdR P w (eQ kJ bs) (fun l v w'=>w'.ownsRow w.heap.size 99 5 v l.length (jO l)) e w':=by
 obtain⟨i0,hi,hz0,hz1,hz2⟩:=info_parts Tryz.info99
 have hP:=h.lt
 have HB:Hid (Byt bs):=h.byt
 have H0:Hid (RdS P w bs):=h
 clear h
 go_enter Tryz.func109,Tryz.ntmps109
 go_wp2_with fail
 refine(dF P bs _ H0.out).mono ?_
 rintro e w1 ⟨g,hm⟩
 cases hc:fH bs with
 | none=>
  rw[hc]at hm
  have HG:Hid (eQ kJ bs=none):=by
   show eQ kJ bs=none
   simp[eQ,hc]
  subst hm
  unfold dY
  go_wp2
  refine⟨rfl,g,?_⟩
  rw[HG.out];rfl
 | some p=>
  obtain⟨b,r0⟩:=p
  rw[hc]at hm
  obtain⟨v,rfl,rfl,h1⟩:=hm
  obtain⟨hb0,hb1⟩:=HB.out b (qT hc)
  obtain⟨n,rfl⟩:∃n:Nat,b=n:=⟨b.toNat,by omega⟩
  have HL:Hid (eQ kJ bs=iP kJ n r0):=by
   show eQ kJ bs=_
   simp[eQ,hc]
  have H1:Hid (RdS P w1 r0):=h1
  have G1:Hid (w.grownBy w1 (some P)):=g
  clear h1 g hc hb0
  go_wp2
  go_loopw [5,8] (fun v i wr=>∃(k:Nat) (l:List Gd) (r:List Int),k≤n∧i=.int .i64 k∧l.length=k∧Hid (iP kJ n r0=(iP kJ (n - k) r).map fun q=>(l++q.1,q.2))∧Hid (wr.ownsRow w.heap.size 99 5 v l.length (jO l))∧Hid (RdS P wr r)∧Hid (w.grownBy wr (some P))) (fun _ i _=>n - (intOf i).toNat)
  case atStart=>exact⟨0,[],r0,Nat.zero_le _,rfl,rfl,by show _=_;simp,World.ownsRow_nil _ _ _ _,H1,G1⟩
  case round=>
   obtain⟨k,l,r,hk,rfl,hl,hK,hrow,hR,hG⟩:=hrel
   by_cases hlt:k<n
   ·have hlow:Hid (∀j,u5.ownBlock=some j→w.heap.size≤j):=fun j hj=>(hrow.out.lt j hj).1
    go_wp2_with fail
    refine(aAd P r _ hR.out).mono ?_
    rintro e w3 ⟨g,hm⟩
    cases hc:kJ r with
    | none=>
     rw[hc]at hm
     have HG:Hid (eQ kJ bs=none):=by
      show eQ kJ bs=none
      rw[HL.out,hK.out]
      obtain⟨j,hj⟩:∃j,n - k=j+1:=⟨n - k - 1,by omega⟩
      rw[hj]
      simp[iP,hc]
     subst hm
     unfold dY
     go_wp2
     refine⟨rfl,hG.out.trans g,?_⟩
     rw[HG.out];rfl
    | some p=>
     obtain⟨x,r'⟩:=p
     rw[hc]at hm
     obtain⟨v,rfl,rfl,h3⟩:=hm
     have HK3:Hid (iP kJ n r0=(iP kJ (n - (k+1)) r').map fun q=>((l++[x])++q.1,q.2)):=by
      show _=_
      rw[hK.out]
      obtain⟨j,hj⟩:∃j,n - k=j+1:=⟨n - k - 1,by omega⟩
      have hj2:n - (k+1)=j:=by omega
      rw[hj,hj2]
      simp[iP,hc,Option.map_map,Function.comp_def]
     have HO:Hid (w3.ownsRow w.heap.size 99 5 u5 l.length (jO l)):=rU hrow.out g hP
     have H3:Hid (RdS P w3 r'):=h3
     have G3:Hid (w.grownBy w3 (some P)):=hG.out.trans g
     have hle:w.heap.size≤w3.heap.size:=G3.out.size
     clear h3 g hc hK hrow hR hG
     obtain⟨kd,ak,an,bk,bn⟩:=x
     go_wp2_with (first
      | (at_builtin;refine wpList_append_own _ rfl _ _ 92 rfl w.heap.size 99 i0 (.agg #[.int .i64 0,.int .i64 0,.int .i64 0,.int .i64 0,.int .i64 0]) 5 40 Tryz.underlying92 hi hz0 hz1 hz2 rfl (by decide) _ _ _ rfl (HO.out.alloc _) _ 1 1 [.int .i64 kd,.int .i64 ak,.int .i64 an,.int .i64 bk,.int .i64 bn] rfl rfl (nF w3 [.int .i64 kd,.int .i64 ak,.int .i64 an,.int .i64 bk,.int .i64 bn] 99 _ rfl) (gcells_one ⟨kd,ak,an,bk,bn⟩) (by unfold maxLen;omega) (by omega) (by simp;omega) ?_;intro v' w5 hown' hgrow _;have HO5:Hid _:=hown';have HGR:Hid _:=hgrow;clear hown' hgrow)
      | go_in)
     go_roundw
     case rel=>
      have hgA:w3.grownBy w5 u5.ownBlock:=(World.grownBy_alloc w3 _ _).trans HGR.out
      refine⟨k+1,l++[(⟨kd,ak,an,bk,bn⟩:Gd)],r',by omega,by go_num,by simp[hl],HK3,?_,?_,?_⟩
      ·show w5.ownsRow _ _ _ _ _ _
       rw[flat_snoc,List.length_append]
       exact HO5.out
      ·exact H3.out.kept hgA (fun e=>by have:=hlow.out P e.symm;omega)
      ·exact gb_up G3.out hgA hlow.out
     case measure=>simp[intOf];omega
   ·have hkn:k=n:=by omega
    subst hkn
    have HE:Hid (eQ kJ bs=some (l,r)):=by
     show eQ kJ bs=_
     rw[HL.out,hK.out]
     simp[iP]
    clear hK HL
    go_wp2
    go_ret
    refine⟨hG.out,?_⟩
    rw[HE.out]
    exact⟨_,rfl,hrow.out,hR.out⟩
theorem rdSets_any (P:Nat) (bs:List Int) (w:World) (h:RdS P w bs) :
  Calls Tryz.prog 111 #[.pointer (some ⟨P,0,none⟩),.func (.func 112) #[.pointer (some ⟨P,0,none⟩)] #[]] w fun e w'=>RdR P w (eQ jF bs) (fun l v w'=>w'.ownsRow w.heap.size 102 6 v l.length (eL l)) e w':=by
 obtain⟨i0,hi,hz0,hz1,hz2⟩:=info_parts Tryz.info102
 have hP:=h.lt
 have HB:Hid (Byt bs):=h.byt
 have H0:Hid (RdS P w bs):=h
 clear h
 go_enter Tryz.func111,Tryz.ntmps111
 go_wp2_with fail
 refine(dF P bs _ H0.out).mono ?_
 rintro e w1 ⟨g,hm⟩
 cases hc:fH bs with
 | none=>
  rw[hc]at hm
  have HG:Hid (eQ jF bs=none):=by
   show eQ jF bs=none
   simp[eQ,hc]
  subst hm
  unfold dY
  go_wp2
  refine⟨rfl,g,?_⟩
  rw[HG.out];rfl
 | some p=>
  obtain⟨b,r0⟩:=p
  rw[hc]at hm
  obtain⟨v,rfl,rfl,h1⟩:=hm
  obtain⟨hb0,hb1⟩:=HB.out b (qT hc)
  obtain⟨n,rfl⟩:∃n:Nat,b=n:=⟨b.toNat,by omega⟩
  have HL:Hid (eQ jF bs=iP jF n r0):=by
   show eQ jF bs=_
   simp[eQ,hc]
  have H1:Hid (RdS P w1 r0):=h1
  have G1:Hid (w.grownBy w1 (some P)):=g
  clear h1 g hc hb0
  go_wp2
  go_loopw [5,8] (fun v i wr=>∃(k:Nat) (l:List St) (r:List Int),k≤n∧i=.int .i64 k∧l.length=k∧Hid (iP jF n r0=(iP jF (n - k) r).map fun q=>(l++q.1,q.2))∧Hid (wr.ownsRow w.heap.size 102 6 v l.length (eL l))∧Hid (RdS P wr r)∧Hid (w.grownBy wr (some P))) (fun _ i _=>n - (intOf i).toNat)
  case atStart=>exact⟨0,[],r0,Nat.zero_le _,rfl,rfl,by show _=_;simp,World.ownsRow_nil _ _ _ _,H1,G1⟩
  case round=>
   obtain⟨k,l,r,hk,rfl,hl,hK,hrow,hR,hG⟩:=hrel
   by_cases hlt:k<n
   ·have hlow:Hid (∀j,u5.ownBlock=some j→w.heap.size≤j):=fun j hj=>(hrow.out.lt j hj).1
    go_wp2_with fail
    refine(rdSet_any P r _ hR.out).mono ?_
    rintro e w3 ⟨g,hm⟩
    cases hc:jF r with
    | none=>
     rw[hc]at hm
     have HG:Hid (eQ jF bs=none):=by
      show eQ jF bs=none
      rw[HL.out,hK.out]
      obtain⟨j,hj⟩:∃j,n - k=j+1:=⟨n - k - 1,by omega⟩
      rw[hj]
      simp[iP,hc]
     subst hm
     unfold dY
     go_wp2
     refine⟨rfl,hG.out.trans g,?_⟩
     rw[HG.out];rfl
    | some p=>
     obtain⟨x,r'⟩:=p
     rw[hc]at hm
     obtain⟨v,rfl,rfl,h3⟩:=hm
     have HK3:Hid (iP jF n r0=(iP jF (n - (k+1)) r').map fun q=>((l++[x])++q.1,q.2)):=by
      show _=_
      rw[hK.out]
      obtain⟨j,hj⟩:∃j,n - k=j+1:=⟨n - k - 1,by omega⟩
      have hj2:n - (k+1)=j:=by omega
      rw[hj,hj2]
      simp[iP,hc,Option.map_map,Function.comp_def]
     have HO:Hid (w3.ownsRow w.heap.size 102 6 u5 l.length (eL l)):=rU hrow.out g hP
     have H3:Hid (RdS P w3 r'):=h3
     have G3:Hid (w.grownBy w3 (some P)):=hG.out.trans g
     have hle:w.heap.size≤w3.heap.size:=G3.out.size
     clear h3 g hc hK hrow hR hG
     obtain⟨key,op,ak,an,bk,bn⟩:=x
     go_wp2_with (first
      | (at_builtin;refine wpList_append_own _ rfl _ _ 93 rfl w.heap.size 102 i0 (.agg #[.int .i64 0,.int .i64 0,.int .i64 0,.int .i64 0,.int .i64 0,.int .i64 0]) 6 48 Tryz.underlying93 hi hz0 hz1 hz2 rfl (by decide) _ _ _ rfl (HO.out.alloc _) _ 1 1 [.int .i64 key,.int .i64 op,.int .i64 ak,.int .i64 an,.int .i64 bk,.int .i64 bn] rfl rfl (nF w3 [.int .i64 key,.int .i64 op,.int .i64 ak,.int .i64 an,.int .i64 bk,.int .i64 bn] 102 _ rfl) (scells_one ⟨key,op,ak,an,bk,bn⟩) (by unfold maxLen;omega) (by omega) (by simp;omega) ?_;intro v' w5 hown' hgrow _;have HO5:Hid _:=hown';have HGR:Hid _:=hgrow;clear hown' hgrow)
      | go_in)
     go_roundw
     case rel=>
      have hgA:w3.grownBy w5 u5.ownBlock:=(World.grownBy_alloc w3 _ _).trans HGR.out
      refine⟨k+1,l++[(⟨key,op,ak,an,bk,bn⟩:St)],r',by omega,by go_num,by simp[hl],HK3,?_,?_,?_⟩
      ·show w5.ownsRow _ _ _ _ _ _
       rw[flatS_snoc,List.length_append]
       exact HO5.out
      ·exact H3.out.kept hgA (fun e=>by have:=hlow.out P e.symm;omega)
      ·exact gb_up G3.out hgA hlow.out
     case measure=>simp[intOf];omega
   ·have hkn:k=n:=by omega
    subst hkn
    have HE:Hid (eQ jF bs=some (l,r)):=by
     show eQ jF bs=_
     rw[HL.out,hK.out]
     simp[iP]
    clear hK HL
    go_wp2
    go_ret
    refine⟨hG.out,?_⟩
    rw[HE.out]
    exact⟨_,rfl,hrow.out,hR.out⟩
end Go.Proofs.YtcgpkonfneofdaaGreatDoor
