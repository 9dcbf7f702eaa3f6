/- Conditions: those that each theorem states. -/
import Derived.Test.YtcgpkonfneofdaaGreatDoorSDk8
set_option maxRecDepth 100000
set_option maxHeartbeats 8000000
namespace Go.Proofs.YtcgpkonfneofdaaGreatDoor
open Go.RowKit
def jE (ls:List (List UInt8)):List UInt8:=ls.flatMap fun x=>x++[10]
theorem qS (a b:List (List UInt8)):jE (a++b)=jE a++jE b:=by simp[jE]
theorem wB (x:List UInt8):jE [x]=x++[10]:=by simp[jE]
theorem zA (x:List UInt8) (r:List (List UInt8)):jE (x::r)=x++10::jE r:=by simp[jE]
theorem wH:∀(ls:List (List UInt8)),(∀x∈ls,(10:UInt8)∉x)→gI 10 (jE ls)=ls++[[]]
 | [],_=>rfl
 | x::r,h=>by
  rw[zA,wI _ (h x List.mem_cons_self),wH r (fun y hy=>h y (List.mem_cons_of_mem _ hy))]
  rfl
theorem unl_lines {ls:List (List UInt8)} (h:∀x∈ls,(10:UInt8)∉x):(gI 10 (jE ls)).dropLast=ls:=by
 rw[wH ls h,List.dropLast_concat]
theorem unl_count {ls:List (List UInt8)} (h:∀x∈ls,(10:UInt8)∉x):(jE ls).count 10=ls.length:=by
 have h1:=mX 10 (jE ls)
 rw[wH ls h,List.length_append]at h1
 simp at h1
 omega
theorem wC (k:Nat):∀(ls:List (List UInt8)),(∀x∈ls,x.length≤k)→(jE ls).length≤(k+1)*ls.length
 | [],_=>by simp[jE]
 | x::r,h=>by
  have ih:=wC k r (fun y hy=>h y (List.mem_cons_of_mem _ hy))
  have hx:=h x List.mem_cons_self
  rw[zA,List.length_append,List.length_cons,List.length_cons,Nat.mul_succ]
  omega
theorem unl_last (ls:List (List UInt8)) (x:List UInt8):(jE (ls++[x])).getLast?=some 10:=by
 rw[qS,wB,←List.append_assoc]
 exact List.getLast?_concat
def mD (p:Int×Int×Int):List UInt8:=(if p.1=2 then [119,114,105,116,101,32] else [114,101,97,100,32])++cY (lQ p.2.1 8:Nat)++[32]++cY (lQ p.2.2 4:Nat)
def l0:List (List UInt8):=[[112,117,116,32,48,32,53],[112,117,116,32,49,32,57]]
def l9:List (List UInt8):=[[114,101,115,116],[97,117,100,105,116]]
theorem dig_no10 (n:Nat):(10:UInt8)∉kD n:=fun h=>by
 have:=vJ n 10 h
 simp at this
theorem aAo (n:Nat):(10:UInt8)∉cY (n:Int):=by
 unfold cY
 rw[if_neg (by omega)]
 exact dig_no10 _
theorem stL_no10 (p:Int×Int×Int):(10:UInt8)∉mD p:=by
 unfold mD
 intro h
 rcases List.mem_append.1 h with h | h
 ·rcases List.mem_append.1 h with h | h
  ·rcases List.mem_append.1 h with h | h
   ·split at h
    ·revert h;decide
    ·revert h;decide
   ·exact aAo _ h
  ·revert h;decide
 ·exact aAo _ h
theorem stL_len (p:Int×Int×Int):(mD p).length≤20:=by
 have h1:=eJ (lQ p.2.1 8) (by have:=xR p.2.1 (n:=8) (by decide);omega)
 have h2:=eJ (lQ p.2.2 4) (by have:=xR p.2.2 (n:=4) (by decide);omega)
 unfold mD
 rw[List.length_append,List.length_append,List.length_append]
 split
 ·simp only[List.length_cons,List.length_nil];omega
 ·simp only[List.length_cons,List.length_nil];omega
def eO (L:List (Int×Int×Int)):List (List UInt8):=l0++L.map mD++l9
theorem nI:(∀x∈l0,(10:UInt8)∉x)∧(∀x∈l9,(10:UInt8)∉x)∧(∀x∈l0,x.length≤20)∧(∀x∈l9,x.length≤20):=by decide
theorem zF (L:List (Int×Int×Int)):∀x∈eO L,(10:UInt8)∉x:=fun x hx=>by
 unfold eO at hx
 rcases List.mem_append.1 hx with hx | hx
 ·rcases List.mem_append.1 hx with hx | hx
  ·exact nI.1 x hx
  ·obtain⟨p,_,rfl⟩:=List.mem_map.1 hx
   exact stL_no10 p
 ·exact nI.2.1 x hx
theorem snd_len (L:List (Int×Int×Int)):∀x∈eO L,x.length≤20:=fun x hx=>by
 unfold eO at hx
 rcases List.mem_append.1 hx with hx | hx
 ·rcases List.mem_append.1 hx with hx | hx
  ·exact nI.2.2.1 x hx
  ·obtain⟨p,_,rfl⟩:=List.mem_map.1 hx
   exact stL_len p
 ·exact nI.2.2.2 x hx
theorem snd_ok {L:List (Int×Int×Int)} (h:L.length≤30):aF [gE (jE (eO L)),lO (jE (eO L))]=0:=by
 have hl:(eO L).length=L.length+4:=by simp[eO,l0,l9]
 have h1:=wC 20 (eO L) (snd_len L)
 have h2:=unl_count (zF L)
 have hm:gE (jE (eO L))=0:=by
  unfold gE
  rw[if_neg]
  rw[hl]at h1 h2
  omega
 have he:lO (jE (eO L))=0:=by
  have e:eO L=(l0++L.map mD++[[114,101,115,116]])++[[97,117,100,105,116]]:=by simp[eO,l9]
  unfold lO
  rw[e,if_neg (fun hh=>hh.2 (unl_last _ _))]
 rw[hm,he]
 rfl
theorem aud_minus {m:Int} {l:List TxA} {bg:List Int} {S:SA} (h:Dsk m l bg S) (ho:jW m l S=true):mG m l S=0∧jD bg l S.st (kN m l S) = -1:=by
 have hst:=h.st
 have e1:mG m l S=0:=by
  unfold mG
  rw[if_pos hst,if_pos ho]
 have e2:kN m l S=gL l S l.length:=if_pos e1
 have eo:jW m l S=eI m.toNat l S:=if_pos hst
 rw[eo]at ho
 have hz:=aY h.pe
 obtain⟨i1,i2⟩:=inv_over (by omega) h.b8 (fun n hn=>lL (fV hz.2.2 n hn)) h.iv ho
 have ha:=desk_au hst h.b8 e1
 have hq:=pA ha
 have er:gL l S l.length=aT bg l:=by
  have:=res_ser bg l l.length (Nat.le_refl _)
  rw[List.take_length]at this
  rw[←this]
  unfold gL
  refine List.map_congr_left fun n hn=>?_
  rw[i2 n (List.mem_range.1 hn)]
 refine⟨e1,?_⟩
 unfold jD
 rw[if_pos ha]
 unfold oZ
 rw[hq.2.2.2.1,hq.2.2.2.2,e2,er,if_pos rfl,i1,if_pos rfl]
theorem rest_audit {m:Int} {l:List TxA} {bg:List Int} {S:SA} (h:Dsk m l bg S):∃x,lF m l l9 bg S=x++[10,45,49,10]:=by
 obtain⟨r1,r2,_⟩:=h.rest
 have ho:jW m l (qJ m l S (rN m l S))=true:=by rw[r1.ov _ (Nat.le_refl _)];simp
 obtain⟨a1,a2⟩:=aud_minus r2 ho
 have e1:gT m l bg S [114,101,115,116]=(cY (rN m l S:Nat),bg,qJ m l S (rN m l S)):=by
  have hs:gI 32 [114,101,115,116]=[[114,101,115,116]]:=by decide
  unfold gT
  rw[hs]
  rfl
 have e2:gT m l bg (qJ m l S (rN m l S)) [97,117,100,105,116]=([45,49],bg,qJ m l S (rN m l S)):=by
  have hs:gI 32 [97,117,100,105,116]=[[97,117,100,105,116]]:=by decide
  have ht:eC m l bg (qJ m l S (rN m l S)) [97,117,100,105,116]=.ok ([45,49],qJ m l S (rN m l S)):=by
   unfold eC
   rw[if_neg (by decide),if_neg (by decide),if_neg (by decide),if_pos rfl,if_pos a1,a2]
   rfl
  unfold gT
  rw[hs]
  show (match (eC m l bg (qJ m l S (rN m l S)) [97,117,100,105,116]).map (fun p=>(p.1,bg,p.2)) with | .ok p=>p | .error z=>([101,114,114,111,114,32]++cY z,bg,qJ m l S (rN m l S)))=_
  rw[ht]
  rfl
 refine⟨cY (rN m l S:Nat),?_⟩
 unfold l9
 rw[lF,e1]
 simp only
 rw[lF,e2]
 simp[lF]
theorem snd_end {b:ByteArray} {p:Int×List fG} (hr:eH (eS b)=some p) {L:List (Int×Int×Int)} (h:L.length≤30):wS b (jE (eO L))=0∧∃x,qF b (jE (eO L))=x++[10,45,49,10]∧x.length≤100000:=by
 have hk:Dsk p.1 (p.2.map cX) z8 (cA p.1 (p.2.map cX) z8):=beg_ok (wY b) (rd_good hr).2.1 (by rw[List.map_map];exact List.map_id _)
 have ho:=snd_ok h
 refine⟨by unfold wS;rw[hr];exact ho,?_⟩
 have e:qF b (jE (eO L))=lF p.1 (p.2.map cX) (eO L) z8 (cA p.1 (p.2.map cX) z8):=by
  unfold qF
  rw[hr]
  show (if aF [gE (jE (eO L)),lO (jE (eO L))]=0 then lF p.1 (p.2.map cX) (gI 10 (jE (eO L))).dropLast z8 (cA p.1 (p.2.map cX) z8) else [])=_
  rw[if_pos ho,unl_lines (zF L)]
 rw[e]
 have hk2:=wO (l0++L.map mD) (z8,cA p.1 (p.2.map cX) z8) hk
 obtain⟨x,hx⟩:=rest_audit hk2
 have:=wN p.1 (p.2.map cX) (l0++L.map mD) l9 (z8,cA p.1 (p.2.map cX) z8)
 refine⟨lF p.1 (p.2.map cX) (l0++L.map mD) z8 (cA p.1 (p.2.map cX) z8)++x,?_⟩
 have hlen:=wM (eO L) (z8,cA p.1 (p.2.map cX) z8) hk
 have hl:(eO L).length=L.length+4:=by simp[eO,l0,l9]
 have eq1:lF p.1 (p.2.map cX) (eO L) z8 (cA p.1 (p.2.map cX) z8)=lF p.1 (p.2.map cX) (l0++L.map mD) z8 (cA p.1 (p.2.map cX) z8)++x++[10,45,49,10]:=by
  rw[List.append_assoc,←hx]
  exact this
 refine⟨eq1,?_⟩
 simp only at hlen
 rw[eq1,List.length_append,hl]at hlen
 have:2001*(L.length+4)≤2001*34:=Nat.mul_le_mul (Nat.le_refl _) (by omega)
 omega
section
def IsT3 (w:World) (a:Option Addr) (L:List (Int×Int×Int)):Prop:=
 ∀i,i<L.length→∃b off,a=some ⟨b,off,none⟩∧b<w.heap.size∧w.cell? ⟨b,off+i*3,none⟩=some (.int .i64 (L.getD i (0,0,0)).1)∧w.cell? ⟨b,off+i*3+1,none⟩=some (.int .i64 (L.getD i (0,0,0)).2.1)∧w.cell? ⟨b,off+i*3+2,none⟩=some (.int .i64 (L.getD i (0,0,0)).2.2)
def I3 (p:Int×Int×Int):Prop:=dV p.2.1∧dV p.2.2
theorem wf_of_I {z:Int} (h:dV z):(Lit.int .i64 z).wf=true:=by
 have e1:IntKind.i64.min = -9223372036854775808:=rfl
 have e2:IntKind.i64.max=9223372036854775807:=rfl
 unfold dV at h
 simp[Lit.wf,e1,e2]
 omega
theorem tail4 (x:List UInt8) (hx:x.length≤100000):(((ByteArray.mk (x++[10,45,49,10]).toArray).extract (wrap64 (((ByteArray.mk (x++[10,45,49,10]).toArray).size:Int) - 4)).toNat (ByteArray.mk (x++[10,45,49,10]).toArray).size).toList==[10,45,49,10])=true:=by
 have hz:(ByteArray.mk (x++[10,45,49,10]).toArray).size=x.length+4:=by show (x++[10,45,49,10]).toArray.size=_;simp
 have hn:wrap64 (((x.length+4:Nat):Int) - 4)=(x.length:Int):=by unfold wrap64;omega
 rw[hz,hn,Int.toNat_natCast,ByteArray.extract_mk,ByteArray.toList_eq]
 simp
theorem zH (t op N K:List UInt8) (h:t.length+op.length+N.length+K.length≤10000):∃T1 T2 T3 T4 T5 T6:ByteArray,(∀w,(Op.stringOp .add ⟨t.toArray⟩ ⟨op.toArray⟩).run Tryz.prog w=.ok (.string T1) w)∧(∀w,(Op.stringOp .add T1 ⟨N.toArray⟩).run Tryz.prog w=.ok (.string T2) w)∧(∀w,(Op.stringOp .add T2 ⟨#[32]⟩).run Tryz.prog w=.ok (.string T3) w)∧(∀w,(Op.stringOp .add T3 ⟨K.toArray⟩).run Tryz.prog w=.ok (.string T4) w)∧(∀w,(Op.stringOp .add T4 ⟨#[10]⟩).run Tryz.prog w=.ok (.string T6) w)∧T5=T4∧T6=⟨(((((t++op)++N)++[32])++K)++[10]).toArray⟩:=by
 refine⟨⟨(t++op).toArray⟩,⟨((t++op)++N).toArray⟩,⟨(((t++op)++N)++[32]).toArray⟩,⟨((((t++op)++N)++[32])++K).toArray⟩,_,_,fun w=>?_,fun w=>?_,fun w=>?_,fun w=>?_,fun w=>?_,rfl,rfl⟩
 ·exact run_string_add_lists w _ _ (by omega) (by omega)
 ·exact run_string_add_lists w _ _ (by simp only[List.length_append];omega) (by omega)
 ·exact run_string_add_lists w _ [32] (by simp only[List.length_append];omega) (by decide)
 ·exact run_string_add_lists w _ _ (by simp only[List.length_append,List.length_singleton];omega) (by omega)
 ·exact run_string_add_lists w _ [10] (by simp only[List.length_append,List.length_singleton];omega) (by decide)
variable (la:Option Addr) (lc:Nat) (l:List TxA) (m:Int) (xa:Option Addr) (xc:Nat) (L:List (Int×Int×Int))
theorem nQ (w:World) (hl:IsTxs w la l) (hs:Std w) (hn:¬aM m l=0∨4096<(wrL m l).length) :
  Calls Tryz.prog 4 #[.agg #[.int .i64 m,.slice la l.length lc],.slice xa L.length xc] w fun e w'=>e=.returned (.bool true)∧Below w.heap.size w w':=by
 have CW:=aJ (iX la lc l m (w.alloc (.cells #[.int .i64 m,.slice la l.length lc] 29)) (hl.below (aA (Below.refl _ _) _)))
 have C3:=aJ lY
 have S0:=aJ hs
 have BA:Hid (Below w.heap.size w (w.alloc (.cells #[.int .i64 m,.slice la l.length lc] 29))):=aA (Below.refl _ _) _
 have HN:=aJ hn
 clear hl hs hn
 go_enter Tryz.func4,Tryz.ntmps4
 go_wp2_with fail
 refine CW.out.mono ?_
 rintro e w1 ⟨S,rfl,hS,hb1⟩
 have B1:=aJ (aC BA.out hb1)
 have hsz:S.size=(wrL m l).length:=by rw[←jZ,hS]
 rw[←hsz]at HN
 clear hb1 CW BA hS hsz
 generalize aM m l=E at *
 by_cases h0:E=0
 ·subst h0
  have h1:(4096:Int)<(S.size:Int):=by
   rcases HN.out with h | h
   ·exact absurd rfl h
   ·omega
  clear HN
  go_wp2_with fail
  refine(C3.out w1 (S0.out.on B1.out)).mono ?_
  rintro e w3 ⟨rfl,hb3⟩
  have B3:=aJ (aC B1.out hb3)
  clear hb3 C3 B1
  go_wp2
  go_ret
  exact⟨rfl,B3.out⟩
 ·have hE:(E != 0)=true:=by simpa using h0
  clear HN
  go_wp2_with fail
  refine(C3.out w1 (S0.out.on B1.out)).mono ?_
  rintro e w3 ⟨rfl,hb3⟩
  have B3:=aJ (aC B1.out hb3)
  clear hb3 C3 B1
  go_wp2
  go_ret
  exact⟨rfl,B3.out⟩
theorem xL (w:World) (hl:IsTxs w la l) (hx:IsT3 w xa L) (h3:∀p∈L,I3 p) (hv:∀x∈l,V64 x) (hs:Std w) (hp:aM m l=0) (hbl:(wrL m l).length≤4096) (_hLm:L.length≤9223372036854775807) :
  Calls Tryz.prog 4 #[.agg #[.int .i64 m,.slice la l.length lc],.slice xa L.length xc] w fun e w'=>e=.returned (.bool true)∧Below w.heap.size w w':=by
 have CW:=aJ (iX la lc l m (w.alloc (.cells #[.int .i64 m,.slice la l.length lc] 29)) (hl.below (aA (Below.refl _ _) _)))
 have C3:=aJ lY
 have S0:=aJ hs
 have BA:Hid (Below w.heap.size w (w.alloc (.cells #[.int .i64 m,.slice la l.length lc] 29))):=aA (Below.refl _ _) _
 have HRD:Hid (∀S:ByteArray,eS S=wrL m l→eH (eS S)=some (m,l.map TxA.core)):=fun S hS=>by
  have e:wrL m l=pB (m,l.map TxA.core):=by unfold wrL;rw[if_pos hp,aAj]
  unfold eH
  rw[hS,if_neg (by omega),e]
  exact pL (okP_of hp hv) (by show aM m ((l.map TxA.core).map cX)=0;rw[iC];exact hp)
 have HX:=aJ hx
 have H3:=aJ h3
 rw[hp]at CW
 clear hl hs hx h3 hv hp
 go_enter Tryz.func4,Tryz.ntmps4
 go_wp2_with fail
 refine CW.out.mono ?_
 rintro e w1 ⟨S,rfl,hS,hb1⟩
 have B1:=aJ (aC BA.out hb1)
 have hsz:¬(4096:Int)<(S.size:Int):=by rw[←jZ,hS];omega
 have HR:=aJ (HRD.out S hS)
 clear hb1 CW BA hS HRD hbl
 go_wp2
 go_loopw [7,8,9] (fun t i _ wr=>∃k:Nat,k≤L.length∧k≤30∧i=.int .i64 (k:Nat)∧t=aL (jE (l0++(L.take k).map mD))∧Hid (Below w1.heap.size w1 wr)) (fun _ i _ _=>30 - (intOf i).toNat)
 case atStart=>exact⟨0,Nat.zero_le _,Nat.zero_le _,rfl,rfl,Below.refl _ _⟩
 case round=>
  obtain⟨k,hk,hk3,rfl,rfl,HB⟩:=hrel
  have HUL:Hid ((jE (l0++(L.take k).map mD)).length≤1000):=by
   show _≤_
   have h1:=wC 20 (l0++(L.take k).map mD) (fun x hx=>by
    rcases List.mem_append.1 hx with hx | hx
    ·exact nI.2.2.1 x hx
    ·obtain⟨p,_,rfl⟩:=List.mem_map.1 hx
     exact stL_len p)
   have h2:(l0++(L.take k).map mD).length≤32:=by
    rw[List.length_append,List.length_map,List.length_take]
    show 2+_≤32
    omega
   have:(20+1)*(l0++(L.take k).map mD).length≤21*32:=Nat.mul_le_mul (by omega) h2
   omega
  unfold aL
  by_cases hgo:k<L.length∧k<30
  ·obtain⟨hlt,hlt3⟩:=hgo
   have i1:(k:Int)<(L.length:Int):=by omega
   have i2:(k:Int)<30:=by omega
   obtain⟨sb,off,rfl,_,z0,z1,z2⟩:=HX.out k hlt
   have HTK:Hid ((L.take (k+1)).map mD=(L.take k).map mD++[mD (L.getD k (0,0,0))]):=by
    show _=_
    rw[List.take_succ_eq_append_getElem hlt,List.map_append]
    simp[List.getD,hlt]
   have hI:=H3.out (L.getD k (0,0,0)) (by simp[List.getD,hlt])
   obtain⟨⟨kd,n,s⟩,hP⟩:∃p,p=L.getD k (0,0,0):=⟨_,rfl⟩
   rw[←hP]at z0 z1 z2 HTK hI
   clear hP
   have BA2:Below w.heap.size w wr:=aC B1.out HB.out
   have z0:=aB BA2 z0
   have z1:=aB BA2 z1
   have z2:=aB BA2 z2
   simp only at z0 z1 z2
   have l1:=xR n (n:=8) (by decide)
   have l2:=xR s (n:=4) (by decide)
   have HN1:=aJ (eJ (lQ n 8) (by omega))
   have HN2:=aJ (eJ (lQ s 4) (by omega))
   have CH1:Hid (∀w,Calls Tryz.prog 10 #[.int .i64 n,.int .i64 8] w fun e w'=>e=.returned (.int .i64 (lQ n 8:Nat))∧w'=w):=fun w=>vO n 8 w (wf_of_I hI.1) (by decide) (by decide)
   have CH2:Hid (∀w,Calls Tryz.prog 10 #[.int .i64 s,.int .i64 4] w fun e w'=>e=.returned (.int .i64 (lQ s 4:Nat))∧w'=w):=fun w=>vO s 4 w (wf_of_I hI.2) (by decide) (by decide)
   have CD1:Hid (∀w,Calls Tryz.prog 9 #[.int .i64 (lQ n 8:Nat)] w fun e w'=>e=.returned (aL (cY (lQ n 8:Nat)))∧Below w.heap.size w w'):=fun w=>tC _ (by omega) (by omega) w
   have CD2:Hid (∀w,Calls Tryz.prog 9 #[.int .i64 (lQ s 4:Nat)] w fun e w'=>e=.returned (aL (cY (lQ s 4:Nat)))∧Below w.heap.size w w'):=fun w=>tC _ (by omega) (by omega) w
   clear BA2 hI l1 l2 HX H3 HR C3 S0 B1
   by_cases h2:kd=2
   ·have h2b:(kd==2)=true:=by simpa using h2
    have hop:mD (kd,n,s)=(([119,114,105,116,101,32]++cY (lQ n 8:Nat))++[32])++cY (lQ s 4:Nat):=by
     unfold mD
     rw[if_pos h2]
    obtain⟨T1,T2,T3,T4,T5,T6,f1,f2,f3,f4,f5,hT6⟩:=zH (jE (l0++(L.take k).map mD)) [119,114,105,116,101,32] (cY (lQ n 8:Nat)) (cY (lQ s 4:Nat)) (by have:=HUL.out;have:=HN1.out;have:=HN2.out;simp only[List.length_cons,List.length_nil];omega)
    have HT6:Hid (T6=ByteArray.mk (jE (l0++(L.take (k+1)).map mD)).toArray):=by
     show _=_
     rw[hT6.2,HTK.out,hop]
     simp[qS,wB,List.append_assoc]
    clear hT6 hop HUL HN1 HN2 HTK
    obtain⟨T0,hT0⟩:∃T0,T0=ByteArray.mk (jE (l0++(L.take k).map mD)).toArray:=⟨_,rfl⟩
    rw[←hT0]at f1
    rw[←hT0]
    clear hT0
    unfold aL at CD1 CD2
    generalize ByteArray.mk (cY (lQ n 8:Nat)).toArray=N1 at *
    generalize ByteArray.mk (cY (lQ s 4:Nat)).toArray=N2 at *
    generalize lQ n 8=C1 at *
    generalize lQ s 4=C2 at *
    go_upto_region 11 with fail
    obtain⟨W,hW⟩:∃W:World,W=wr:=⟨_,rfl⟩
    subst hW
    have KS:Hid (∀w',Below W.heap.size W w'→w'.cell? ⟨sb,off+k*3+1,none⟩=some (.int .i64 n)∧w'.cell? ⟨sb,off+k*3+2,none⟩=some (.int .i64 s)∧Hid (Below W.heap.size W w')):=fun w' hb=>⟨aB hb z1,aB hb z2,hb⟩
    clear z0
    refine wp_region_held_drew (S:=(fun w'=>w'.cell? ⟨sb,off+k*3+1,none⟩=some (.int .i64 n)∧w'.cell? ⟨sb,off+k*3+2,none⟩=some (.int .i64 s)∧Hid (Below W.heap.size W w'))) (by kernel_rfl) ?_ (fun hHeld=>?_)
    ·exact KS.out _ (aD (Below.refl _ _))
    refine tk 0 ?_
    refine tk 1 ?_
    refine tk 2 ?_
    refine tk 3 ?_
    refine tk 4 ?_
    refine tk 5 ?_
    refine tk 6 ?_
    refine tk 7 ?_
    refine tk 12 ?_
    refine tk 13 ?_
    refine tk 14 ?_
    refine tk 15 ?_
    refine tk 16 ?_
    refine r1 8 (fun K hK=>?_)
    go_simp
    obtain⟨z1,z2,hbx⟩:=hHeld
    go_wp2_with (go_at_call 10;refine(CH1.out _).mono ?_;rintro e v1 ⟨rfl,hv⟩)
    subst hv
    clear z1 z2
    have hHeld:True:=trivial
    clear hHeld
    refine hK.out _ _ (KS.out _ hbx.out) (fun hHeld=>?_)
    clear hK K
    refine r1 9 (fun K hK=>?_)
    go_simp
    obtain⟨z1,z2,hby⟩:=hHeld
    go_wp2_with (go_at_call 9;refine(CD1.out _).mono ?_;rintro e v2 ⟨rfl,hb2⟩)
    have B2:Hid (Below W.heap.size W v2):=aC hby.out hb2
    clear z1 z2 hb2 hby hbx
    have hHeld:True:=trivial
    clear hHeld
    refine hK.out _ _ (KS.out _ B2.out) (fun hHeld=>?_)
    clear hK K
    refine tk 10 ?_
    refine tk 11 ?_
    refine r1 17 (fun K hK=>?_)
    go_simp
    obtain⟨z1,z2,hbx⟩:=hHeld
    go_wp2_with (go_at_call 10;refine(CH2.out _).mono ?_;rintro e v3 ⟨rfl,hv⟩)
    subst hv
    clear z1 z2
    have hHeld:True:=trivial
    clear hHeld
    refine hK.out _ _ (KS.out _ hbx.out) (fun hHeld=>?_)
    clear hK K
    refine r1 18 (fun K hK=>?_)
    go_simp
    obtain⟨z1,z2,hby⟩:=hHeld
    go_wp2_with (go_at_call 9;refine(CD2.out _).mono ?_;rintro e v4 ⟨rfl,hb4⟩)
    have B4:Hid (Below W.heap.size W v4):=aC hby.out hb4
    clear z1 z2 hb4 hby hbx
    have hHeld:True:=trivial
    clear hHeld
    refine hK.out _ _ (KS.out _ B4.out) (fun hHeld=>?_)
    clear hK K
    refine tk 19 ?_
    refine tk 20 ?_
    refine tk 21 ?_
    refine wpAnyH_done (by kernel_rfl) ?_ _
    clear hHeld KS CH1 CH2 CD1 CD2 z1 z2
    have BF:Hid (Below w1.heap.size w1 v4):=aC HB.out B4.out
    clear B2 B4 HB
    go_wp2
    go_roundw
    case rel=>exact⟨k+1,by omega,by omega,by go_num,by rw[HT6.out],BF⟩
    case measure=>simp[intOf];omega
   ·have h2b:(kd==2)=false:=by simpa using h2
    have hop:mD (kd,n,s)=(([114,101,97,100,32]++cY (lQ n 8:Nat))++[32])++cY (lQ s 4:Nat):=by
     unfold mD
     rw[if_neg h2]
    obtain⟨T1,T2,T3,T4,T5,T6,f1,f2,f3,f4,f5,hT6⟩:=zH (jE (l0++(L.take k).map mD)) [114,101,97,100,32] (cY (lQ n 8:Nat)) (cY (lQ s 4:Nat)) (by have:=HUL.out;have:=HN1.out;have:=HN2.out;simp only[List.length_cons,List.length_nil];omega)
    have HT6:Hid (T6=ByteArray.mk (jE (l0++(L.take (k+1)).map mD)).toArray):=by
     show _=_
     rw[hT6.2,HTK.out,hop]
     simp[qS,wB,List.append_assoc]
    clear hT6 hop HUL HN1 HN2 HTK
    obtain⟨T0,hT0⟩:∃T0,T0=ByteArray.mk (jE (l0++(L.take k).map mD)).toArray:=⟨_,rfl⟩
    rw[←hT0]at f1
    rw[←hT0]
    clear hT0
    unfold aL at CD1 CD2
    generalize ByteArray.mk (cY (lQ n 8:Nat)).toArray=N1 at *
    generalize ByteArray.mk (cY (lQ s 4:Nat)).toArray=N2 at *
    generalize lQ n 8=C1 at *
    generalize lQ s 4=C2 at *
    go_upto_region 11 with fail
    obtain⟨W,hW⟩:∃W:World,W=wr:=⟨_,rfl⟩
    subst hW
    have KS:Hid (∀w',Below W.heap.size W w'→w'.cell? ⟨sb,off+k*3+1,none⟩=some (.int .i64 n)∧w'.cell? ⟨sb,off+k*3+2,none⟩=some (.int .i64 s)∧Hid (Below W.heap.size W w')):=fun w' hb=>⟨aB hb z1,aB hb z2,hb⟩
    clear z0
    refine wp_region_held_drew (S:=(fun w'=>w'.cell? ⟨sb,off+k*3+1,none⟩=some (.int .i64 n)∧w'.cell? ⟨sb,off+k*3+2,none⟩=some (.int .i64 s)∧Hid (Below W.heap.size W w'))) (by kernel_rfl) ?_ (fun hHeld=>?_)
    ·exact KS.out _ (aD (Below.refl _ _))
    refine tk 0 ?_
    refine tk 1 ?_
    refine tk 2 ?_
    refine tk 3 ?_
    refine tk 4 ?_
    refine tk 5 ?_
    refine tk 6 ?_
    refine tk 7 ?_
    refine tk 12 ?_
    refine tk 13 ?_
    refine tk 14 ?_
    refine tk 15 ?_
    refine tk 16 ?_
    refine r1 8 (fun K hK=>?_)
    go_simp
    obtain⟨z1,z2,hbx⟩:=hHeld
    go_wp2_with (go_at_call 10;refine(CH1.out _).mono ?_;rintro e v1 ⟨rfl,hv⟩)
    subst hv
    clear z1 z2
    have hHeld:True:=trivial
    clear hHeld
    refine hK.out _ _ (KS.out _ hbx.out) (fun hHeld=>?_)
    clear hK K
    refine r1 9 (fun K hK=>?_)
    go_simp
    obtain⟨z1,z2,hby⟩:=hHeld
    go_wp2_with (go_at_call 9;refine(CD1.out _).mono ?_;rintro e v2 ⟨rfl,hb2⟩)
    have B2:Hid (Below W.heap.size W v2):=aC hby.out hb2
    clear z1 z2 hb2 hby hbx
    have hHeld:True:=trivial
    clear hHeld
    refine hK.out _ _ (KS.out _ B2.out) (fun hHeld=>?_)
    clear hK K
    refine tk 10 ?_
    refine tk 11 ?_
    refine r1 17 (fun K hK=>?_)
    go_simp
    obtain⟨z1,z2,hbx⟩:=hHeld
    go_wp2_with (go_at_call 10;refine(CH2.out _).mono ?_;rintro e v3 ⟨rfl,hv⟩)
    subst hv
    clear z1 z2
    have hHeld:True:=trivial
    clear hHeld
    refine hK.out _ _ (KS.out _ hbx.out) (fun hHeld=>?_)
    clear hK K
    refine r1 18 (fun K hK=>?_)
    go_simp
    obtain⟨z1,z2,hby⟩:=hHeld
    go_wp2_with (go_at_call 9;refine(CD2.out _).mono ?_;rintro e v4 ⟨rfl,hb4⟩)
    have B4:Hid (Below W.heap.size W v4):=aC hby.out hb4
    clear z1 z2 hb4 hby hbx
    have hHeld:True:=trivial
    clear hHeld
    refine hK.out _ _ (KS.out _ B4.out) (fun hHeld=>?_)
    clear hK K
    refine tk 19 ?_
    refine tk 20 ?_
    refine tk 21 ?_
    refine wpAnyH_done (by kernel_rfl) ?_ _
    clear hHeld KS CH1 CH2 CD1 CD2 z1 z2
    have BF:Hid (Below w1.heap.size w1 v4):=aC HB.out B4.out
    clear B2 B4 HB
    go_wp2
    go_roundw
    case rel=>exact⟨k+1,by omega,by omega,by go_num,by rw[HT6.out],BF⟩
    case measure=>simp[intOf];omega
  ·have hk9:(L.take k).length≤30:=by rw[List.length_take];omega
   obtain⟨hE,X,hXs,hXl⟩:=snd_end HR.out hk9
   have hfin:jE (eO (L.take k))=jE (l0++(L.take k).map mD)++[114,101,115,116,10,97,117,100,105,116,10]:=by
    unfold eO
    rw[qS]
    rfl
   have f1:∀w,(Op.stringOp .add ⟨(jE (l0++(L.take k).map mD)).toArray⟩ ⟨#[114,101,115,116,10,97,117,100,105,116,10]⟩).run Tryz.prog w=.ok (.string ⟨(jE (eO (L.take k))).toArray⟩) w:=fun w=>by
    rw[hfin]
    exact run_string_add_lists w _ _ (by have:=HUL.out;omega) (by decide)
   have CP:Hid (Calls Tryz.prog 5 #[.string S,.string ⟨(jE (eO (L.take k))).toArray⟩] wr fun e w'=>e=.returned (.tuple #[.string ⟨(X++[10,45,49,10]).toArray⟩,.int .i64 0])∧Below wr.heap.size wr w'):=by
    have h7:=aAi S (jE (eO (L.take k))) wr (by rw[hfin,List.length_append];have:=HUL.out;simp only[List.length_cons,List.length_nil];omega) (S0.out.on (aC B1.out HB.out))
    rw[hE,hXs]at h7
    exact h7
   have hsl:=aJ (tail4 X hXl)
   have hsz:(4:Int)≤((ByteArray.mk (X++[10,45,49,10]).toArray).size:Int):=by
    have:(ByteArray.mk (X++[10,45,49,10]).toArray).size=X.length+4:=by show (X++[10,45,49,10]).toArray.size=_;simp
    omega
   have hw4:0≤wrap64 (((ByteArray.mk (X++[10,45,49,10]).toArray).size:Int) - 4)∧wrap64 (((ByteArray.mk (X++[10,45,49,10]).toArray).size:Int) - 4)≤((ByteArray.mk (X++[10,45,49,10]).toArray).size:Int):=by
    have:(ByteArray.mk (X++[10,45,49,10]).toArray).size=X.length+4:=by show (X++[10,45,49,10]).toArray.size=_;simp
    rw[this]
    unfold wrap64
    omega
   have hw5:=hw4.1
   have hw6:=hw4.2
   have C4:Hid (∀w',Below wr.heap.size wr w'→Calls Tryz.prog 7 #[] w' fun e w''=>e=.returned (.bool true)∧Below w'.heap.size w' w''):=fun w' hb=>C3.out w' (S0.out.on (aC (aC B1.out HB.out) hb))
   have BW:=aJ (aC B1.out HB.out)
   generalize ByteArray.mk (jE (eO (L.take k))).toArray=T1 at *
   generalize ByteArray.mk (jE (l0++(L.take k).map mD)).toArray=T0 at *
   generalize ByteArray.mk (X++[10,45,49,10]).toArray=R at *
   clear hE hXs hXl hfin HUL HX H3 HR C3 S0 B1 HB
   by_cases h8:(k:Int)<(L.length:Int)
   ·have h9:¬(k:Int)<30:=by omega
    go_wp2_with fail
    refine CP.out.mono ?_
    rintro e w3 ⟨rfl,hb3⟩
    have C5:=aJ (C4.out w3 hb3)
    have B3:=aJ (aC BW.out hb3)
    clear hb3 CP C4 BW
    go_wp2_with fail
    refine C5.out.mono ?_
    rintro e w4 ⟨rfl,hb4⟩
    have B4:=aJ (aC B3.out hb4)
    clear hb4 C5 B3
    go_wp2
    go_ret
    refine⟨?_,B4.out⟩
    show Ending.returned (.bool ((R.extract (wrap64 ((R.size:Int) - 4)).toNat R.size).toList==[10,45,49,10]))=_
    rw[hsl.out]
   ·skip
    go_wp2_with fail
    refine CP.out.mono ?_
    rintro e w3 ⟨rfl,hb3⟩
    have C5:=aJ (C4.out w3 hb3)
    have B3:=aJ (aC BW.out hb3)
    clear hb3 CP C4 BW
    go_wp2_with fail
    refine C5.out.mono ?_
    rintro e w4 ⟨rfl,hb4⟩
    have B4:=aJ (aC B3.out hb4)
    clear hb4 C5 B3
    go_wp2
    go_ret
    refine⟨?_,B4.out⟩
    show Ending.returned (.bool ((R.extract (wrap64 ((R.size:Int) - 4)).toNat R.size).toList==[10,45,49,10]))=_
    rw[hsl.out]
end
section
open Go.ChangeShapes Go.WideShapes Go.ChangeAt Go.RowKit Go.Deep
section
variable {H:Type} {enc:TypeId×Value→H} {w:World} {base:Nat} {spare:Nat→Bool} {held:Bool}
theorem step3_of {n:Nat} {c0 c1 c2:Value} {y:DataW H×List MemPlace} (h:DataW.trod enc Tryz.prog w base spare held n 33 [c0,c1,c2]=some y):∃p:Int×Int×Int,c0=.int .i64 p.1∧c1=.int .i64 p.2.1∧c2=.int .i64 p.2.2∧I3 p:=by
 obtain⟨y0,y1,y2,m,_,_,h0,h1,h2⟩:=trod_struct3 Tryz.underlying33 h
 have k3:Tryz.prog.cellsOf 3=1:=by kernel_rfl
 simp only[k3]at h0 h1 h2
 obtain⟨a,ha,_⟩:=nL (c:=c0) (by simpa using h0)
 obtain⟨b,hb,vb⟩:=nL (c:=c1) (by simpa using h1)
 obtain⟨d,hd,vd⟩:=nL (c:=c2) (by simpa using h2)
 exact⟨(a,b,d),ha,hb,hd,vb,vd⟩
theorem open_t3 {n:Nat} {v:Value} {y:DataW H×List MemPlace} (h:DataW.trod enc Tryz.prog w base spare held n 30 [v]=some y):∃(a:Option Addr) (L:List (Int×Int×Int)) (cap:Nat),v=.slice a L.length cap∧L.length≤maxLen∧IsT3 w a L∧(∀z∈L,I3 z):=by
 have k33:Tryz.prog.cellsOf 33=3:=by kernel_rfl
 rcases open_slice Tryz.underlying30 h with ⟨hcs,_⟩ | ⟨a,len,cap,m,n',D,Pl,hcs,_,hl,hm,hmm,_,hx⟩
 ·simp at hcs
  exact⟨none,[],0,by simpa using hcs,by simp,fun i hi=>absurd hi (by simp),fun z hz=>by cases hz⟩
 ·simp at hcs
  have hlm:len≤m:=by rw[hmm];split <;> omega
  rw[k33]at hx
  obtain⟨f,hf⟩:=choose_lt (α:=Int×Int×Int) (p:=fun i g=>w.cell? ((a.add (i*3)).add 0)=some (.int .i64 g.1)∧w.cell? ((a.add (i*3)).add 1)=some (.int .i64 g.2.1)∧w.cell? ((a.add (i*3)).add 2)=some (.int .i64 g.2.2)∧I3 g) (n:=m) (fun i hi=>by
   obtain⟨cs',h1,h2⟩:=hx i hi
   obtain⟨_,hlen,hc⟩:=World.cells?_some h1
   match cs',hlen with
   | [c0,c1,c2],_=>
    obtain⟨g,rfl,rfl,rfl,hv⟩:=step3_of h2
    exact⟨g,hc 0 (by omega),hc 1 (by omega),hc 2 (by omega),hv⟩)
  obtain⟨b,off,spot⟩:=a
  refine⟨some ⟨b,off,spot⟩,(List.range len).map f,cap,by simpa using hcs,by simp;omega,fun i hi=>?_,fun z hz=>?_⟩
  rotate_left
  ·obtain⟨i,hi,rfl⟩:=List.mem_map.1 hz
   have hi2:i<len:=by simpa using hi
   exact(hf i (by omega)).2.2.2
  have hi':i<len:=by simpa using hi
  have hsp:spot=none:=by
   have:=World.cell?_spot (hf 0 (by omega)).1
   simpa[Addr.add]using this
  subst hsp
  obtain⟨e0,e1,e2,_⟩:=hf i (by omega)
  rw[qZ]at e0 e1 e2
  have eg:((List.range len).map f).getD i (0,0,0)=f i:=by simp[List.getD,hi']
  rw[eg]
  exact⟨b,off,rfl,World.block_lt_of_cell? w _ e0,e0,e1,e2⟩
theorem open_sts {b0:Nat} {v:Value} {d:DataW H} {p:List MemPlace} (hv:Value.okWide Tryz.prog w .any b0 30 v) (h:DataW.Trod enc Tryz.prog w base spare held 30 v d p) :
  ∃(a:Option Addr) (L:List (Int×Int×Int)) (cap:Nat),v=.slice a L.length cap∧L.length≤maxLen∧IsT3 w a L∧(∀z∈L,I3 z):=by
 obtain⟨za,zl,zc,rfl⟩:=okWide_slice Tryz.underlying30 hv
 obtain⟨fuel,hf⟩:=h
 exact open_t3 (by simpa[Value.cells]using hf)
end
theorem tZ (la:Option Addr) (lc:Nat) (l:List TxA) (m:Int) (xa:Option Addr) (xc:Nat) (L:List (Int×Int×Int)) (w:World) (hl:IsTxs w la l) (hx:IsT3 w xa L) (h3:∀p∈L,I3 p) (hv:∀x∈l,V64 x) (hs:Std w) (hLm:L.length≤9223372036854775807) :
  Calls Tryz.prog 4 #[.agg #[.int .i64 m,.slice la l.length lc],.slice xa L.length xc] w fun e w'=>e=.returned (.bool true)∧Below w.heap.size w w':=by
 by_cases hp:aM m l=0
 ·by_cases hb:4096<(wrL m l).length
  ·exact nQ la lc l m xa xc L w hl hs (.inr hb)
  ·exact xL la lc l m xa xc L w hl hx h3 hv hs hp (by omega) hLm
 ·exact nQ la lc l m xa xc L w hl hs (.inl hp)
end
end Go.Proofs.YtcgpkonfneofdaaGreatDoor
