/- Conditions: those that each theorem states. -/
import Derived.Test.YtcgpkonfneofdaaGreatDoorSDk1
set_option maxRecDepth 100000
set_option maxHeartbeats 8000000
namespace Go.Proofs.YtcgpkonfneofdaaGreatDoor
open Go.RowKit
theorem desk_cl {m:Int} {l:List TxA} {S:SA} (h:dB m l S=0):∀p∈bE m l S,(p.1=1∨p.1=2)∧p.2.1≤100∧p.2.2≤100:=by
 obtain⟨sh,rfl,_,h4,hc,_,_,_⟩:=cK h
 have h8:=fE hc
 intro p hp
 unfold bE at hp
 rw[if_pos h]at hp
 obtain⟨h1,h2,h3,_⟩:=iH.1 hp
 have e:((sh:Nat):Int).toNat=sh:=Int.toNat_natCast sh
 rw[e]at h3
 exact⟨h1,by omega,by omega⟩
theorem desk_cn {m:Int} {l:List TxA} {S:SA} (h:dB m l S=0):(bE m l S).length≤64:=by
 obtain⟨sh,rfl,_,h4,hc,_,_,_⟩:=cK h
 unfold bE
 rw[if_pos h]
 exact canL_len _ l S (fE hc) (by rw[Int.toNat_natCast];exact h4)
theorem nP {m:Int} {l:List TxA} {S:SA} (h:dB m l S=0):S.st.length=8:=by
 obtain⟨sh,rfl,_,_,_,_,hf,_⟩:=cK h
 exact(eK.1 hf).st
theorem desk_pl {m:Int} {l:List TxA} {S:SA} (h:dB m l S=0) (k:Nat) (v:Int):iI m l (S.st.set k v)=0:=by
 have h8:=nP h
 obtain⟨sh,rfl,_,_,_,hp,_,_⟩:=cK h
 have hl:bK (S.st.set k v)=0:=by
  unfold bK
  rw[List.length_set,h8]
  rfl
 unfold iI
 rw[hp,hl]
 rfl
theorem fD_le:∀(a b:List (Bool×List Int)),fD a b≤a.length
 | x::t,y::u=>by
  unfold fD
  split
  ·have:=fD_le t u;rw[List.length_cons];omega
  ·exact Nat.zero_le _
 | [],_=>by simp[fD]
 | _::_,[]=>by simp[fD]
theorem desk_ser {m:Int} {l:List TxA} {bg:List Int} {S:SA} (h:dB m l S=0) (hb:bg.length=8):fZ bg l=0∧bK S.st=0:=by
 have h8:=nP h
 obtain⟨sh,rfl,_,_,hc,_,_,_⟩:=cK h
 have h1:bK bg=0:=if_pos hb
 have h2:bK S.st=0:=if_pos h8
 refine⟨?_,h2⟩
 unfold fZ
 rw[h1,hc]
 rfl
theorem rP:∀(s:List Int) (l:List TxA),(aT s l).length=l.length
 | _,[]=>rfl
 | s,x::t=>by
  have:=rP (mT s x) t
  simp[aT,this]
theorem desk_au {m:Int} {l:List TxA} {bg:List Int} {S:SA} (h:dB m l S=0) (hb:bg.length=8) (hr:mG m l S=0):mR bg l S.st (kN m l S)=0:=by
 obtain⟨h1,h2⟩:=desk_ser h hb
 have e1:(bO bg l).length=l.length:=by
  have e:bO bg l=aT bg l:=if_pos h1
  rw[e,rP]
 have e2:(kN m l S).length=l.length:=by
  have e:kN m l S=gL l S l.length:=if_pos hr
  rw[e];simp[gL]
 have e3:lP (bO bg l).length (kN m l S).length=0:=by rw[e1,e2];simp[lP]
 unfold mR
 rw[h1,h2,e3]
 rfl
theorem desk_av {m:Int} {l:List TxA} {bg:List Int} {S:SA} (h:dB m l S=0) : -1≤jD bg l S.st (kN m l S)∧jD bg l S.st (kN m l S)≤100:=by
 have h8:l.length≤8:=by
  obtain⟨sh,rfl,_,_,hc,_,_,_⟩:=cK h
  exact fE hc
 unfold jD
 split
 ·next ha=>
  have e:bO bg l=aT bg l:=if_pos (pA ha).1
  have hl:(bO bg l).length=l.length:=by rw[e,rP]
  have hf:=fD_le (bO bg l) (kN m l S)
  unfold oZ
  split
  ·split
   ·decide
   ·omega
  ·omega
 ·decide
end Go.Proofs.YtcgpkonfneofdaaGreatDoor
