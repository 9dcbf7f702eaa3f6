/- Conditions: those that each theorem states. -/
import Derived.Test.YtcgpkonfneofdaaGreatDoorSDk7
set_option maxRecDepth 100000
set_option maxHeartbeats 8000000
namespace Go.Proofs.YtcgpkonfneofdaaGreatDoor
open Go.RowKit
def c3:List fG:=[([0,1],[gPay 3],[zR 3,zQ 3]),([1],[],[sNote]),([],[],[sMark 9])]
theorem sE:aM 2 (c3.map cX)=0:=by decide +kernel
theorem len_c3:(pB (2,c3)).length=113:=by decide +kernel
theorem v64_c3:∀x∈c3.map cX,V64 x:=by
 intro x hx
 simp only[c3,List.map_cons,List.map_nil,List.mem_cons,List.not_mem_nil,or_false]at hx
 rcases hx with rfl | rfl | rfl
 ·refine⟨fun z hz=>?_,fun z hz=>?_⟩
  ·simp only[cX,List.mem_cons,List.not_mem_nil,or_false]at hz
   subst hz
   exact⟨⟨by decide,by decide⟩,⟨by decide,by decide⟩⟩
  ·simp only[cX,List.mem_cons,List.not_mem_nil,or_false]at hz
   rcases hz with rfl | rfl <;> exact⟨⟨by decide,by decide⟩,⟨by decide,by decide⟩⟩
 ·refine⟨fun z hz=>by simp[cX]at hz,fun z hz=>?_⟩
  simp only[cX,List.mem_cons,List.not_mem_nil,or_false]at hz
  subst hz
  exact⟨⟨by decide,by decide⟩,⟨by decide,by decide⟩⟩
 ·refine⟨fun z hz=>by simp[cX]at hz,fun z hz=>?_⟩
  simp only[cX,List.mem_cons,List.not_mem_nil,or_false]at hz
  subst hz
  exact⟨⟨by decide,by decide⟩,⟨by decide,by decide⟩⟩
theorem okP_c3:OkP (2,c3):=by
 have h:=okP_of sE v64_c3
 have e:(c3.map cX).map TxA.core=c3:=by simp[c3,cX,TxA.core]
 rw[e]at h
 exact h
theorem rd_c3:eH (pB (2,c3))=some (2,c3):=by
 unfold eH
 rw[if_neg (by rw[len_c3];decide)]
 exact pL okP_c3 sE
theorem three_q (w:World):Calls Tryz.prog 26 #[] w fun e w'=>∃(a:Option Addr) (l:List TxA),e=.returned (.agg #[.int .i64 2,.slice a l.length 3])∧l.map TxA.core=c3∧IsTxs w' a l∧Below w.heap.size w w':=
 (three_any w).mono fun _ _ ⟨a,_,_,_,_,_,_,_,_,_,_,_,_,he,htx,hb⟩=>⟨a,_,he,rfl,htx,hb⟩
def wS (b:ByteArray) (t:List UInt8):Int:=match eH (eS b) with
 | none=>aAf (eS b)
 | some _=>aF [gE t,lO t]
def qF (b:ByteArray) (t:List UInt8):List UInt8:=match eH (eS b) with
 | none=>[]
 | some p=>if aF [gE t,lO t]=0 then lF p.1 (p.2.map cX) (gI 10 t).dropLast z8 (cA p.1 (p.2.map cX) z8) else []
theorem play_by (b T R:ByteArray) (x:Int) (w:World) (h:Calls Tryz.prog 11 #[.func (.func 12) #[] #[.pointer (some ⟨w.heap.size,0,none⟩),.pointer (some ⟨w.heap.size+1,0,none⟩)]] ((w.alloc (.cells #[.string b] 9)).alloc (.cells #[.string T] 9)) fun e w'=>e=.returned (.tuple #[.string R,.int .i64 x])∧Below ((w.alloc (.cells #[.string b] 9)).alloc (.cells #[.string T] 9)).heap.size ((w.alloc (.cells #[.string b] 9)).alloc (.cells #[.string T] 9)) w') :
  Calls Tryz.prog 5 #[.string b,.string T] w fun e w'=>e=.returned (.tuple #[.string R,.int .i64 x])∧Below w.heap.size w w':=by
 have hmf:∀(fn:Fn) (first cap:Array Value) (w:World),(Instr.makeFunc fn first cap).run Tryz.prog w=.ok (.func fn first cap) w:=fun _ _ _ _=>rfl
 have H:=aJ h
 have BW:Hid (Below w.heap.size w ((w.alloc (.cells #[.string b] 9)).alloc (.cells #[.string T] 9))):=aA (aA (Below.refl _ _) _) _
 clear h
 go_enter Tryz.func5,Tryz.ntmps5
 go_wp2_with fail
 refine H.out.mono ?_
 rintro e w1 ⟨rfl,hb⟩
 have B:=aJ (aC BW.out hb)
 clear hb H BW
 go_wp2
 go_ret2
 exact⟨rfl,B.out⟩
theorem aAi (b:ByteArray) (t:List UInt8) (w:World) (htl:t.length≤9223372036854775807) (hs:Std w) :
  Calls Tryz.prog 5 #[.string b,aL t] w fun e w'=>e=.returned (.tuple #[aL (qF b t),.int .i64 (wS b t)])∧Below w.heap.size w w':=by
 unfold aL
 obtain⟨T,hT⟩:∃T,T=ByteArray.mk t.toArray:=⟨_,rfl⟩
 rw[←hT]
 refine play_by b T _ _ w ?_
 obtain⟨V,hV⟩:∃V,V=((w.alloc (.cells #[.string b] 9)).alloc (.cells #[.string T] 9)):=⟨_,rfl⟩
 have sV:V.heap.size=w.heap.size+2:=by rw[hV];simp
 have c0:V.cell? ⟨w.heap.size,0,none⟩=some (.string b):=by rw[hV];exact aB (aA (Below.refl _ _) _) (aG w _ 9 _ 0 _ rfl rfl)
 have c1:V.cell? ⟨w.heap.size+1,0,none⟩=some (.string T):=by rw[hV];exact aG _ _ 9 _ 0 _ (by simp) rfl
 have BV:Below w.heap.size w V:=by rw[hV];exact aA (aA (Below.refl _ _) _) _
 rw[←hV]
 have sX:(V.alloc (.cells #[.int .i64 0] 22)).heap.size=V.heap.size+1:=by simp
 have bX:Below V.heap.size V (V.alloc (.cells #[.int .i64 0] 22)):=aA (Below.refl _ _) _
 have d0:=aB bX c0
 have d1:(V.alloc (.cells #[.int .i64 0] 22)).cell? ⟨w.heap.size+1,0,none⟩=some (aL t):=by rw[aB bX c1,hT]
 have pan:∀x:Int,Calls Tryz.prog 12 #[.pointer (some ⟨w.heap.size,0,none⟩),.pointer (some ⟨w.heap.size+1,0,none⟩)] (V.alloc (.cells #[.int .i64 0] 22)) (fun e w'=>e=.panicked [{v:=.iface 22 (.int .i64 x),recovered:=false}]∧Below (V.alloc (.cells #[.int .i64 0] 22)).heap.size (V.alloc (.cells #[.int .i64 0] 22)) w')→Calls Tryz.prog 11 #[.func (.func 12) #[] #[.pointer (some ⟨w.heap.size,0,none⟩),.pointer (some ⟨w.heap.size+1,0,none⟩)]] V fun e w'=>e=.returned (.tuple #[.string ⟨#[]⟩,.int .i64 x])∧Below V.heap.size V w':=fun x h=>by
  rw[sX]at h
  exact kG 12 _ (fun _=>rfl) x V h
 cases hr:eH (eS b) with
 | none=>
  have e1:wS b t=aAf (eS b):=by unfold wS;rw[hr]
  have e2:qF b t=[]:=by unfold qF;rw[hr]
  rw[e1,e2]
  exact pan _ (play1_bad b _ _ _ d0 hr)
 | some p=>
  have e1:wS b t=aF [gE t,lO t]:=by unfold wS;rw[hr]
  by_cases he:aF [gE t,lO t]=0
  ·have e2:qF b t=lF p.1 (p.2.map cX) (gI 10 t).dropLast z8 (cA p.1 (p.2.map cX) z8):=by unfold qF;rw[hr];exact if_pos he
   have h1:=play1_ok b t p _ _ _ d0 d1 hr he (hs.on (aC BV bX))
   rw[sX]at h1
   rw[e1,e2,he]
   refine(nT 12 _ (fun _=>rfl) (fun v _=>v=aL (lF p.1 (p.2.map cX) (gI 10 t).dropLast z8 (cA p.1 (p.2.map cX) z8))) V (fun _ _ h=>h) (h1.mono fun _ _ hp=>⟨_,hp.1,rfl,hp.2⟩)).mono ?_
   rintro e w' ⟨v,rfl,rfl,hb⟩
   exact⟨rfl,hb⟩
  ·have e2:qF b t=[]:=by unfold qF;rw[hr];exact if_neg he
   rw[e1,e2]
   exact pan _ (play1_err b t p _ _ _ d0 d1 hr htl he)
def askT:List UInt8:=[112,117,116,32,48,32,53,10,112,117,116,32,49,32,49,10,99,97,110,10,114,101,97,100,32,49,32,49,10,114,101,97,100,32,48,32,49,10,97,117,100,105,116,10,114,101,115,116,10,99,97,110,10,115,116,111,114,101,10,97,117,100,105,116,10,112,117,116,32,56,32,49,10,120,10]
def givT:List UInt8:=[111,107,10,111,107,10,114,101,97,100,32,48,32,48,59,32,114,101,97,100,32,48,32,49,59,32,114,101,97,100,32,50,32,49,10,101,114,114,111,114,32,54,10,111,107,10,101,114,114,111,114,32,56,10,55,10,111,118,101,114,10,50,32,52,32,48,32,48,32,48,32,52,32,48,32,57,10,45,49,10,101,114,114,111,114,32,51,10,101,114,114,111,114,32,49,10]
theorem ply_three:lF 2 (c3.map cX) (gI 10 askT).dropLast z8 (cA 2 (c3.map cX) z8)=givT:=by decide +kernel
theorem ask_ok:aF [gE askT,lO askT]=0:=by decide +kernel
theorem uM {b:ByteArray} (h:eS b=pB (2,c3)):wS b askT=0∧qF b askT=givT:=by
 unfold wS qF
 rw[h,rd_c3]
 exact⟨ask_ok,by rw[←ply_three];exact if_pos ask_ok⟩
theorem lY (w:World) (hs:Std w):Calls Tryz.prog 7 #[] w fun e w'=>e=.returned (.bool true)∧Below w.heap.size w w':=by
 have S0:=aJ hs
 have CP:Hid (∀(b:ByteArray) (w:World),eS b=pB (2,c3)→Std w→Calls Tryz.prog 5 #[.string b,.string ⟨#[112,117,116,32,48,32,53,10,112,117,116,32,49,32,49,10,99,97,110,10,114,101,97,100,32,49,32,49,10,114,101,97,100,32,48,32,49,10,97,117,100,105,116,10,114,101,115,116,10,99,97,110,10,115,116,111,114,101,10,97,117,100,105,116,10,112,117,116,32,56,32,49,10,120,10]⟩] w fun e w'=>e=.returned (.tuple #[.string ⟨#[111,107,10,111,107,10,114,101,97,100,32,48,32,48,59,32,114,101,97,100,32,48,32,49,59,32,114,101,97,100,32,50,32,49,10,101,114,114,111,114,32,54,10,111,107,10,101,114,114,111,114,32,56,10,55,10,111,118,101,114,10,50,32,52,32,48,32,48,32,48,32,52,32,48,32,57,10,45,49,10,101,114,114,111,114,32,51,10,101,114,114,111,114,32,49,10]⟩,.int .i64 0])∧Below w.heap.size w w'):=fun b w h hs=>by
  have h1:=aAi b askT w (by decide) hs
  rw[(uM h).1,(uM h).2]at h1
  exact h1
 clear hs
 go_enter Tryz.func7,Tryz.ntmps7
 go_wp2_with fail
 refine(three_q w).mono ?_
 rintro e w1 ⟨a,l,rfl,hc,hl,hb1⟩
 have CW:Hid (Calls Tryz.prog 8 #[.agg #[.int .i64 2,.slice a l.length 3]] w1 fun e w'=>∃S,e=.returned (.tuple #[.string S,.int .i64 0])∧Hid (eS S=pB (2,c3))∧Below w1.heap.size w1 w'):=(iX a 3 l 2 w1 hl).mono (by
  rintro e w' ⟨S,rfl,hS,hb⟩
  have hp:aM 2 l=0:=by
   have:=iC 2 l
   rw[hc,sE]at this
   exact this.symm
  refine⟨S,by rw[hp],?_,hb⟩
  show _=_
  rw[hS]
  unfold wrL
  rw[if_pos hp,aAj,hc])
 have B1:=aJ hb1
 clear hc hl hb1
 go_wp2_with fail
 refine CW.out.mono ?_
 rintro e w2 ⟨S,rfl,HS,hb2⟩
 have B2:=aJ (aC B1.out hb2)
 clear hb2 CW B1
 go_wp2_with fail
 refine(CP.out S w2 HS.out (S0.out.on B2.out)).mono ?_
 rintro e w3 ⟨rfl,hb3⟩
 have B3:=aJ (aC B2.out hb3)
 clear hb3 CP B2
 go_wp2
 go_ret
 exact⟨rfl,B3.out⟩
end Go.Proofs.YtcgpkonfneofdaaGreatDoor
