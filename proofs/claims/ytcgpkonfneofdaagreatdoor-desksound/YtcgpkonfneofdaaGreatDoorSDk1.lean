/- Conditions: those that each theorem states. -/
import Derived.Test.YtcgpkonfneofdaaGreatDoorSDkY
set_option maxRecDepth 100000
set_option maxHeartbeats 8000000
namespace Go.Proofs.YtcgpkonfneofdaaGreatDoor
open Go.RowKit
theorem clk_new (w:World) (m:Int) (la:Option Addr) (lc:Nat) (l:List TxA) (hl:IsTxs w la l):Clk w.heap.size (fun _=>False) m la lc l none 0 [] aAh uC (w.alloc (.cells #[.int .i64 m,.slice la l.length lc,.slice none 0 0,.slice none 0 0,.slice none 0 0,.slice none 0 0,.slice none 0 0] 47)):=by
 have hb:Below w.heap.size w (w.alloc (.cells #[.int .i64 m,.slice la l.length lc,.slice none 0 0,.slice none 0 0,.slice none 0 0,.slice none 0 0,.slice none 0 0] 47)):=aA (Below.refl _ _) _
 refine⟨⟨?_,?_,?_,?_,?_,?_,?_⟩,fun j=>cO _ _ 47 _ j rfl,fun w' h'=>hl.below (hb.trans h'),fun b h=>h.elim,fun w' _ _=>⟨⟨rfl,rfl,rfl,rfl,⟨?_,?_,?_,?_⟩⟩,?_⟩⟩
 ·exact aG _ _ 47 _ 0 _ rfl rfl
 ·exact aG _ _ 47 _ 1 _ rfl rfl
 ·exact aG _ _ 47 _ 2 _ rfl rfl
 ·exact aG _ _ 47 _ 3 _ rfl rfl
 ·exact aG _ _ 47 _ 4 _ rfl rfl
 ·exact aG _ _ 47 _ 5 _ rfl rfl
 ·exact aG _ _ 47 _ 6 _ rfl rfl
 ·exact fun i hi=>absurd hi (Nat.not_lt_zero _)
 ·exact fun i hi=>absurd hi (Nat.not_lt_zero _)
 ·exact fun i hi=>absurd hi (Nat.not_lt_zero _)
 ·exact fun i hi=>absurd hi (Nat.not_lt_zero _)
 ·exact fun i hi=>absurd hi (Nat.not_lt_zero _)
theorem bld_new (w:World):Bld w.heap.size w.heap.size (.slice none 0 0) [] (w.alloc (.cells #[.pointer none,.slice none 0 0] 54)):=
 ⟨⟨_,.inl rfl,heap_alloc_new w _⟩,World.ownsRow_nil _ _ _ _,by simp[Value.ownBlock],Nat.le_refl _⟩
theorem Clk.write {P:Nat} {D:Nat→Prop} {m:Int} {la:Option Addr} {lc:Nat} {l:List TxA} {ba:Option Addr} {bc:Nat} {bg:List Int} {q:Q4} {S:SA} {w w':World} {b:Nat} {r:Option Nat} (h:Clk P D m la lc l ba bc bg q S w) (hf:Fr2 b r w w') (h1:P<b) (h2:∀g,r=some g→P<g) (h3:¬D b) (h4:∀g,r=some g→¬D g):Clk P D m la lc l ba bc bg q S w':=by
 have hP:=h.pl
 refine h.frame (hf.block P hP (by omega) (fun e=>Nat.lt_irrefl _ (h2 P e.symm))) ⟨hf.os,hf.tape,hf.output,hf.size,fun k hk=>hf.block k (by omega) (by omega) (fun e=>by have:=h2 k e.symm;omega)⟩ (fun k hd=>hf.block k (h.dl k hd).2 (fun e=>h3 (e ▸ hd)) (fun e=>h4 k e.symm hd))
theorem Bld.on {P B b:Nat} {v:Value} {l:List UInt8} {w w':World} (h:Bld B b v l w) (hg:w.grownBy w' (some P)) (h1:b≠P) (h2:v.ownBlock≠some P):Bld B b v l w':=by
 obtain⟨p,hp,hb⟩:=h.hp
 have hbl:b<w.heap.size:=(Array.getElem?_eq_some_iff.1 hb).1
 exact⟨⟨p,hp,by rw[hg.block b hbl (fun e=>by injection e with e;exact h1 e)];exact hb⟩,h.own.kept hg (Or.inr (fun e=>h2 e)),h.ne,h.lo⟩
theorem stepE_few (sh:Nat) (l:List TxA) (S:SA) (kd n k:Int):0≤bW sh l S kd n k∧bW sh l S kd n k≤7:=by
 unfold bW
 split
 ·split
  ·decide
  ·split
   ·split
    ·decide
    ·split <;> decide
   ·decide
 ·decide
theorem doE_few {m:Int} {l:List TxA} {S:SA} (h:dB m l S=0) (kd n k:Int):0≤kX m l S kd n k∧kX m l S kd n k≤7:=by
 unfold kX
 rw[if_pos h]
 exact stepE_few _ _ _ _ _ _
theorem telL_err {m:Int} {l:List TxA} {bg:List Int} {S:SA} (h:dB m l S=0) {x:List UInt8} {z:Int} (hz:eC m l bg S x=.error z):0<z∧z≤100:=by
 unfold eC at hz
 split at hz
 ·cases hz
 split at hz
 ·cases hz
 split at hz
 ·cases hz
 split at hz
 ·split at hz
  ·cases hz
  ·next hr=>
   injection hz with hz
   subst hz
   unfold mG at hr ⊢
   rw[if_pos h]at hr ⊢
   split
   ·next ho=>rw[if_pos ho]at hr;exact absurd rfl hr
   ·decide
 ·injection hz with hz
  subst hz
  decide
theorem do_err {m:Int} {l:List TxA} {S:SA} (h:dB m l S=0) {kd n k z:Int} {r:List UInt8×List Int×SA} (hz:(if kX m l S kd n k=0 then Except.ok r else Except.error (kX m l S kd n k))=(Except.error z:Except Int (List UInt8×List Int×SA))):0<z∧z≤100:=by
 have:=doE_few h kd n k
 split at hz
 ·cases hz
 ·injection hz with hz
  omega
theorem chgL_err {m:Int} {l:List TxA} {bg:List Int} {S:SA} (h:dB m l S=0) {x a b:List UInt8} {z:Int} (hz:cV m l bg S x a b=.error z):0<z∧z≤100:=by
 unfold cV at hz
 have one:∀{z:Int},(Except.error 1:Except Int (List UInt8×List Int×SA))=.error z→0<z∧z≤100:=fun e=>by injection e with e;subst e;decide
 split at hz
 ·split at hz
  ·split at hz
   ·injection hz with hz;subst hz;decide
   ·cases hz
  ·exact one hz
 split at hz
 ·split at hz
  ·exact do_err h hz
  ·exact one hz
 split at hz
 ·split at hz
  ·exact do_err h hz
  ·exact one hz
 ·exact one hz
theorem obL_err {m:Int} {l:List TxA} {bg:List Int} {S:SA} (h:dB m l S=0) (x:List UInt8) (xs:List (List UInt8)) (z:Int) (hz:qH m l bg S x xs=.error z):0<z∧z≤100:=by
 match xs,hz with
 | [],hz=>
  cases hr:eC m l bg S x with
  | ok p=>rw[qH,hr]at hz;cases hz
  | error y=>
   rw[qH,hr]at hz
   have e:y=z:=by injection hz
   subst e
   exact telL_err h hr
 | [a],hz=>injection hz with hz;subst hz;decide
 | [a,b],hz=>exact chgL_err h hz
 | a::b::c::r,hz=>injection hz with hz;subst hz;decide
end Go.Proofs.YtcgpkonfneofdaaGreatDoor
