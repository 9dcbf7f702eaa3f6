/- The law DeskSound of the document (promises J1, K1, M1) returns true at every input that its statement admits:
  a desk that is asked, line by line, to do any steps that can be done, then to rest and to be audited, stands and is found right (DeskSound).
  Conditions: the library's variables that the row lists are as the program's text lays them (the card ties them); none beyond the form's own besides.
-/
import Derived.Test.YtcgpkonfneofdaaGreatDoorSLawB
import Derived.LaidMore
import Derived.Lay
import Derived.Stop.Joined
import Derived.Stop.LaidErr
import Derived.MakeChecks
import Derived.Lib.LaidTab
import Derived.Shelf.Vars
import Derived.ChangeMaps5
import Derived.SizedLaws
import Derived.SevenTiedAt
import Derived.Test.YtcgpkonfneofdaaGreatDoorCards
import Derived.Test.YtcgpkonfneofdaaGreatDoorTie
set_option maxRecDepth 100000
set_option maxHeartbeats 8000000
namespace Go.Proofs.YtcgpkonfneofdaaGreatDoor
open Go.RowKit
section
open Go.ChangeShapes Go.WideShapes Go.ChangeAt Go.RowKit
theorem star1 : "*"++ "errors.errorString" = "*errors.errorString":=by decide
theorem rowES (u:TypeId) (h:Tryz.prog.typeName? 3 u=some "*errors.errorString"):u=297:=
 typeName_ptr_named (nm:= "errors.errorString") (by rw[star1];kernel_rfl) (by kernel_rfl) (by decide) u (by rw[star1];exact h)
theorem std_of {W:World} (hL:laidMetH Tryz.prog Rows.deskPlaysRow.laid W) (hsh:W.ShapedOpen Tryz.prog):Std W:=by
 rw[MakeChecks.laidMetH_plain _ _ _ (by kernel_rfl)]at hL
 have h0:laidMet Tryz.prog (_::_::("internal/strconv.uint64pow10",Rows.laid_internal_strconv_uint64pow10)::_::("strconv.ErrRange",Rows.laid_strconv_ErrRange)::("strconv.ErrSyntax",Rows.laid_strconv_ErrSyntax)::_) W:=hL
 have h2:=h0.tail.tail
 have h4:=h2.tail.tail
 have h5:=h4.tail
 refine⟨?_,?_,?_,?_⟩
 ·exact Lib.tabIs_of_head (g:=1) (t:=226) (e:=195) (n:=20) (by kernel_rfl) (by kernel_rfl) (by kernel_rfl) (by kernel_rfl) (by kernel_rfl) (by kernel_rfl) h2
 ·obtain⟨a,s,hv,-,-,-⟩:=laid_sentinel h5 (g:=4) (ti:=58) (by kernel_rfl) (by kernel_rfl) Tryz.underlying58 rowES Tryz.underlying297 Tryz.underlying299 rfl rfl Tryz.underlying9 (by kernel_rfl) (by kernel_rfl)
  exact⟨_,_,hv⟩
 ·obtain⟨a,s,hv,-,-,-⟩:=laid_sentinel h4 (g:=5) (ti:=58) (by kernel_rfl) (by kernel_rfl) Tryz.underlying58 rowES Tryz.underlying297 Tryz.underlying299 rfl rfl Tryz.underlying9 (by kernel_rfl) (by kernel_rfl)
  exact⟨_,_,hv⟩
 ·exact cell_of_shapedOpen_int (g:=0) (t:=3) (zero:=#[.int .i64 0]) hsh (of_decide_eq_true (by kernel_rfl)) (by kernel_rfl) rfl (by kernel_rfl) (by kernel_rfl) Tryz.underlying3
end
section
open Go.ChangeShapes Go.WideShapes Go.ChangeAt Go.RowKit Go.Deep
theorem oV (os:Os) (started:os.Started) (H:Type) (enc:TypeId×Value→H) :
  ReturnsInHanded {} Tryz.checked os 4 .any (fun w args=>(Rows.deskSoundSpec.pre enc Tryz.prog Tryz.f4 Rows.deskSoundRow.domain false w args∧laidMetH Tryz.prog Rows.deskSoundRow.laid w)∧sizedMet enc Tryz.prog Tryz.f4 (OpenSpec.ofChange Rows.deskSoundSpec) false w args) (Rows.deskSoundSpec.post enc Tryz.prog Tryz.f4 false true false false):=by
 refine returnsInHanded_of_calls (C:=Tryz.checked) ownK started (by kernel_rfl)
  (ChangeSpec.witness_shaped (enc:=enc) (C:=Tryz.checked) (os:=os) (X:=fun w _=>laidMetH Tryz.prog Rows.deskSoundRow.laid w) false (World.laidAll Tryz.prog os Rows.deskSoundRow.laid) #[.agg #[.int .i64 0,.slice none 0 0],.slice none 0 0] 8 (World.laidAll_os _ _ _)
   (World.shaped_of_ZipB (by kernel_rfl) (by kernel_rfl)) (by kernel_rfl) (by kernel_rfl) (by kernel_rfl)
   (by rw[MakeChecks.laidMetH_plain _ _ _ (by kernel_rfl)];exact laidMet_laidAll _ (by kernel_rfl) (by kernel_rfl))) ?_
 intro w tape i _ hsh _ hok hpre _
 obtain⟨_,_,_,fn',hfn',_,_,_,_,hval0⟩:=hok
 obtain rfl:fn'=Tryz.f4:=Option.some.inj (hfn'.symm.trans Tryz.func4)
 obtain⟨⟨⟨ds,gs0,before,hw,hcnd⟩,hx⟩,hz⟩:=hpre
 have hW:DataW.Whole enc Tryz.prog Tryz.f4.params.toList Rows.deskSoundSpec.vars false (w.forCall tape i) i.args.toList ds gs0 before:=DataW.Whole.of_heap (by rfl) hw
 have hsz:(DataW.weightsEach Tryz.prog (Tryz.f4.params.toList++Rows.deskSoundSpec.plain.varTypes Tryz.prog) (ds++gs0)).all (·≤reachBytes)=true:=hz.weights hw
 have hS:Std (w.forCall tape i):=std_of (hx.of_heap (by rfl)) hsh
 clear hw hx hz hsh hcnd
 generalize w.forCall tape i=W at *
 generalize w.heap.size=base at *
 generalize i.args=args at *
 suffices hc:Calls Tryz.prog 4 args W fun e W'=>∃v,e=.returned v∧Rows.deskSoundSpec.post enc Tryz.prog Tryz.f4 false true false false W args v W' by
  refine hc.mono ?_
  rintro e W' ⟨v,rfl,hp⟩
  exact ChangeSpec.post_blind hp
 have hval:∀(j:Nat) t v,Tryz.f4.params[j]?=some t→args[j]?=some v→Value.okWide Tryz.prog W .any base t v:=hval0
 have hW':=hW
 obtain⟨p,q,hA0,hV,rfl,hfz,hnd⟩:=hW
 have hA:DataW.TrodAll enc Tryz.prog W 0 (fun _=>true) true Tryz.f4.params.toList args.toList ds p:=hA0
 rw[Tryz.params4]at hA hval hsz
 obtain⟨v0,vs0,d0,ds0,p0,q0,hargs,rfl,rfl,h0,r0⟩:=trodAll_cons hA
 obtain⟨v1,vs1,d1,ds1,p1,q1,rfl,rfl,rfl,h1,r1⟩:=trodAll_cons r0
 obtain⟨rfl,rfl,rfl⟩:=trodAll_nil r1
 obtain rfl:args=#[v0,v1]:=by cases args;simp_all
 obtain⟨rfl,rfl⟩:=trodVars_none hV
 have k0:=h0
 have lt0:∀x∈p0,x.block<W.heap.size:=by obtain⟨m,hm⟩:=k0;exact DataW.trod_lt m _ _ _ hm
 have k1:=h1
 have lt1:∀x∈p1,x.block<W.heap.size:=by obtain⟨m,hm⟩:=k1;exact DataW.trod_lt m _ _ _ hm
 obtain⟨m0,la0,l0,lc0,rfl,hl0,hv0⟩:=open_p64 (hval 0 29 v0 rfl rfl) h0
 obtain⟨xa1,L1,xc1,rfl,hm1,hx1,h31⟩:=open_sts (hval 1 30 v1 rfl rfl) h1
 have hm2:L1.length≤9223372036854775807:=by unfold maxLen at hm1;omega
 clear hA0 hval0
 refine(tZ la0 lc0 l0 m0 xa1 xc1 L1 W hl0 hx1 h31 hv0 hS hm2).mono fun e W' ⟨he,bel⟩=>?_
 subst he
 exact⟨_,rfl,_,_,_,[],_,[],hW',trodAll_mk1 (shut_bool Tryz.underlying4 _),(trodAll_cons_mk (Below.trod aBc (by kernel_rfl) (of_decide_eq_true (by kernel_rfl)) k0 bel lt0) (trodAll_cons_mk (Below.trod aBc (by kernel_rfl) (of_decide_eq_true (by kernel_rfl)) k1 bel lt1) trodAll_mk0)),rfl,bel.frame _,fun h=>by cases h⟩
theorem tE:Rows.DeskSoundSaid:=
 OpenClaim.holds_of_wide 4 Tryz.f4 rfl rfl rfl rfl rfl rfl rfl ⟨rfl,rfl,rfl,rfl,rfl⟩ rfl rfl rfl rfl rfl (by kernel_rfl) Tryz.func4 (by kernel_rfl)
  (of_decide_eq_true (by kernel_rfl)) (by unfold Func.isWrapper;first | (rw[if_pos (by decide +kernel)];kernel_rfl) | (rw[if_neg (by decide +kernel)];exact⟨rfl,rfl⟩))
  (fun os started H enc _=>oV os started H enc)
theorem deskSound_holds:Rows.DeskSoundCardSaid:=
 Claim7.holds_tied_plain_at .later [] [.data,.data,.data,.data,.sentinel,.sentinel,.pinned] true (true,"dcab18beaf62a5b6dd9cccdd1b12eb97303b68388c7de6ab0fbb2eb061c25f40") true tE (fun _ h=>by cases h) (by kernel_rfl) (fun _ h=>by cases h) deskSound_row_tie rfl ⟨rfl,rfl⟩ (by kernel_rfl) rfl
  (fun f fn hf hfn=>by
   obtain rfl:f=4:=Option.some.inj ((show Tryz.prog.funcNamed "marchpast/marchpastlaw.DeskSound" = some 4 by kernel_rfl).symm.trans hf) |>.symm
   obtain rfl:fn=Tryz.f4:=(Option.some.inj (Tryz.func4.symm.trans hfn)).symm
   exact⟨by kernel_rfl,fun j t ht=>by
    rw[Tryz.params4]at ht
    have hm:t∈[29,30]:=by simpa using Array.mem_of_getElem? ht
    have hall:([29,30].all fun u=>!Tryz.prog.wantsStandIn u)=true:=by kernel_rfl
    exact(show Tryz.prog.wantsStandIn t=false by simpa using List.all_eq_true.1 hall t hm)⟩)
  (by kernel_rfl)
#print axioms deskSound_holds
end
end Go.Proofs.YtcgpkonfneofdaaGreatDoor
