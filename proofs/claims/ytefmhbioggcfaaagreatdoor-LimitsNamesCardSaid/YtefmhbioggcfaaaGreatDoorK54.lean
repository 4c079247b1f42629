/- The law polyglotlaw15.LimitsNames: the example of the chapter has the result that it states; the edges of limits: true. Condition: the tables of unicode/utf8 read as the program's text lays them. -/
import Derived.Lay
import Derived.LaidMore
import Derived.Test.YtefmhbioggcfaaaGreatDoorCards
import Derived.Test.YtefmhbioggcfaaaGreatDoorTie
import Derived.Test.YtefmhbioggcfaaaGreatDoorK01
import Derived.Test.YtefmhbioggcfaaaGreatDoorK53
set_option maxRecDepth 100000
namespace Go.Proofs.YtefmhbioggcfaaaGreatDoor
open Proofs.Tryz
open Go.ChangeShapes Go.WideShapes Go.ChangeAt Go.RowKit
open Go.ChangeMaps (open_string)
theorem q8t9(os:Os)(started:os.Started)(H:Type)(enc:TypeId×Value->H) :
 ReturnsInHanded {} Tryz.checked os 3 .any (fun w args=>(Rows.limitsNamesSpec.pre enc prog Tryz.f3 Rows.limitsNamesRow.domain false w args/\laidMetH prog Rows.limitsNamesRow.laid w)/\sizedMet enc prog Tryz.f3 (OpenSpec.ofChange Rows.limitsNamesSpec) false w args)
  (Rows.limitsNamesSpec.post enc prog Tryz.f3 false true false false):=by
 refine returnsInHanded_of_change_and (C:=Tryz.checked) (X:=fun w _=>laidMetH prog Rows.limitsNamesRow.laid w) (fun _ _ _ hh h=>h.of_heap hh) own started (by kernel_rfl) func3
  (ChangeSpec.witness_shaped (enc:=enc) (C:=Tryz.checked) (os:=os) (X:=fun w _=>laidMetH prog Rows.limitsNamesRow.laid w) false (World.laidAll prog os Rows.limitsNamesRow.laid) #[] 8 (World.laidAll_os _ _ _)
   (World.shaped_of_ZipB (by kernel_rfl) (by kernel_rfl)) (by kernel_rfl) (by kernel_rfl) (by kernel_rfl)
   (by rw[MakeChecks.laidMetH_plain _ _ _ (by kernel_rfl)];exact laidMet_laidAll _ (by kernel_rfl) (by kernel_rfl))) ?_
 intro W base args ds gs before hval0 hW _ _ _ _;have hW':=hW;obtain⟨p,q,hA0,hV,rfl,hfz,hnd⟩:=hW;have hA:DataW.TrodAll enc prog W 0 (fun _=>true) true Tryz.f3.params.toList args.toList ds p:=hA0;rw[Tryz.params3] at hA;obtain⟨hargs,rfl,rfl⟩:=trodAll_nil hA;obtain rfl:args=#[]:=by cases args;simp_all
 obtain⟨rfl,rfl⟩:=trodVars_none hV;refine(qh8w W).mono fun e W' ⟨he,hb⟩=>?_;subst he;exact⟨_,rfl,q27w (tb:=4) q3o7 (by decide+kernel) (by kernel_rfl) underlying4 rfl hW' rfl hb⟩
theorem q4oa:Rows.LimitsNamesSaid:=
 OpenClaim.holds_of_wide 3 Tryz.f3 rfl rfl rfl rfl rfl rfl rfl ⟨rfl,rfl,rfl,rfl,rfl⟩ rfl rfl rfl rfl rfl (by kernel_rfl) func3 (by kernel_rfl)
  (of_decide_eq_true (by kernel_rfl)) (by unfold Func.isWrapper;first|(rw[if_pos (by decide+kernel)];kernel_rfl)|(rw[if_neg (by decide+kernel)];exact⟨rfl,rfl⟩))
  (fun os started H enc _=>q8t9 os started H enc)
theorem limitsNames_holds:Rows.LimitsNamesCardSaid:=
 Claim7.holds_tied_plain_at .later [] _ true _ false q4oa (fun _ h=>by cases h) (by kernel_rfl) (fun _ h=>by cases h) limitsNames_row_tie rfl ⟨rfl,rfl⟩ (by kernel_rfl) rfl
  (fun f fn hf hfn=>by
   obtain rfl:f=3:=Option.some.inj ((show prog.funcNamed "polyglot/polyglotlaw15.LimitsNames"=some 3 by kernel_rfl).symm.trans hf) |>.symm
   obtain rfl:fn=Tryz.f3:=(Option.some.inj (func3.symm.trans hfn)).symm;exact⟨by kernel_rfl,fun j t ht=>by
    rw[Tryz.params3] at ht;have hm:t∈[]:=by simpa using Array.mem_of_getElem? ht
    have hall:([].all fun u=>!prog.wantsStandIn u)=true:=by kernel_rfl
    exact(show prog.wantsStandIn t=false by simpa using List.all_eq_true.1 hall t hm)⟩)
  (by kernel_rfl)
end Go.Proofs.YtefmhbioggcfaaaGreatDoor
