/- The law polyglotlaw15.LimitsStream: a stream that is fed the chunks, however bytes are cut, tells what the split tells: true for every input. Condition: the tables of unicode/utf8 read as the program's text lays them. -/
import Derived.Lay
import Derived.LaidMore
import Derived.Test.YtefmhbioggcfaaaGreatDoorCards
import Derived.Test.YtefmhbioggcfaaaGreatDoorTie
import Derived.Test.YtefmhbioggcfaaaGreatDoorK52
import Derived.Test.YtefmhbioggcfaaaGreatDoorK14
import Derived.Test.YtefmhbioggcfaaaGreatDoorK53
set_option maxRecDepth 100000
namespace Go.Proofs.YtefmhbioggcfaaaGreatDoor
open Proofs.Tryz
open Go.ChangeShapes Go.WideShapes Go.ChangeAt Go.RowKit
open Go.ChangeMaps (open_string)
theorem ql6n(os:Os)(started:os.Started)(H:Type)(enc:TypeId×Value->H) :
 ReturnsInHanded {} Tryz.checked os 4 .any (fun w args=>(Rows.limitsStreamSpec.pre enc prog Tryz.f4 Rows.limitsStreamRow.domain false w args/\laidMetH prog Rows.limitsStreamRow.laid w)/\sizedMet enc prog Tryz.f4 (OpenSpec.ofChange Rows.limitsStreamSpec) false w args)
  (Rows.limitsStreamSpec.post enc prog Tryz.f4 false true false false):=by
 refine returnsInHanded_of_change_and (C:=Tryz.checked) (X:=fun w _=>laidMetH prog Rows.limitsStreamRow.laid w) (fun _ _ _ hh h=>h.of_heap hh) own started (by kernel_rfl) func4
  (ChangeSpec.witness_shaped (enc:=enc) (C:=Tryz.checked) (os:=os) (X:=fun w _=>laidMetH prog Rows.limitsStreamRow.laid w) false (World.laidAll prog os Rows.limitsStreamRow.laid) #[.int .i64 0,.agg #[.int .i64 0,.int .i64 0],.string .empty,.slice none 0 0] 8 (World.laidAll_os _ _ _)
   (World.shaped_of_ZipB (by kernel_rfl) (by kernel_rfl)) (by kernel_rfl) (by kernel_rfl) (by kernel_rfl)
   (by rw[MakeChecks.laidMetH_plain _ _ _ (by kernel_rfl)];exact laidMet_laidAll _ (by kernel_rfl) (by kernel_rfl))) ?_
 intro W base args ds gs before hval0 hW _ _ _ _;have hval:∀(j:Nat) t v,Tryz.f4.params[j]?=some t->args[j]?=some v->Value.okWide prog W .any base t v:=hval0;have hW':=hW;obtain⟨p,q,hA0,hV,rfl,hfz,hnd⟩:=hW;have hA:DataW.TrodAll enc prog W 0 (fun _=>true) true Tryz.f4.params.toList args.toList ds p:=hA0;rw[Tryz.params4] at hA hval;obtain⟨v0,vs0,d0,ds0,p0,q0,hargs0,rfl,rfl,h0,r0⟩:=trodAll_cons hA;obtain⟨v1,vs1,d1,ds1,p1,q1,rfl,rfl,rfl,h1,r1⟩:=trodAll_cons r0;obtain⟨v2,vs2,d2,ds2,p2,q2,rfl,rfl,rfl,h2,r2⟩:=trodAll_cons r1;obtain⟨v3,vs3,d3,ds3,p3,q3,rfl,rfl,rfl,h3,r3⟩:=trodAll_cons r2;obtain⟨rfl,rfl,rfl⟩:=trodAll_nil r3;obtain rfl:args=#[v0,v1,v2,v3]:=by cases args;simp_all
 obtain⟨rfl,rfl⟩:=trodVars_none hV;obtain⟨a0,rfl,rfl,rfl,w0⟩:=open_int underlying3 (hval 0 3 v0 rfl rfl) h0;obtain⟨a1,b1,rfl⟩:=qzjg (hval 1 24 v1 rfl rfl) h1;obtain⟨a2,rfl,rfl,rfl,w2⟩:=open_string underlying9 (hval 2 9 v2 rfl rfl) h2;unfold maxLen at w2;obtain⟨A3,n3,c3,zs3,rfl,hnc3,hcm3,hc3,hl3,ir3⟩:=qus1 (hval 3 35 v3 rfl rfl) h3;unfold maxLen at hcm3;refine(qyp1 a0 a1 b1 a2 A3 n3 c3 zs3 W ir3 hl3).mono fun e W' ⟨he,hb⟩=>?_;subst he;exact⟨_,rfl,q27w (tb:=4) q3o7 (by decide+kernel) (by kernel_rfl) underlying4 rfl hW' rfl hb⟩
theorem qowx:Rows.LimitsStreamSaid:=
 OpenClaim.holds_of_wide 4 Tryz.f4 rfl rfl rfl rfl rfl rfl rfl ⟨rfl,rfl,rfl,rfl,rfl⟩ rfl rfl rfl rfl rfl (by kernel_rfl) func4 (by kernel_rfl)
  (of_decide_eq_true (by kernel_rfl)) (by unfold Func.isWrapper;first|(rw[if_pos (by decide+kernel)];kernel_rfl)|(rw[if_neg (by decide+kernel)];exact⟨rfl,rfl⟩))
  (fun os started H enc _=>ql6n os started H enc)
theorem limitsStream_holds:Rows.LimitsStreamCardSaid:=
 Claim7.holds_tied_plain_at .later [] _ true _ false qowx (fun _ h=>by cases h) (by kernel_rfl) (fun _ h=>by cases h) limitsStream_row_tie rfl ⟨rfl,rfl⟩ (by kernel_rfl) rfl
  (fun f fn hf hfn=>by
   obtain rfl:f=4:=Option.some.inj ((show prog.funcNamed "polyglot/polyglotlaw15.LimitsStream"=some 4 by kernel_rfl).symm.trans hf) |>.symm
   obtain rfl:fn=Tryz.f4:=(Option.some.inj (func4.symm.trans hfn)).symm;exact⟨by kernel_rfl,fun j t ht=>by
    rw[Tryz.params4] at ht;have hm:t∈[3,24,9,35]:=by simpa using Array.mem_of_getElem? ht
    have hall:([3,24,9,35].all fun u=>!prog.wantsStandIn u)=true:=by kernel_rfl
    exact(show prog.wantsStandIn t=false by simpa using List.all_eq_true.1 hall t hm)⟩)
  (by kernel_rfl)
end Go.Proofs.YtefmhbioggcfaaaGreatDoor
