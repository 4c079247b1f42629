/- The law polyglotlaw13.MqttFronts: the bytes of a packet truncated are short; the bytes of no packet are a prefix of those of another one: true for every input. Condition: the tables of unicode/utf8 read as the program's text lays them. -/
import Derived.Lay
import Derived.LaidMore
import Derived.Test.YtombgnfedafkjaaGreatDoorCards
import Derived.Test.YtombgnfedafkjaaGreatDoorTie
import Derived.Test.YtombgnfedafkjaaGreatDoorK52
import Derived.Test.YtombgnfedafkjaaGreatDoorK53
set_option maxRecDepth 100000
namespace Go.Proofs.YtombgnfedafkjaaGreatDoor
open Proofs.Tryz
open Go.ChangeShapes Go.WideShapes Go.ChangeAt Go.RowKit
open Go.ChangeMaps (open_string)
theorem q7od(os:Os)(started:os.Started)(H:Type)(enc:TypeId×Value->H) :
 ReturnsInHanded {} Tryz.checked os 5 .any (fun w args=>(Rows.mqttFrontsSpec.pre enc prog Tryz.f5 Rows.mqttFrontsRow.domain false w args/\laidMetH prog Rows.mqttFrontsRow.laid w)/\sizedMet enc prog Tryz.f5 (OpenSpec.ofChange Rows.mqttFrontsSpec) false w args)
  (Rows.mqttFrontsSpec.post enc prog Tryz.f5 false true false false):=by
 refine returnsInHanded_of_change_and (C:=Tryz.checked) (X:=fun w _=>laidMetH prog Rows.mqttFrontsRow.laid w) (fun _ _ _ hh h=>h.of_heap hh) own started (by kernel_rfl) func5
  (ChangeSpec.witness_shaped (enc:=enc) (C:=Tryz.checked) (os:=os) (X:=fun w _=>laidMetH prog Rows.mqttFrontsRow.laid w) false (World.laidAll prog os Rows.mqttFrontsRow.laid) #[.int .i64 0,.agg pkZ,.agg pkZ,.int .i64 0] 8 (World.laidAll_os _ _ _)
   (World.shaped_of_ZipB (by kernel_rfl) (by kernel_rfl)) (by kernel_rfl) (by kernel_rfl) (by kernel_rfl)
   (by rw[MakeChecks.laidMetH_plain _ _ _ (by kernel_rfl)];exact laidMet_laidAll _ (by kernel_rfl) (by kernel_rfl))) ?_
 intro W base args ds gs before hval0 hW _ hsz0 _ _;have hval:∀(j:Nat) t v,Tryz.f5.params[j]?=some t->args[j]?=some v->Value.okWide prog W .any base t v:=hval0;have hW':=hW;obtain⟨p,q,hA0,hV,rfl,hfz,hnd⟩:=hW;have hA:DataW.TrodAll enc prog W 0 (fun _=>true) true Tryz.f5.params.toList args.toList ds p:=hA0;rw[Tryz.params5] at hA hval;obtain⟨v0,vs0,d0,ds0,p0,q0,hargs0,rfl,rfl,h0,r0⟩:=trodAll_cons hA;obtain⟨v1,vs1,d1,ds1,p1,q1,rfl,rfl,rfl,h1,r1⟩:=trodAll_cons r0;obtain⟨v2,vs2,d2,ds2,p2,q2,rfl,rfl,rfl,h2,r2⟩:=trodAll_cons r1;obtain⟨v3,vs3,d3,ds3,p3,q3,rfl,rfl,rfl,h3,r3⟩:=trodAll_cons r2;obtain⟨rfl,rfl,rfl⟩:=trodAll_nil r3;obtain rfl:args=#[v0,v1,v2,v3]:=by cases args;simp_all
 obtain⟨rfl,rfl⟩:=trodVars_none hV;obtain⟨a0,rfl,rfl,rfl,w0⟩:=open_int underlying3 (hval 0 3 v0 rfl rfl) h0;obtain⟨p1_,A1_,rfl,pl1,ok1,ca1⟩:=q22p (hval 1 32 v1 rfl rfl) h1 (fun n hn=>of_decide_eq_true (List.all_eq_true.1 hsz0 n (DataW.weights_mem_each (j:=1) rfl rfl n hn)));obtain⟨p2_,A2_,rfl,pl2,ok2,ca2⟩:=q22p (hval 2 32 v2 rfl rfl) h2 (fun n hn=>of_decide_eq_true (List.all_eq_true.1 hsz0 n (DataW.weights_mem_each (j:=2) rfl rfl n hn)));obtain⟨a3,rfl,rfl,rfl,w3⟩:=open_int underlying3 (hval 3 3 v3 rfl rfl) h3;refine(q9v5 a0 a3 p1_ p2_ A1_ A2_ W pl1 pl2 ok1 ok2 ca1 ca2).mono fun e W' ⟨he,hb⟩=>?_;subst he;exact⟨_,rfl,q27w (tb:=4) q3o7 (by decide+kernel) (by kernel_rfl) underlying4 rfl hW' rfl hb⟩
theorem q0c7:Rows.MqttFrontsSaid:=
 OpenClaim.holds_of_wide 5 Tryz.f5 rfl rfl rfl rfl rfl rfl rfl ⟨rfl,rfl,rfl,rfl,rfl⟩ rfl rfl rfl rfl rfl (by kernel_rfl) func5 (by kernel_rfl)
  (of_decide_eq_true (by kernel_rfl)) (by unfold Func.isWrapper;first|(rw[if_pos (by decide+kernel)];kernel_rfl)|(rw[if_neg (by decide+kernel)];exact⟨rfl,rfl⟩))
  (fun os started H enc _=>q7od os started H enc)
theorem mqttFronts_holds:Rows.MqttFrontsCardSaid:=
 Claim7.holds_tied_plain_at .later [] _ true _ false q0c7 (fun _ h=>by cases h) (by kernel_rfl) (fun _ h=>by cases h) mqttFronts_row_tie rfl ⟨rfl,rfl⟩ (by kernel_rfl) rfl
  (fun f fn hf hfn=>by
   obtain rfl:f=5:=Option.some.inj ((show prog.funcNamed "polyglot/polyglotlaw13.MqttFronts"=some 5 by kernel_rfl).symm.trans hf) |>.symm
   obtain rfl:fn=Tryz.f5:=(Option.some.inj (func5.symm.trans hfn)).symm;exact⟨by kernel_rfl,fun j t ht=>by
    rw[Tryz.params5] at ht;have hm:t∈[3,32,32,3]:=by simpa using Array.mem_of_getElem? ht
    have hall:([3,32,32,3].all fun u=>!prog.wantsStandIn u)=true:=by kernel_rfl
    exact(show prog.wantsStandIn t=false by simpa using List.all_eq_true.1 hall t hm)⟩)
  (by kernel_rfl)
end Go.Proofs.YtombgnfedafkjaaGreatDoor
