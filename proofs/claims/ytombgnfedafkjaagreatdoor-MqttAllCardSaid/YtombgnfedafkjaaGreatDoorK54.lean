/- The law polyglotlaw13.MqttAll: the bytes of packets, one after the other, are these packets; what is left, too short for one, is left: true for every input. Condition: the tables of unicode/utf8 read as the program's text lays them. -/
import Derived.Lay
import Derived.LaidMore
import Derived.Test.YtombgnfedafkjaaGreatDoorCards
import Derived.Test.YtombgnfedafkjaaGreatDoorTie
import Derived.Test.YtombgnfedafkjaaGreatDoorK53
set_option maxRecDepth 100000
namespace Go.Proofs.YtombgnfedafkjaaGreatDoor
open Proofs.Tryz
open Go.ChangeShapes Go.WideShapes Go.ChangeAt Go.RowKit
open Go.ChangeMaps (open_string)
theorem qvd1(os:Os)(started:os.Started)(H:Type)(enc:TypeId×Value->H) :
 ReturnsInHanded {} Tryz.checked os 6 .any (fun w args=>(Rows.mqttAllSpec.pre enc prog Tryz.f6 Rows.mqttAllRow.domain false w args/\laidMetH prog Rows.mqttAllRow.laid w)/\sizedMet enc prog Tryz.f6 (OpenSpec.ofChange Rows.mqttAllSpec) false w args)
  (Rows.mqttAllSpec.post enc prog Tryz.f6 false true false false):=by
 refine returnsInHanded_of_change_and (C:=Tryz.checked) (X:=fun w _=>laidMetH prog Rows.mqttAllRow.laid w) (fun _ _ _ hh h=>h.of_heap hh) own started (by kernel_rfl) func6
  (ChangeSpec.witness_shaped (enc:=enc) (C:=Tryz.checked) (os:=os) (X:=fun w _=>laidMetH prog Rows.mqttAllRow.laid w) false (World.laidAll prog os Rows.mqttAllRow.laid) #[.int .i64 0,.slice none 0 0,.int .i64 0] 8 (World.laidAll_os _ _ _)
   (World.shaped_of_ZipB (by kernel_rfl) (by kernel_rfl)) (by kernel_rfl) (by kernel_rfl) (by kernel_rfl)
   (by rw[MakeChecks.laidMetH_plain _ _ _ (by kernel_rfl)];exact laidMet_laidAll _ (by kernel_rfl) (by kernel_rfl))) ?_
 intro W base args ds gs before hval0 hW _ hsz0 _ _;have hval:∀(j:Nat) t v,Tryz.f6.params[j]?=some t->args[j]?=some v->Value.okWide prog W .any base t v:=hval0;have hW':=hW;obtain⟨p,q,hA0,hV,rfl,hfz,hnd⟩:=hW;have hA:DataW.TrodAll enc prog W 0 (fun _=>true) true Tryz.f6.params.toList args.toList ds p:=hA0;rw[Tryz.params6] at hA hval;obtain⟨v0,vs0,d0,ds0,p0,q0,hargs0,rfl,rfl,h0,r0⟩:=trodAll_cons hA;obtain⟨v1,vs1,d1,ds1,p1,q1,rfl,rfl,rfl,h1,r1⟩:=trodAll_cons r0;obtain⟨v2,vs2,d2,ds2,p2,q2,rfl,rfl,rfl,h2,r2⟩:=trodAll_cons r1;obtain⟨rfl,rfl,rfl⟩:=trodAll_nil r2;obtain rfl:args=#[v0,v1,v2]:=by cases args;simp_all
 obtain⟨rfl,rfl⟩:=trodVars_none hV;obtain⟨a0,rfl,rfl,rfl,w0⟩:=open_int underlying3 (hval 0 3 v0 rfl rfl) h0;obtain⟨A1_,n1_,c1_,l1_,rfl,ln1,nc1,cm1,pl1,ok1⟩:=qnh8 (hval 1 37 v1 rfl rfl) h1 (fun n hn=>of_decide_eq_true (List.all_eq_true.1 hsz0 n (DataW.weights_mem_each (j:=1) rfl rfl n hn)));obtain⟨a2,rfl,rfl,rfl,w2⟩:=open_int underlying3 (hval 2 3 v2 rfl rfl) h2;refine(q2ln a0 a2 A1_ n1_ c1_ l1_ W ln1 pl1 ok1 (Nat.le_trans nc1 cm1)).mono fun e W' ⟨he,hb⟩=>?_;subst he;exact⟨_,rfl,q27w (tb:=4) q3o7 (by decide+kernel) (by kernel_rfl) underlying4 rfl hW' rfl hb⟩
theorem qjy8:Rows.MqttAllSaid:=
 OpenClaim.holds_of_wide 6 Tryz.f6 rfl rfl rfl rfl rfl rfl rfl ⟨rfl,rfl,rfl,rfl,rfl⟩ rfl rfl rfl rfl rfl (by kernel_rfl) func6 (by kernel_rfl)
  (of_decide_eq_true (by kernel_rfl)) (by unfold Func.isWrapper;first|(rw[if_pos (by decide+kernel)];kernel_rfl)|(rw[if_neg (by decide+kernel)];exact⟨rfl,rfl⟩))
  (fun os started H enc _=>qvd1 os started H enc)
theorem mqttAll_holds:Rows.MqttAllCardSaid:=
 Claim7.holds_tied_plain_at .later [] _ true _ false qjy8 (fun _ h=>by cases h) (by kernel_rfl) (fun _ h=>by cases h) mqttAll_row_tie rfl ⟨rfl,rfl⟩ (by kernel_rfl) rfl
  (fun f fn hf hfn=>by
   obtain rfl:f=6:=Option.some.inj ((show prog.funcNamed "polyglot/polyglotlaw13.MqttAll"=some 6 by kernel_rfl).symm.trans hf) |>.symm
   obtain rfl:fn=Tryz.f6:=(Option.some.inj (func6.symm.trans hfn)).symm;exact⟨by kernel_rfl,fun j t ht=>by
    rw[Tryz.params6] at ht;have hm:t∈[3,37,3]:=by simpa using Array.mem_of_getElem? ht
    have hall:([3,37,3].all fun u=>!prog.wantsStandIn u)=true:=by kernel_rfl
    exact(show prog.wantsStandIn t=false by simpa using List.all_eq_true.1 hall t hm)⟩)
  (by kernel_rfl)
end Go.Proofs.YtombgnfedafkjaaGreatDoor
