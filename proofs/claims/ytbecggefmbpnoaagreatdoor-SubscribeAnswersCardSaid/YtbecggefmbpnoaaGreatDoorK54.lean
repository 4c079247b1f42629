/- The law polyglotlaw11.SubscribeAnswers: an answer has one code per filter, and the same id; with one filter more, or another id, it is not an answer: true for every input. Condition: the tables of unicode/utf8 read as the program's text lays them. -/
import Derived.Lay
import Derived.LaidMore
import Derived.Stop.Joined
import Derived.SevenTiedAt
import Derived.SizedLaws
import Derived.Test.YtbecggefmbpnoaaGreatDoorCards
import Derived.Test.YtbecggefmbpnoaaGreatDoorTie
import Derived.Test.YtbecggefmbpnoaaGreatDoorK01
import Derived.Test.YtbecggefmbpnoaaGreatDoorK52
import Derived.Test.YtbecggefmbpnoaaGreatDoorK53
set_option maxRecDepth 100000
namespace Go.Proofs.YtbecggefmbpnoaaGreatDoor
open Go.ChangeShapes Go.WideShapes Go.ChangeAt Go.RowKit
open Go.ChangeMaps (open_string)
theorem qdge(os:Os)(started:os.Started)(H:Type)(enc:TypeId×Value→H) :
 ReturnsInHanded {} Tryz.checked os 7 .any (fun w args=>(Rows.subscribeAnswersSpec.pre enc Tryz.prog Tryz.f7 Rows.subscribeAnswersRow.domain false w args∧laidMetH Tryz.prog Rows.subscribeAnswersRow.laid w)∧sizedMet enc Tryz.prog Tryz.f7 (OpenSpec.ofChange Rows.subscribeAnswersSpec) false w args)
  (Rows.subscribeAnswersSpec.post enc Tryz.prog Tryz.f7 false true false false):=by
 refine returnsInHanded_of_change_and (C:=Tryz.checked) (X:=fun w _=>laidMetH Tryz.prog Rows.subscribeAnswersRow.laid w) (fun _ _ _ hh h=>h.of_heap hh) own started (by kernel_rfl) Tryz.func7
  (ChangeSpec.witness_shaped (enc:=enc) (C:=Tryz.checked) (os:=os) (X:=fun w _=>laidMetH Tryz.prog Rows.subscribeAnswersRow.laid w) false (World.laidAll Tryz.prog os Rows.subscribeAnswersRow.laid) #[.int .i64 0,.int .u16 0,.slice none 0 0,.slice none 0 0] 8 (World.laidAll_os _ _ _)
   (World.shaped_of_ZipB (by kernel_rfl) (by kernel_rfl)) (by kernel_rfl) (by kernel_rfl) (by kernel_rfl)
   (by rw[MakeChecks.laidMetH_plain _ _ _ (by kernel_rfl)];exact laidMet_laidAll _ (by kernel_rfl) (by kernel_rfl))) ?_
 intro W base args ds gs before hval0 hW _ hsz0 _ _
 have hval:∀(j:Nat) t v,Tryz.f7.params[j]? = some t→args[j]? = some v→Value.okWide Tryz.prog W .any base t v:=hval0
 have hW':=hW
 obtain⟨p,q,hA0,hV,rfl,hfz,hnd⟩:=hW
 have hA:DataW.TrodAll enc Tryz.prog W 0 (fun _=>true) true Tryz.f7.params.toList args.toList ds p:=hA0
 rw[Tryz.params7] at hA hval
 obtain⟨v0,vs0,d0,ds0,p0,q0,hargs0,rfl,rfl,h0,r0⟩:=trodAll_cons hA
 obtain⟨v1,vs1,d1,ds1,p1,q1,rfl,rfl,rfl,h1,r1⟩:=trodAll_cons r0
 obtain⟨v2,vs2,d2,ds2,p2,q2,rfl,rfl,rfl,h2,r2⟩:=trodAll_cons r1
 obtain⟨v3,vs3,d3,ds3,p3,q3,rfl,rfl,rfl,h3,r3⟩:=trodAll_cons r2
 obtain⟨rfl,rfl,rfl⟩:=trodAll_nil r3
 obtain rfl:args=#[v0,v1,v2,v3]:=by cases args;simp_all
 obtain⟨rfl,rfl⟩:=trodVars_none hV
 obtain⟨a0,rfl,rfl,rfl,w0⟩:=open_int Tryz.underlying3 (hval 0 3 v0 rfl rfl) h0
 obtain⟨a1,rfl,rfl,rfl,w1⟩:=open_int Tryz.underlying51 (hval 1 51 v1 rfl rfl) h1
 obtain⟨A2_,n2_,c2_,l2_,rfl,ln2,sr2,sl2⟩:=q605 (hval 2 52 v2 rfl rfl) h2 (fun n hn=>of_decide_eq_true (List.all_eq_true.1 hsz0 n (DataW.weights_mem_each (j:=2) rfl rfl n hn)))
 obtain⟨A3,n3,c3,zs3,rfl,hn3,hz3,hc3⟩:=qpjm Tryz.underlying26 Tryz.underlying3 (by kernel_rfl) (hval 3 26 v3 rfl rfl) h3
 obtain⟨n1,rfl,hn1⟩:=qpe7 w1
 obtain⟨C3,hC3,cl3⟩:=qd2j hc3
 subst ln2
 refine(qxsr a0 n1 A2_ A3 c2_ c3 n3 l2_ C3 W sr2 cl3 hC3 (by omega)).mono fun e W' ⟨he,hb⟩=>?_
 subst he
 exact⟨_,rfl,q27w (tb:=4) q3o7 (by decide+kernel) (by kernel_rfl) Tryz.underlying4 rfl hW' rfl hb⟩
theorem q09mq:Rows.SubscribeAnswersSaid:=
 OpenClaim.holds_of_wide 7 Tryz.f7 rfl rfl rfl rfl rfl rfl rfl ⟨rfl,rfl,rfl,rfl,rfl⟩ rfl rfl rfl rfl rfl (by kernel_rfl) Tryz.func7 (by kernel_rfl)
  (of_decide_eq_true (by kernel_rfl)) (by unfold Func.isWrapper;first | (rw[if_pos (by decide+kernel)];kernel_rfl) | (rw[if_neg (by decide+kernel)];exact⟨rfl,rfl⟩))
  (fun os started H enc _=>qdge os started H enc)
theorem subscribeAnswers_holds:Rows.SubscribeAnswersCardSaid:=
 Claim7.holds_tied_plain_at .later [] _ true _ false q09mq (fun _ h=>by cases h) (by kernel_rfl) (fun _ h=>by cases h) subscribeAnswers_row_tie rfl ⟨rfl,rfl⟩ (by kernel_rfl) rfl
  (fun f fn hf hfn=>by
   obtain rfl:f=7:=Option.some.inj ((show Tryz.prog.funcNamed "polyglot/polyglotlaw11.SubscribeAnswers"=some 7 by kernel_rfl).symm.trans hf) |>.symm
   obtain rfl:fn=Tryz.f7:=(Option.some.inj (Tryz.func7.symm.trans hfn)).symm
   exact⟨by kernel_rfl,fun j t ht=>by
    rw[Tryz.params7] at ht
    have hm:t∈[3,51,52,26]:=by simpa using Array.mem_of_getElem? ht
    have hall:([3,51,52,26].all fun u=>!Tryz.prog.wantsStandIn u)=true:=by kernel_rfl
    exact(show Tryz.prog.wantsStandIn t=false by simpa using List.all_eq_true.1 hall t hm)⟩)
  (by kernel_rfl)
end Go.Proofs.YtbecggefmbpnoaaGreatDoor
