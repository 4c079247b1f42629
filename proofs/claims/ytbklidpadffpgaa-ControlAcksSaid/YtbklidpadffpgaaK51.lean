/- The walk of ControlAcks. Condition: the packet's fields are what their types hold; its lists within their capacities. -/
import Derived.Deep.DeepCutAuto
import Derived.Test.YtbklidpadffpgaaK50
import Derived.Test.YtbklidpadffpgaaK24
import Derived.Test.YtbklidpadffpgaaK44
import Derived.Test.YtbklidpadffpgaaK06
import Derived.Test.YtbklidpadffpgaaK21
import Derived.Test.YtbklidpadffpgaaK14
import Derived.Test.YtbklidpadffpgaaK15
set_option maxHeartbeats 2000000
set_option maxRecDepth 100000
namespace Go.Proofs.Ytbklidpadffpgaa
open Go.RowKit
theorem qpgy{L:List UInt8}:(bs L).extract 2 (bs L).size=bs (L.drop 2):=by
 apply ByteArray.ext
 rw[ByteArray.data_extract]
 apply Array.ext'
 simp[bs,ByteArray.size]
 exact List.take_of_length_le (by simp)
theorem qc6i(p:Pk)(a:Ad)(w:World)(hp:PkAt w p a)(ok:PkOk p)(ca:PkCap p a) :
 Calls Try.prog 4 #[pkV p a] w fun e w'=>e = .returned (.bool true)∧Below w.heap.size w w':=by
 have S0:=Lib.hid (BxS.made w p a)
 have LG:=fun W (h:BxS w p a W)=>q1dl p a W (hp.below h.low) ok
 have C1:=Lib.hid (qwmp p a)
 cases hl:qa3g p with
 | false=>
  rw[hl] at LG
  replace LG:=Lib.hid LG
  clear hl
  unfold pkV at *
  go_enter Try.func4,Try.ntmps4
  go_wp2_with fail
  refine(qpnd _).mono ?_
  rintro e W ⟨rfl,hb⟩
  have S1:=Lib.hid (S0.out.call hb)
  clear hb
  go_wp2_with (refine wpList_load_row rfl _ _ rfl w.heap.size rfl 30 _ (0,0) _ S1.out.box Try.underlying30 rfl (by rw[C1.out];exact q5nr) ?_)
  refine(LG.out _ S1.out).mono ?_
  rintro e W2 ⟨rfl,hb⟩
  have L2:=Lib.hid (qxh2 S1.out.low hb)
  clear hb
  go_wp2_with fail
  go_ret
  exact⟨rfl,L2.out⟩
 | true=>
  rw[hl] at LG
  have sh:=q2qrt hl
  have sp:q21o p:=⟨by omega,by omega,by omega,by omega⟩
  replace LG:=Lib.hid LG
  have BO:=fun W (h:BxS w p a W)=>(q9ca 5 p a W (hp.below h.low) sp ok ca.pc).mono fun e W' hh=>(⟨hh.1,h.call hh.2⟩:_∧BxS w p a W')
  have VA:=fun W (h:BxS w p a W)=>(qat7 5 p a W (hp.below h.low) sp ok ca.pc).mono fun e W' hh=>(⟨hh.1,h.call hh.2⟩:_∧BxS w p a W')
  have TL:=fun W (h:BxS w p a W)=>(qv9d p.code p.kind p a W (hp.below h.low) sp ok ca.pc ok.kind).mono fun e W' hh=>(⟨hh.1,h.call hh.2⟩:_∧BxS w p a W')
  unfold q04h at BO
  by_cases hv:qryp 5 p=0
  ·rw[if_neg (by simpa using hv)] at BO
   obtain⟨ht,hlen⟩:=qd90 hv
   have h2:2≤(bs (rawA 5 p)).size:=by rw[q5zk];exact hlen
   have hX:(bs (rawA 5 p)).extract 2 (bs (rawA 5 p)).size=bs (q4py p.code p.props p.kind):=by rw[qpgy,ht]
   generalize bs (rawA 5 p)=Z at *
   generalize bs (q4py p.code p.props p.kind)=X at *
   have HZX:=Lib.hid (And.intro h2 hX)
   replace BO:=Lib.hid BO
   replace TL:=Lib.hid TL
   clear hv ht hlen h2 hX VA hl sh sp
   unfold pkV at *
   go_enter Try.func4,Try.ntmps4
   go_wp2_with fail
   refine(qpnd _).mono ?_
   rintro e W ⟨rfl,hb⟩
   have S1:=Lib.hid (S0.out.call hb)
   clear hb
   go_wp2_with (refine wpList_load_row rfl _ _ rfl w.heap.size rfl 30 _ (0,0) _ S1.out.box Try.underlying30 rfl (by rw[C1.out];exact q5nr) ?_)
   refine(LG.out _ S1.out).mono ?_
   rintro e W2 ⟨rfl,hb⟩
   have S2:=Lib.hid (S1.out.call hb)
   clear hb S1 S0
   go_wp2_with (refine wpList_load_row rfl _ _ rfl w.heap.size rfl 30 _ (0,0) _ S2.out.box Try.underlying30 rfl (by rw[C1.out];exact q5nr) ?_)
   refine(BO.out _ S2.out).mono ?_
   rintro e W3 ⟨rfl,hb⟩
   have S3:=Lib.hid hb
   clear hb S2
   go_upto_region 8 with fail
   refine qt1n (S:=BxS w p a) (b:=w.heap.size) S3.out.draw HZX.out.1 HZX.out.2 (fun W h=>h.cell 0) (fun W h=>h.cell 21) (fun W h=>h.cell 24) TL.out ?_
   intro W h
   have LO:=Lib.hid h.low
   clear h
   go_wp2_with fail
   go_ret
   exact⟨rfl,LO.out⟩
  ·rw[if_pos hv] at BO
   generalize qryp 5 p=E at *
   have g1:((E:Int)==0)=false:=by simp;omega
   have g2:((E:Int) != 0)=true:=by simp;omega
   have z0:((bs []).toList==[])=true:=by rw[q0c6];rfl
   replace BO:=Lib.hid BO
   replace VA:=Lib.hid VA
   clear hv TL hl sh sp
   unfold pkV at *
   go_enter Try.func4,Try.ntmps4
   go_wp2_with fail
   refine(qpnd _).mono ?_
   rintro e W ⟨rfl,hb⟩
   have S1:=Lib.hid (S0.out.call hb)
   clear hb
   go_wp2_with (refine wpList_load_row rfl _ _ rfl w.heap.size rfl 30 _ (0,0) _ S1.out.box Try.underlying30 rfl (by rw[C1.out];exact q5nr) ?_)
   refine(LG.out _ S1.out).mono ?_
   rintro e W2 ⟨rfl,hb⟩
   have S2:=Lib.hid (S1.out.call hb)
   clear hb S1 S0
   go_wp2_with (refine wpList_load_row rfl _ _ rfl w.heap.size rfl 30 _ (0,0) _ S2.out.box Try.underlying30 rfl (by rw[C1.out];exact q5nr) ?_)
   refine(BO.out _ S2.out).mono ?_
   rintro e W3 ⟨rfl,hb⟩
   have S3:=Lib.hid hb
   clear hb S2
   go_wp2_with (first
    | (refine q2a5 rfl _ _ rfl w.heap.size rfl 30 _ (0,0) _ S3.out.box Try.underlying30 rfl (by rw[C1.out];exact q5nr) ?_)
    | (refine wpList_load_row rfl _ _ rfl w.heap.size rfl 30 _ (0,0) _ S3.out.box Try.underlying30 rfl (by rw[C1.out];exact q5nr) ?_))
   refine(VA.out _ S3.out).mono ?_
   rintro e W4 ⟨rfl,hb⟩
   have LO:=Lib.hid hb.low
   clear hb
   go_wp2_with fail
   go_ret
   exact⟨rfl,LO.out⟩
end Go.Proofs.Ytbklidpadffpgaa
