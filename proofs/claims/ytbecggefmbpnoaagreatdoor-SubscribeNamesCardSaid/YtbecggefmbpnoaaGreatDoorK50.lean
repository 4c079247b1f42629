/- The contract of subscribe.Answers. Condition: the packets' fields are what their types hold; they have no more than 70,000 filters and codes. -/
import Derived.Deep.DeepCutAuto
import Derived.Test.YtbecggefmbpnoaaGreatDoorK49
import Derived.Test.YtbecggefmbpnoaaGreatDoorK46
import Derived.Test.YtbecggefmbpnoaaGreatDoorK13
set_option maxRecDepth 100000
namespace Go.Proofs.YtbecggefmbpnoaaGreatDoor
open Go.RowKit
structure AnB(w:World)(p q:Pk)(a b:Ad)(W:World):Prop where
 low:Below w.heap.size w W
 one:W.heap[w.heap.size]? = some (.cells (pkC p a) 29 (0,0))
 two:W.heap[w.heap.size+1]? = some (.cells (pkC q b) 29 (0,0))
 pat:PkAt W p a
 qat:PkAt W q b
theorem AnB.call{w W W':World}{p q:Pk}{a b:Ad}(h:AnB w p q a b W)(hb:Below W.heap.size W W'):AnB w p q a b W':=
 ⟨qxh2 h.low hb,(hb.block _ (lt_of_block h.one)).trans h.one,(hb.block _ (lt_of_block h.two)).trans h.two,h.pat.below hb,h.qat.below hb⟩
theorem AnB.made{w:World}{p q:Pk}{a b:Ad}(hp:PkAt w p a)(hq:PkAt w q b):AnB w p q a b ((w.alloc (.cells (pkC p a) 29)).alloc (.cells (pkC q b) 29)):=
 have hb:=qxh2 (qybm (w:=w) (.cells (pkC p a) 29)) (qybm (.cells (pkC q b) 29))
 ⟨hb,heap_alloc2_old _ _ _,heap_alloc2_new _ _ _,hp.below hb,hq.below hb⟩
theorem qdb9(v:Int)(p q:Pk):(qsfj p.kind&&q.kind==IntKind.i64.wrap (p.kind+1)&&q.id==p.id&&(((q.codes.length:Nat):Int)==((p.filters.length:Nat):Int) || qojk v q.kind)&&((q3m2 v p:Nat):Int)==0&&((q3m2 v q:Nat):Int)==0)=qoit v p q:=by
 unfold qoit
 cases h:qsfj p.kind with
 | false=>rfl
 | true=>
  have hk:p.kind=8∨p.kind=10:=by
   unfold qsfj at h
   simpa using h
  have h1:IntKind.i64.wrap (p.kind+1)=p.kind+1:=by rw[IntKind.wrap_i64];omega
  rw[h1,Bool.eq_iff_iff]
  simp only[Bool.and_eq_true,Bool.or_eq_true,beq_iff_eq,decide_eq_true_eq,qojk,true_and]
  constructor
  ·rintro⟨⟨⟨⟨h1,h2⟩,h3⟩,h4⟩,h5⟩
   refine⟨⟨⟨⟨h1,by omega⟩,by omega⟩,h2.symm⟩,?_⟩
   rcases h3 with h3 | h3
   ·exact .inr (by omega)
   ·exact .inl ⟨h3.2,h3.1⟩
  ·rintro⟨⟨⟨⟨h1,h4⟩,h5⟩,h2⟩,h3⟩
   refine⟨⟨⟨⟨h1,h2.symm⟩,?_⟩,by omega⟩,by omega⟩
   rcases h3 with h3 | h3
   ·exact .inr ⟨h3.2,h3.1⟩
   ·exact .inl (by omega)
theorem qy40(v:Int)(p q:Pk)(a b:Ad)(w:World)(hp:PkAt w p a)(hq:PkAt w q b)(sp:q21o p)(sq:q21o q)(okp:PkOk p)(okq:PkOk q)(hc:p.props.length≤a.pc)(hd:q.props.length≤b.pc) :
 Calls Tryz.prog 14 #[.int .i64 v,.agg (pkC p a),.agg (pkC q b)] w fun e w'=>e = .returned (.bool (qoit v p q))∧Below w.heap.size w w':=by
 have S0:=Lib.hid (AnB.made hp hq)
 have HC:=Lib.hid (qwmp p a)
 have HD:=Lib.hid (qwmp q b)
 have AS:=fun W (h:AnB w p q a b W)=>(qczm p.kind W).mono fun e W' (hh:_∧W=W')=>(⟨hh.1,hh.2▸h⟩:_∧AnB w p q a b W')
 have BA:=fun W (h:AnB w p q a b W)=>(q1kd v q.kind W).mono fun e W' (hh:_∧W=W')=>(⟨hh.1,hh.2▸h⟩:_∧AnB w p q a b W')
 have VP:=fun W (h:AnB w p q a b W)=>(qeuk v p a W h.pat sp okp hc).mono fun e W' hh=>(⟨hh.1,h.call hh.2⟩:_∧AnB w p q a b W')
 have VQ:=fun W (h:AnB w p q a b W)=>(qeuk v q b W h.qat sq okq hd).mono fun e W' hh=>(⟨hh.1,h.call hh.2⟩:_∧AnB w p q a b W')
 have K:=Lib.hid (fun W (h:AnB w p q a b W) (j:Nat)=>cell_of_row _ _ j _ _ _ h.one)
 have L:=Lib.hid (fun W (h:AnB w p q a b W) (j:Nat)=>cell_of_row _ _ j _ _ _ h.two)
 have E:=Lib.hid (qdb9 v p q)
 generalize q3m2 v p=ep at *
 generalize q3m2 v q=eq at *
 replace AS:=Lib.hid AS
 replace BA:=Lib.hid BA
 replace VP:=Lib.hid VP
 replace VQ:=Lib.hid VQ
 go_enter Tryz.func14,Tryz.ntmps14
 go_upto_region 1 with fail
 refine qjgh (S:=AnB w p q a b) (B1:=w.heap.size) (B2:=w.heap.size+1) S0.out HC.out HD.out rfl (fun W h=>h.one) (fun W h=>h.two) (fun W h=>K.out W h 0) (fun W h=>K.out W h 4) (fun W h=>K.out W h 23) (fun W h=>L.out W h 0) (fun W h=>L.out W h 4) (fun W h=>L.out W h 22) AS.out BA.out VP.out VQ.out ?_
 intro r W hr hS
 intros
 have e:=E.out.symm.trans hr
 have LO:=Lib.hid hS.low
 clear hr hS E
 subst e
 go_wp2_with fail
 go_ret
 exact⟨rfl,LO.out⟩
end Go.Proofs.YtbecggefmbpnoaaGreatDoor
