/- A map keyed by int that a call has made by a literal: what stands at each key, as a list of pairs; the insert and the look-up at the operation. No condition. -/
import Derived.Test.YtefmhbioggcfaaaGreatDoorK06
namespace Go.Proofs.YtefmhbioggcfaaaGreatDoor
open Go.Maps (Keyed)
open Go.RowKit
def q1n3(z:Value):List (Int×Value)->Int->Value
 |[],_=>z
 |p::l,i=>if i=p.1 then p.2 else q1n3 z l i
def qaha(v:Value):Option (DataW Value×List MemPlace):=some (.held v,[])
def qmfc(P:Program)(k:TypeId)(w:World)(b:Nat)(z:Value)(l:List (Int×Value)):Prop:=
 ∃D:DataW Value,w.ownsMap P k qaha b l.length D/\∀i,D.atKey (.int .i64 i) (.held z)=.held (q1n3 z l i)
section
variable{P:Program}{k e t:TypeId}{w w':World}{b:Nat}{z:Value}{l:List (Int×Value)}
theorem qmfc.of_block(h:qmfc P k w b z l)(hb:w'.heap[b]?=w.heap[b]?):qmfc P k w' b z l:=by obtain⟨D,⟨es,c,h1,h2⟩,h3⟩:=h;exact⟨D,⟨es,c,hb.trans h1,h2⟩,h3⟩
theorem qmfc.lt(h:qmfc P k w b z l):b<w.heap.size:=by obtain⟨D,h1,_⟩:=h;exact h1.lt
theorem qmfc.made(w:World)(P:Program)(k:TypeId)(z:Value):qmfc P k (w.alloc (.map #[] 0)) w.heap.size z []:=
 ⟨_,World.ownsMap_made _ _ _ _,fun _=>rfl⟩
theorem qmfc.look(h:qmfc P k w b z l)(hk:P.underlying k=some (.int .i64))(ht:P.underlying t=some (.map k e))(hz:(zeroValue e).run P w=.ok z w){i:Int}(hi:(Lit.int .i64 i).wf=true) :
 (Instr.lookup t (.map (some b)) (.int .i64 i) false).run P w=.ok (q1n3 z l i) w:=by
 obtain⟨D,h1,h2⟩:=h;obtain⟨v,ps,hrun,hv⟩:=h1.lookup (Maps.int_keyed hk) ht hz (show qaha z=some (.held z,[]) from rfl) (Maps.keyOf_int_mk hk hi);rw[h2] at hv
 have:v=q1n3 z l i:=by unfold qaha at hv;simp only[Option.some.injEq,Prod.mk.injEq,DataW.held.injEq] at hv;exact hv.1
 rw[hrun,this]
theorem qmfc.put(h:qmfc P k w b z l)(hk:P.underlying k=some (.int .i64))(ht:P.underlying t=some (.map k e))(hn:l.length<maxLen){i:Int}(hi:(Lit.int .i64 i).wf=true)(v:Value) :
 ∃w',(Instr.mapUpdate t (.map (some b)) (.int .i64 i) v).run P w=.ok () w'/\qmfc P k w' b z ((i,v)::l)/\w.grownBy w' (some b):=by
 obtain⟨D,h1,h2⟩:=h;have hD:Maps.IsMap D:=by obtain⟨es,c,_,_,_,e⟩:=h1;exact⟨_,e⟩
 obtain⟨w',r1,r2,r3⟩:=h1.update (Maps.int_keyed hk) ht hn (Maps.keyOf_int_mk hk hi) (show qaha v=some (.held v,[]) from rfl);refine⟨w',r1,⟨_,r2,fun j=>?_⟩,r3⟩;show _=DataW.held (if j=i then v else q1n3 z l j);by_cases e:j=i
 ·subst e;rw[if_pos rfl,Maps.atKey_put_same hD (show WideAt.IsKeyLit (.int .i64 j) from trivial)]
 ·rw[if_neg e,Maps.atKey_put_other (fun x=>e (by cases x;rfl)),h2]
def MapG(P:Program)(k:TypeId)(w0 w:World)(b:Nat)(z:Value)(l:List (Int×Value)):Prop:=qmfc P k w b z l/\Below w0.heap.size w0 w/\w0.heap.size<=b
theorem q32q{ops:Array Oper}{rest:List Oper}{o:Oper}{a:Act}{Q:Exit->Act->World->Prop}{w0:World}
 (hg:o.guard=none) (m x v:Operand) (t:TypeId) (hop:o.op=Op.insert t m x v) (k e:TypeId) (hk:P.underlying k=some (.int .i64)) (ht:P.underlying t=some (.map k e))
 (b:Nat) (z:Value) (l:List (Int×Value)) (hm:a.eval m=.map (some b)) (h:MapG P k w0 w b z l) (hn:l.length<maxLen) (i:Int) (val:Value) (hx:a.eval x=.int .i64 i) (hv:a.eval v=val) (hi:(Lit.int .i64 i).wf=true)
 (hK:∀w',MapG P k w0 w' b z ((i,val)::l)->wpList P ops Q rest (a.put o.dst undef) w') :
 wpList P ops Q (o::rest) a w:=by
 refine wpList_plain hg fun K' hK'=>?_;obtain⟨h1,h2,h3⟩:=h;obtain⟨w',hrun,r1,r2⟩:=h1.put hk ht hn hi val;unfold Oper.wp;simp[execOp,hop,hm,hx,hv,hrun,Result.andThen];exact hK' _ _ (hK w' ⟨r1,h2.grown r2 h2.size (fun j hj=>by cases hj;exact h3),h3⟩)
end
end Go.Proofs.YtefmhbioggcfaaaGreatDoor
namespace Go.Proofs.YtefmhbioggcfaaaGreatDoor
open Go.RowKit
def strs(ls:List (List UInt8)):List Value:=ls.map fun l => .string (bs l)
def SR(W:World)(A:Option Addr)(ls:List (List UInt8)):Prop:=
 ls≠[]->∃g i,A=some ⟨g,i,none⟩/\g<W.heap.size/\∀j,j<ls.length->W.cell? ⟨g,i+j,none⟩=some (.string (bs (ls.getD j [])))
theorem SR.kept{W W':World}{A:Option Addr}{ls:List (List UInt8)}(h:SR W A ls)(hb:Below W.heap.size W W'):SR W' A ls:=fun hne=>by obtain⟨g,i,e,hg,hc⟩:=h hne;exact⟨g,i,e,Nat.lt_of_lt_of_le hg hb.size,fun j hj=>(hb.cell (p:=⟨g,i+j,none⟩) hg).trans (hc j hj)⟩
theorem SR.draws{W:World}{A:Option Addr}{ls:List (List UInt8)}(h:SR W A ls)(n:Nat):SR (W.drewN n) A ls:=h
theorem SR.nil{W:World}{A:Option Addr}:SR W A []:=fun h=>absurd rfl h
theorem qx4f(ls:List (List UInt8))(j:Nat)(h:j<ls.length):(strs ls).toArray[j]?=some (.string (bs (ls.getD j []))):=by simp[strs,List.getD,List.getElem?_eq_getElem h]
theorem SR.alloc{W:World}{ls:List (List UInt8)}(t:TypeId):SR (W.alloc (.cells (strs ls).toArray t)) (some ⟨W.heap.size,0,none⟩) ls:=fun _=>⟨_,_,rfl,by simp,fun j hj=>by rw[Nat.zero_add,World.cell?_alloc_at _ _ _ _ rfl];exact qx4f ls j hj⟩
theorem qhho(s:ByteArray):bs s.data.toList=s:=rfl
theorem qkd1(l:List UInt8):(bs l).data.toList=l:=rfl
theorem q5zk(l:List UInt8):(bs l).size=l.length:=by simp[bs,ByteArray.size]
end Go.Proofs.YtefmhbioggcfaaaGreatDoor
namespace Go.Proofs.YtefmhbioggcfaaaGreatDoor
def qcsi(l:List Pr)(id:Int):Nat:=(l.filter fun p=>p.id==id).length
theorem qrb9(id:Int):qcsi [] id=0:=rfl
theorem qpwp(p:Pr)(l:List Pr)(id:Int):qcsi (p::l) id=qcsi l id+if p.id=id then 1 else 0:=by
 unfold qcsi;rw[List.filter_cons];by_cases h:p.id=id
 ·simp[h]
 ·simp[h]
theorem q8m3(a b:List Pr)(id:Int):qcsi (a++b) id=qcsi a id+qcsi b id:=by simp[qcsi]
theorem qam1(l:List Pr)(id:Int):hasP l id=decide (0<qcsi l id):=by
 induction l with
 |nil=>rfl
 |cons p l ih=>
  rw[qpwp];unfold hasP at ih ⊢;rw[List.any_cons,ih];by_cases h:p.id=id
  ·simp[h]
  ·simp[h]
def qjrw(kind:Int)(l:List Pr):Prop:=(∀p∈l,qr4y kind p=0)/\∀id,quux kind id=false->qcsi l id<=1
theorem q0uh(kind:Int):∀(l pre:List Pr),(∀id,quux kind id=false->qcsi pre id<=1)->(q09m kind pre l=0↔(∀p∈l,qr4y kind p=0)/\∀id,quux kind id=false->qcsi (pre++l) id<=1)
 |[],pre,hp=>by simp[q09m];exact hp
 |p::l,pre,hp=>by
  rw[q09m];by_cases hc:qr4y kind p=0
  ·rw[if_neg (by simp[hc])];by_cases ht:qxv1 kind pre p.id=true
   ·rw[if_pos ht];constructor
    ·intro h;cases h
    ·rintro⟨_,h2⟩;exfalso;unfold qxv1 at ht;rw[qam1] at ht;simp only[Bool.and_eq_true,decide_eq_true_eq,Bool.not_eq_true'] at ht
     have:=h2 p.id ht.2
     rw[q8m3,qpwp,if_pos rfl] at this;omega
   ·rw[if_neg ht];have ht:hasP pre p.id=false\/quux kind p.id=true:=by unfold qxv1 at ht;cases h1:hasP pre p.id<;>cases h2:quux kind p.id<;>simp_all
    have hp':∀id,quux kind id=false->qcsi (pre++[p]) id<=1:=fun id hid=>by
     rw[q8m3,qpwp,qrb9];by_cases e:p.id=id
     ·subst e;rcases ht with h|h
      ·rw[qam1,decide_eq_false_iff_not] at h;rw[if_pos rfl];omega
      ·rw[hid] at h;cases h
     ·rw[if_neg e];have:=hp id hid;omega
    rw[q0uh kind l (pre++[p]) hp',List.append_assoc,List.singleton_append];constructor
    ·rintro⟨h1,h2⟩;exact⟨fun q hq=>by
      rcases List.mem_cons.1 hq with rfl|hq
      ·exact hc
      ·exact h1 q hq,h2⟩
    ·rintro⟨h1,h2⟩;exact⟨fun q hq=>h1 q (List.mem_cons_of_mem _ hq),h2⟩
  ·rw[if_pos hc];constructor
   ·intro h;exact absurd h hc
   ·rintro⟨h1,_⟩;exact absurd (h1 p (List.mem_cons_self ..)) hc
theorem qrcn(kind:Int)(l:List Pr):q09m kind [] l=0↔qjrw kind l:=by rw[q0uh kind l [] (fun id _=>by rw[qrb9];omega),List.nil_append];exact Iff.rfl
theorem qgl5(kind:Int)(l:List Pr):qpyu kind l=0↔l.length<=1000/\qjrw kind l/\qwyx l=false/\(q636 l).length<=268435455:=by
 rw[<-qrcn];constructor
 ·exact qpfx
 ·rintro⟨h1,h2,h3,h4⟩;unfold qpyu;rw[if_neg (by omega),if_neg (by simp[h2]),if_neg (by simp[h3]),if_neg (by omega)]
end Go.Proofs.YtefmhbioggcfaaaGreatDoor
