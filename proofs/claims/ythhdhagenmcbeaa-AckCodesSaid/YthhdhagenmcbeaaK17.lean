/- Plain facts on lists of properties: which are as they should be, whatever their order; what a half, a list with one less, and a list with one more is. No condition. -/
import Derived.Laws.ResultCell
import Derived.Test.YthhdhagenmcbeaaK11
import Derived.Test.YthhdhagenmcbeaaK02
import Derived.Test.YthhdhagenmcbeaaK03
import Derived.Test.YthhdhagenmcbeaaK07
namespace Go.Proofs.Ythhdhagenmcbeaa
def qcsi(l:List Pr)(id:Int):Nat:=(l.filter fun p=>p.id==id).length
theorem qrb9(id:Int):qcsi [] id=0:=rfl
theorem qpwp(p:Pr)(l:List Pr)(id:Int):qcsi (p::l) id=qcsi l id+if p.id=id then 1 else 0:=by
 unfold qcsi
 rw[List.filter_cons]
 by_cases h:p.id=id
 ·simp[h]
 ·simp[h]
theorem q8m3(a b:List Pr)(id:Int):qcsi (a++b) id=qcsi a id+qcsi b id:=by simp[qcsi]
theorem qam1(l:List Pr)(id:Int):hasP l id=decide (0 < qcsi l id):=by
 induction l with
 | nil=>rfl
 | cons p l ih=>
  rw[qpwp]
  unfold hasP at ih ⊢
  rw[List.any_cons,ih]
  by_cases h:p.id=id
  ·simp[h]
  ·simp[h]
def qjrw(kind:Int)(l:List Pr):Prop:=(∀p∈l,qr4y kind p=0)∧∀id,quux kind id=false→qcsi l id≤1
theorem q0uh(kind:Int):∀(l pre:List Pr),(∀id,quux kind id=false→qcsi pre id≤1)→(q09m kind pre l=0↔(∀p∈l,qr4y kind p=0)∧∀id,quux kind id=false→qcsi (pre++l) id≤1)
 | [],pre,hp=>by simp[q09m];exact hp
 | p::l,pre,hp=>by
  rw[q09m]
  by_cases hc:qr4y kind p=0
  ·rw[if_neg (by simp[hc])]
   by_cases ht:qxv1 kind pre p.id=true
   ·rw[if_pos ht]
    constructor
    ·intro h;cases h
    ·rintro⟨_,h2⟩
     exfalso
     unfold qxv1 at ht
     rw[qam1] at ht
     simp only[Bool.and_eq_true,decide_eq_true_eq,Bool.not_eq_true'] at ht
     have:=h2 p.id ht.2
     rw[q8m3,qpwp,if_pos rfl] at this
     omega
   ·rw[if_neg ht]
    have ht:hasP pre p.id=false∨quux kind p.id=true:=by
     unfold qxv1 at ht
     cases h1:hasP pre p.id<;>cases h2:quux kind p.id<;>simp_all
    have hp':∀id,quux kind id=false→qcsi (pre++[p]) id≤1:=fun id hid=>by
     rw[q8m3,qpwp,qrb9]
     by_cases e:p.id=id
     ·subst e
      rcases ht with h | h
      ·rw[qam1,decide_eq_false_iff_not] at h
       rw[if_pos rfl];omega
      ·rw[hid] at h;cases h
     ·rw[if_neg e];have:=hp id hid;omega
    rw[q0uh kind l (pre++[p]) hp',List.append_assoc,List.singleton_append]
    constructor
    ·rintro⟨h1,h2⟩
     exact⟨fun q hq=>by
      rcases List.mem_cons.1 hq with rfl | hq
      ·exact hc
      ·exact h1 q hq,h2⟩
    ·rintro⟨h1,h2⟩
     exact⟨fun q hq=>h1 q (List.mem_cons_of_mem _ hq),h2⟩
  ·rw[if_pos hc]
   constructor
   ·intro h;exact absurd h hc
   ·rintro⟨h1,_⟩;exact absurd (h1 p (List.mem_cons_self ..)) hc
theorem qrcn(kind:Int)(l:List Pr):q09m kind [] l=0↔qjrw kind l:=by
 rw[q0uh kind l [] (fun id _=>by rw[qrb9];omega),List.nil_append];exact Iff.rfl
end Go.Proofs.Ythhdhagenmcbeaa
namespace Go.Proofs.Ythhdhagenmcbeaa
open Go.RowKit
theorem q5nr:(Try.prog.info? 31).map (·.size)=some 25:=by kernel_rfl
def pkZ:Array Value:=#[.int .i64 0,.bool false,.bool false,.int .i64 0,.int .i64 0,.string ⟨#[]⟩,.string ⟨#[]⟩,.bool false,.int .i64 0,.string ⟨#[]⟩,.bool false,.string ⟨#[]⟩,.bool false,.string ⟨#[]⟩,.bool false,.string ⟨#[]⟩,.string ⟨#[]⟩,.int .i64 0,.bool false,.slice none 0 0,.bool false,.int .i64 0,.slice none 0 0,.slice none 0 0,.slice none 0 0]
theorem qrai(W:World):(zeroValue 31).run Try.prog W = .ok (.agg pkZ) W:=by kernel_rfl
theorem qbwp:pkZ.size=25:=rfl
def adZ:Ad:=⟨none,0,none,0,none,0,none,0⟩
structure UsS(w:World)(p:Pk)(a:Ad)(x:Pk)(b:Ad)(W:World):Prop where
 low:Below w.heap.size w W
 box:W.heap[w.heap.size]? = some (.cells (pkC p a) 31 (0,0))
 res:W.heap[w.heap.size+1]? = some (.cells pkZ 31 (0,0))
 new:W.heap[w.heap.size+1+1]? = some (.cells (pkC x b) 31 (0,0))
section
variable{w W W':World}{p x:Pk}{a b:Ad}
theorem UsS.cell(h:UsS w p a x b W)(j:Nat):W.cell? ⟨w.heap.size,j,none⟩=(pkC p a)[j]? := cell_of_row _ _ j _ _ _ h.box
theorem UsS.ncell(h:UsS w p a x b W)(j:Nat):W.cell? ⟨w.heap.size+1+1,j,none⟩=(pkC x b)[j]? := cell_of_row _ _ j _ _ _ h.new
theorem UsS.fr(h:UsS w p a x b W)(j:Nat):W.frozen? ⟨w.heap.size+1+1,j,none⟩=false:=frozen_of_row _ _ _ _ _ h.new
theorem UsS.put(h:UsS w p a x b W)(j:Nat)(u:Value){x':Pk}{b':Ad}(he:(pkC x b).setIfInBounds j u=pkC x' b'):UsS w p a x' b' (W.setCell ⟨w.heap.size+1+1,j,none⟩ u):=
 ⟨h.low.setCell (by show _≤w.heap.size+1+1;omega) u,(heap_setCell_other W ⟨w.heap.size+1+1,j,none⟩ _ u (by show w.heap.size≠w.heap.size+1+1;omega)).trans h.box,(heap_setCell_other W ⟨w.heap.size+1+1,j,none⟩ _ u (by show w.heap.size+1≠w.heap.size+1+1;omega)).trans h.res,
  by have:=qlvy h.new j u;rw[he] at this;exact this⟩
theorem UsS.call(h:UsS w p a x b W)(hb:Below W.heap.size W W'):UsS w p a x b W':=
 ⟨qxh2 h.low hb,(hb.block _ (lt_of_block h.box)).trans h.box,(hb.block _ (lt_of_block h.res)).trans h.res,(hb.block _ (lt_of_block h.new)).trans h.new⟩
theorem UsS.drew(h:UsS w p a x b W):UsS w p a x b W.drew:=⟨h.low.drew,h.box,h.res,h.new⟩
end
end Go.Proofs.Ythhdhagenmcbeaa
