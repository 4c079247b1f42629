/- Plain facts on lists of properties: which are as they should be, whatever their order; what a half, a list with one less, and a list with one more is. No condition. -/
import Derived.Lib.Hide
import Derived.WalkKit
import Derived.Lib.Walk
import Derived.Lib.Tables
import Derived.Test.YtbklidpadffpgaaK10
import Derived.Test.YtbklidpadffpgaaK11
import Derived.Test.YtbklidpadffpgaaK02
import Derived.Test.YtbklidpadffpgaaK03
import Derived.Test.YtbklidpadffpgaaK06
namespace Go.Proofs.Ytbklidpadffpgaa
def qcsi(l:List Pr)(id:Int):Nat:=(l.filter fun p=>p.id==id).length
theorem qrb9(id:Int):qcsi [] id=0:=rfl
theorem qpwp(p:Pr)(l:List Pr)(id:Int):qcsi (p::l) id=qcsi l id+if p.id=id then 1 else 0:=by
 unfold qcsi
 rw[List.filter_cons]
 by_cases h:p.id=id
 ·simp[h]
 ·simp[h]
theorem q8m3(a b:List Pr)(id:Int):qcsi (a++b) id=qcsi a id+qcsi b id:=by simp[qcsi]
theorem qam1(l:List Pr)(id:Int):hasP l id=decide (0 < qcsi l id):=by
 induction l with
 | nil=>rfl
 | cons p l ih=>
  rw[qpwp]
  unfold hasP at ih ⊢
  rw[List.any_cons,ih]
  by_cases h:p.id=id
  ·simp[h]
  ·simp[h]
def qjrw(kind:Int)(l:List Pr):Prop:=(∀p∈l,qr4y kind p=0)∧∀id,quux kind id=false→qcsi l id≤1
theorem q0uh(kind:Int):∀(l pre:List Pr),(∀id,quux kind id=false→qcsi pre id≤1)→(q09m kind pre l=0↔(∀p∈l,qr4y kind p=0)∧∀id,quux kind id=false→qcsi (pre++l) id≤1)
 | [],pre,hp=>by simp[q09m];exact hp
 | p::l,pre,hp=>by
  rw[q09m]
  by_cases hc:qr4y kind p=0
  ·rw[if_neg (by simp[hc])]
   by_cases ht:qxv1 kind pre p.id=true
   ·rw[if_pos ht]
    constructor
    ·intro h;cases h
    ·rintro⟨_,h2⟩
     exfalso
     unfold qxv1 at ht
     rw[qam1] at ht
     simp only[Bool.and_eq_true,decide_eq_true_eq,Bool.not_eq_true'] at ht
     have:=h2 p.id ht.2
     rw[q8m3,qpwp,if_pos rfl] at this
     omega
   ·rw[if_neg ht]
    have ht:hasP pre p.id=false∨quux kind p.id=true:=by
     unfold qxv1 at ht
     cases h1:hasP pre p.id<;>cases h2:quux kind p.id<;>simp_all
    have hp':∀id,quux kind id=false→qcsi (pre++[p]) id≤1:=fun id hid=>by
     rw[q8m3,qpwp,qrb9]
     by_cases e:p.id=id
     ·subst e
      rcases ht with h | h
      ·rw[qam1,decide_eq_false_iff_not] at h
       rw[if_pos rfl];omega
      ·rw[hid] at h;cases h
     ·rw[if_neg e];have:=hp id hid;omega
    rw[q0uh kind l (pre++[p]) hp',List.append_assoc,List.singleton_append]
    constructor
    ·rintro⟨h1,h2⟩
     exact⟨fun q hq=>by
      rcases List.mem_cons.1 hq with rfl | hq
      ·exact hc
      ·exact h1 q hq,h2⟩
    ·rintro⟨h1,h2⟩
     exact⟨fun q hq=>h1 q (List.mem_cons_of_mem _ hq),h2⟩
  ·rw[if_pos hc]
   constructor
   ·intro h;exact absurd h hc
   ·rintro⟨h1,_⟩;exact absurd (h1 p (List.mem_cons_self ..)) hc
theorem qrcn(kind:Int)(l:List Pr):q09m kind [] l=0↔qjrw kind l:=by
 rw[q0uh kind l [] (fun id _=>by rw[qrb9];omega),List.nil_append];exact Iff.rfl
end Go.Proofs.Ytbklidpadffpgaa
namespace Go.Proofs.Ytbklidpadffpgaa
open Go.RowKit
theorem qp2i{v kind:Int}{l:List Pr}(h:qfk9 v kind l=0):(qasq v kind l).length≤300000000:=by
 unfold qasq
 unfold qfk9 at h
 split
 ·rename_i h5
  rw[if_pos h5] at h
  obtain⟨_,_,_,h4⟩:=qpfx h
  unfold q5aq
  rw[if_neg (by simpa using h),List.length_append,q8sw]
  have:=qnl4 (q636 l).length h4
  omega
 ·exact Nat.zero_le _
theorem q5nr:(Try.prog.info? 30).map (·.size)=some 25:=by kernel_rfl
def pkZ:Array Value:=#[.int .i64 0,.bool false,.bool false,.int .i64 0,.int .i64 0,.string ⟨#[]⟩,.string ⟨#[]⟩,.bool false,.int .i64 0,.string ⟨#[]⟩,.bool false,.string ⟨#[]⟩,.bool false,.string ⟨#[]⟩,.bool false,.string ⟨#[]⟩,.string ⟨#[]⟩,.int .i64 0,.bool false,.slice none 0 0,.bool false,.int .i64 0,.slice none 0 0,.slice none 0 0,.slice none 0 0]
theorem qrai(W:World):(zeroValue 30).run Try.prog W = .ok (.agg pkZ) W:=by kernel_rfl
theorem qbwp:pkZ.size=25:=rfl
def adZ:Ad:=⟨none,0,none,0,none,0,none,0⟩
end Go.Proofs.Ytbklidpadffpgaa
