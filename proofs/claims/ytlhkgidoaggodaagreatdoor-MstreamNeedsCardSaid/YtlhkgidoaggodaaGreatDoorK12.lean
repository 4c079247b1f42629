/- The load of a struct that is an element of a row: its cells qk87 a letter. No program. Condition: none. -/
import Derived.Test.YtlhkgidoaggodaaGreatDoorK05
namespace Go.Proofs.YtlhkgidoaggodaaGreatDoor
open Go.RowKit
section
variable{P:Program}
variable{ops:Array Oper}{rest:List Oper}{o:Oper}{a:Act}{w:World}{Q:Exit->Act->World->Prop}
end
end Go.Proofs.YtlhkgidoaggodaaGreatDoor
namespace Go.Proofs.YtlhkgidoaggodaaGreatDoor
section
variable{v:Int}{m:Nat}{K:List UInt8}
theorem q9j5(h3:(q7ku v m K).2.2=3)(hz:qexp v m K≠0):K.length<qexp v m K:=by apply Classical.byContradiction;intro hc;obtain⟨h1,h2,-⟩:=qzs6 hz (by omega);exact h2 h3
theorem q9x3(hz:qexp v m K≠0){L:List UInt8}(hL:K.length+L.length<qexp v m K):goW v m (K++L)=([],K++L,0,0)/\qexp v m (K++L)=qexp v m K:=by have e:=qjow (c:=L) hz;refine⟨qc57 ?_,e⟩;rw[q237 (by rw[e];exact hz) (by rw[e,List.length_append];exact hL)]
theorem qtwi(hv:verH v=true)(hz:qexp v m K≠0){L:List UInt8}(hL:K.length+L.length=qexp v m K):(goW v m (K++L)).2.2.2≠0\/((goW v m (K++L)).1.length=1/\(goW v m (K++L)).2.2.2=0):=by
 have e:=qjow (c:=L) hz;obtain⟨h1,h2,h3⟩:=qzs6 (v:=v) (m:=m) (l:=K++L) (by rw[e];exact hz) (by rw[e,List.length_append];omega);by_cases h0:(q7ku v m (K++L)).2.2=0
 ·right
  have hd:(K++L).drop (q7ku v m (K++L)).2.1=[]:=by rw[h3 h0,e,<-hL,<-List.length_append,List.drop_length]
  have hn:(q7ku v m []).2.2=3:=by
   have hr:qday v []=(noH,0,3):=by rw[qwts,if_neg (by rw[hv];decide)]
   rw[(qdul (v:=v) (m:=m) (l:=[]) (by rw[hr];decide)).1,hr]
  rw[q6ca h0,hd,qc57 hn];exact⟨rfl,rfl⟩
 ·left
  rw[qcgl h2 h0];exact h0
theorem q5eb(hv:verH v=true)(hm:1<=m)(h3:(q7ku v m K).2.2=3):∃n:Nat,(if qexp v m K=0 then(1:Int) else(qexp v m K:Int)-K.length)=n/\1<=n/\n<=m/\
 (∀C:List UInt8,C.length+1=n->goW v m (K++C)=([],K++C,0,0)/\(1<n->qexp v m (K++C)=(K++C).length+1))/\
 (1<n->∀C D:List UInt8,C.length+1=n->D.length=1->(goW v m ((K++C)++D)).2.2.2≠0\/((goW v m ((K++C)++D)).1.length=1/\(goW v m ((K++C)++D)).2.2.2=0)):=by
 by_cases hz:qexp v m K=0
 ·refine⟨1,by rw[if_pos hz];rfl,Nat.le_refl _,hm,fun C hC=>?_,fun h=>absurd h (by omega)⟩;obtain rfl:C=[]:=List.length_eq_zero_iff.1 (by omega);rw[List.append_nil];exact⟨qc57 h3,fun h=>absurd h (by omega)⟩
 ·have hlt:=q9j5 h3 hz;have hle:=qvu1 v m K;refine⟨qexp v m K-K.length,by rw[if_neg hz];omega,by omega,by omega,fun C hC=>?_,fun _ C D hC hD=>?_⟩
  ·obtain⟨h1,h2⟩:=q9x3 hz (L:=C) (by omega);exact⟨h1,fun _=>by rw[h2,List.length_append];omega⟩
  ·rw[List.append_assoc];exact qtwi hv hz (by rw[List.length_append];omega)
end
end Go.Proofs.YtlhkgidoaggodaaGreatDoor
