/- Reason codes, as plain lists, and as bits of four words. Condition: none. No program. -/
import Derived.Below
import Derived.Maps.OwnOps
import Derived.Maps.Views
import Derived.Carry
import Derived.WalkKit
import Derived.Test.YthhdhagenmcbeaaGreatK06
import Derived.Test.YthhdhagenmcbeaaGreatK10
import Derived.Test.YthhdhagenmcbeaaGreatK09
namespace Go.Proofs.YthhdhagenmcbeaaGreat
structure W4 where
 a:Nat
 b:Nat
 c:Nat
 d:Nat
def setc(s:W4)(n:Nat):W4:=
 if n < 64 then {s with a:=s.a ||| 2^(n%64)} else if n < 128 then {s with b:=s.b ||| 2^(n%64)} else if n < 192 then {s with c:=s.c ||| 2^(n%64)} else {s with d:=s.d ||| 2^(n%64)}
def addR(s:W4)(f:Nat):Nat→W4
 | 0=>s
 | n+1=>setc (addR s f n) (f+n)
def ofL(l:List Nat):W4:=l.foldl setc ⟨0,0,0,0⟩
def word(s:W4)(n:Nat):Nat:=if n < 64 then s.a else if n < 128 then s.b else if n < 192 then s.c else s.d
def hasW(s:W4)(n:Nat):Bool:=decide (n < 256)&&(word s n / 2^(n%64)%2==1)
structure OkW(s:W4):Prop where
 a:s.a < 18446744073709551616
 b:s.b < 18446744073709551616
 c:s.c < 18446744073709551616
 d:s.d < 18446744073709551616
theorem or_lt{x n:Nat}(hx:x < 18446744073709551616)(hn:n < 64):x ||| 2^n < 18446744073709551616:=
 Nat.or_lt_two_pow (n:=64) hx (Nat.pow_lt_pow_right (by decide) hn)
theorem OkW.setc{s:W4}(h:OkW s)(n:Nat):OkW (setc s n):=by
 have hn:n%64 < 64:=Nat.mod_lt _ (by decide)
 unfold Proofs.YthhdhagenmcbeaaGreat.setc
 split
 ·exact⟨or_lt h.a hn,h.b,h.c,h.d⟩
 split
 ·exact⟨h.a,or_lt h.b hn,h.c,h.d⟩
 split
 ·exact⟨h.a,h.b,or_lt h.c hn,h.d⟩
 ·exact⟨h.a,h.b,h.c,or_lt h.d hn⟩
theorem OkW.addR{s:W4}(h:OkW s)(f:Nat):∀n,OkW (addR s f n)
 | 0=>h
 | n+1=>(OkW.addR h f n).setc _
theorem q4il:∀(l:List Nat) (s:W4),OkW s→OkW (l.foldl setc s)
 | [],_,h=>h
 | n::l,_,h=>q4il l _ (h.setc n)
theorem OkW.ofL(l:List Nat):OkW (ofL l):=q4il l _ ⟨by decide,by decide,by decide,by decide⟩
def grp(kind:Int):Nat:=
 if kind=2 then 1 else if kind=4∨kind=5 then 2 else if kind=6∨kind=7 then 3 else if kind=9 then 4 else if kind=11 then 5 else if kind=14 then 6 else if kind=15 then 7 else 0
def qedv:Nat→List Nat
 | 1=>[0,128,129,130,131,132,133,134,135,136,137,138,140,144,149,151,153,154,155,156,157,159]
 | 2=>[0,16,128,131,135,144,145,151,153]
 | 3=>[0,146]
 | 4=>[0,1,2,128,131,135,143,145,151,158,161,162]
 | 5=>[0,17,128,131,135,143,145]
 | 6=>[0,4,128,129,130,131,135,137,139,141,142,143,144,147,148,149,150,151,152,153,154,155,156,157,158,159,160,161,162]
 | 7=>[0,24,25]
 | _=>[]
def q71c:Nat→W4
 | 1=>addR (addR (ofL [0,140,144,149,151,159]) 128 11) 153 5
 | 2=>ofL [0,16,128,131,135,144,145,151,153]
 | 3=>ofL [0,146]
 | 4=>ofL [0,1,2,128,131,135,143,145,151,158,161,162]
 | 5=>ofL [0,17,128,131,135,143,145]
 | 6=>addR (addR (ofL [0,4,135,137,139,141,142,143,144]) 128 4) 147 16
 | 7=>ofL [0,24,25]
 | _=>⟨0,0,0,0⟩
theorem qljz(kind:Int):grp kind < 8:=by
 unfold grp
 repeat' (first | decide | split)
theorem qjuf:∀g,OkW (q71c g)
 | 0=>⟨by decide,by decide,by decide,by decide⟩
 | 1=>((OkW.ofL _).addR _ _).addR _ _
 | 2=>OkW.ofL _
 | 3=>OkW.ofL _
 | 4=>OkW.ofL _
 | 5=>OkW.ofL _
 | 6=>((OkW.ofL _).addR _ _).addR _ _
 | 7=>OkW.ofL _
 | n+8=>show OkW ⟨0,0,0,0⟩ from⟨by decide,by decide,by decide,by decide⟩
theorem qy5i:∀g < 8,∀n < 256,hasW (q71c g) n=(qedv g).contains n:=by decide+kernel
theorem q5yb:∀g < 8,∀n∈qedv g,n < 163:=by decide+kernel
theorem qi9u(kind:Int)(n:Nat):hasW (q71c (grp kind)) n=(qedv (grp kind)).contains n:=by
 by_cases hn:n < 256
 ·exact qy5i _ (qljz kind) n hn
 ·have h1:(qedv (grp kind)).contains n=false:=by
   rw[Bool.eq_false_iff]
   intro h
   have:=q5yb _ (qljz kind) n (List.contains_iff_mem.1 h)
   omega
  rw[h1]
  unfold hasW
  simp[hn]
def mayR(kind code:Int):Bool:=decide (0≤code)&&(qedv (grp kind)).contains code.toNat
def versC(v:Int):Bool:=v==4 || v==5
def qfk9(v kind:Int)(l:List Pr):Nat:=if v=5 then qpyu kind l else 0
def qasq(v kind:Int)(l:List Pr):List UInt8:=if v=5 then(q5aq kind l).1 else []
def q1f4:List UInt8:=[77,81,84,84]
structure Cs where
 r:List UInt8
 e:Nat
def Cs.fail(s:Cs)(e:Nat):Cs:=if s.e≠0 then s else⟨s.r,e⟩
def Cs.take(s:Cs)(n:Nat):List UInt8×Cs:=if s.e≠0 then([],s) else if s.r.length < n then([],⟨s.r,3⟩) else(s.r.take n,⟨s.r.drop n,0⟩)
def Cs.num(s:Cs)(n:Nat):Nat×Cs:=(Go.Proofs.YthhdhagenmcbeaaGreat.num (s.take n).1,(s.take n).2)
def Cs.text(s:Cs):List UInt8×Cs:=if s.e≠0 then([],s) else((rdT s.r).1,⟨s.r.drop (rdT s.r).2.1,(rdT s.r).2.2⟩)
def Cs.props(s:Cs)(v kind:Int):List Pr×Cs:=if s.e≠0∨v≠5 then([],s) else((qflw kind s.r).1,⟨s.r.drop (qflw kind s.r).2.1,(qflw kind s.r).2.2⟩)
theorem Cs.take_app{x t:List UInt8}{n:Nat}(h:x.length=n):(Cs.mk (x++t) 0).take n=(x,⟨t,0⟩):=by
 subst h
 simp[Cs.take]
theorem Cs.num_app{k c:Nat}{t:List UInt8}(h:k < 256^c):(Cs.mk (be k c++t) 0).num c=(k,⟨t,0⟩):=by
 rw[Cs.num,Cs.take_app (q0rl c k),q7wd,Nat.mod_eq_of_lt h]
theorem Cs.props_app{v kind:Int}{l:List Pr}{t:List UInt8}(h:qfk9 v kind l=0)(h4:v≠5→l=[]):(Cs.mk (qasq v kind l++t) 0).props v kind=(l,⟨t,0⟩):=by
 by_cases hv:v=5
 ·rw[qfk9,if_pos hv] at h
  have:=qyqt h t
  simp only[Cs.props,qasq,if_pos hv,this]
  simp[hv]
 ·rw[h4 hv]
  simp[Cs.props,qasq,hv]
def Cs.name(s:Cs):Cs:=if (s.take 6).2.e=0∧(s.take 6).1≠enc2 q1f4 then(s.take 6).2.fail 5 else(s.take 6).2
theorem Cs.one_app{k:Nat}{t:List UInt8}(h:k < 256):(Cs.mk ([UInt8.ofNat k]++t) 0).num 1=(k,⟨t,0⟩):=by
 have:(UInt8.ofNat k).toNat=k:=n8 h
 simp[Cs.num,Cs.take,Go.Proofs.YthhdhagenmcbeaaGreat.num]
 omega
theorem Cs.take_back{s:Cs}{n:Nat}(h:(s.take n).2.e=0):s.e=0∧s.r=(s.take n).1++(s.take n).2.r∧(s.take n).1.length=n:=by
 unfold Cs.take at h ⊢
 split at h
 ·rename_i h1;exact absurd h h1
 ·rename_i h1
  split at h
  ·cases h
  ·rename_i h2
   rw[if_neg h1,if_neg h2]
   refine⟨by simpa using h1,(List.take_append_drop n s.r).symm,by simp;omega⟩
theorem Cs.num_back{s:Cs}{n:Nat}(h:(s.num n).2.e=0):s.e=0∧s.r=be (s.num n).1 n++(s.num n).2.r∧(s.num n).1 < 256^n:=by
 obtain⟨h1,h2,h3⟩:=Cs.take_back (s:=s) (n:=n) h
 refine⟨h1,?_,?_⟩
 ·show s.r=be (Go.Proofs.YthhdhagenmcbeaaGreat.num (s.take n).1) n++(s.take n).2.r
  have:=qz9g (s.take n).1
  rw[h3] at this
  rw[this]
  exact h2
 ·have:=qn9h (s.take n).1
  rw[h3] at this
  exact this
theorem Cs.fail_no{s:Cs}{e:Nat}(h:(s.fail e).e=0):s.e=0∧e=0:=by
 unfold Cs.fail at h
 split at h
 ·rename_i h1;exact absurd h h1
 ·rename_i h1;exact⟨by simpa using h1,h⟩
def qveh(x:Cs)(f:Nat):Cs:=(if x.e=0∧x.r≠[] then x.fail 5 else x).fail f
theorem qemw{s:Cs}{e:Nat}(h:(s.fail e).e=0):s.e=0∧e=0:=by
 unfold Cs.fail at h
 split at h
 ·rename_i h1;exact absurd h h1
 ·rename_i h1;exact⟨by simpa using h1,h⟩
end Go.Proofs.YthhdhagenmcbeaaGreat
namespace Go.Proofs.YthhdhagenmcbeaaGreat
open Go.Maps (Keyed)
open Go.RowKit
def q1n3(z:Value):List (Int×Value)→Int→Value
 | [],_=>z
 | p::l,i=>if i=p.1 then p.2 else q1n3 z l i
def qaha(v:Value):Option (DataW Value×List MemPlace):=some (.held v,[])
def qmfc(P:Program)(k:TypeId)(w:World)(b:Nat)(z:Value)(l:List (Int×Value)):Prop:=
 ∃D:DataW Value,w.ownsMap P k qaha b l.length D∧∀i,D.atKey (.int .i64 i) (.held z) = .held (q1n3 z l i)
section
variable{P:Program}{k e t:TypeId}{w w':World}{b:Nat}{z:Value}{l:List (Int×Value)}
theorem qmfc.of_block(h:qmfc P k w b z l)(hb:w'.heap[b]? = w.heap[b]?):qmfc P k w' b z l:=by
 obtain⟨D,⟨es,c,h1,h2⟩,h3⟩:=h
 exact⟨D,⟨es,c,hb.trans h1,h2⟩,h3⟩
theorem qmfc.lt(h:qmfc P k w b z l):b < w.heap.size:=by obtain⟨D,h1,_⟩:=h;exact h1.lt
theorem qmfc.made(w:World)(P:Program)(k:TypeId)(z:Value):qmfc P k (w.alloc (.map #[] 0)) w.heap.size z []:=
 ⟨_,World.ownsMap_made _ _ _ _,fun _=>rfl⟩
theorem qmfc.look(h:qmfc P k w b z l)(hk:P.underlying k=some (.int .i64))(ht:P.underlying t=some (.map k e))(hz:(zeroValue e).run P w = .ok z w){i:Int}(hi:(Lit.int .i64 i).wf=true) :
 (Instr.lookup t (.map (some b)) (.int .i64 i) false).run P w = .ok (q1n3 z l i) w:=by
 obtain⟨D,h1,h2⟩:=h
 obtain⟨v,ps,hrun,hv⟩:=h1.lookup (Maps.int_keyed hk) ht hz (show qaha z=some (.held z,[]) from rfl) (Maps.keyOf_int_mk hk hi)
 rw[h2] at hv
 have:v=q1n3 z l i:=by
  unfold qaha at hv
  simp only[Option.some.injEq,Prod.mk.injEq,DataW.held.injEq] at hv
  exact hv.1
 rw[hrun,this]
theorem qmfc.put(h:qmfc P k w b z l)(hk:P.underlying k=some (.int .i64))(ht:P.underlying t=some (.map k e))(hn:l.length < maxLen){i:Int}(hi:(Lit.int .i64 i).wf=true)(v:Value) :
 ∃w',(Instr.mapUpdate t (.map (some b)) (.int .i64 i) v).run P w = .ok () w'∧qmfc P k w' b z ((i,v)::l)∧w.grownBy w' (some b):=by
 obtain⟨D,h1,h2⟩:=h
 have hD:Maps.IsMap D:=by obtain⟨es,c,_,_,_,e⟩:=h1;exact⟨_,e⟩
 obtain⟨w',r1,r2,r3⟩:=h1.update (Maps.int_keyed hk) ht hn (Maps.keyOf_int_mk hk hi) (show qaha v=some (.held v,[]) from rfl)
 refine⟨w',r1,⟨_,r2,fun j=>?_⟩,r3⟩
 show _=DataW.held (if j=i then v else q1n3 z l j)
 by_cases e:j=i
 ·subst e
  rw[if_pos rfl,Maps.atKey_put_same hD (show WideAt.IsKeyLit (.int .i64 j) from trivial)]
 ·rw[if_neg e,Maps.atKey_put_other (fun x=>e (by cases x;rfl)),h2]
def MapG(P:Program)(k:TypeId)(w0 w:World)(b:Nat)(z:Value)(l:List (Int×Value)):Prop:=qmfc P k w b z l∧Below w0.heap.size w0 w∧w0.heap.size≤b
theorem q32q{ops:Array Oper}{rest:List Oper}{o:Oper}{a:Act}{Q:Exit→Act→World→Prop}{w0:World}
 (hg:o.guard=none) (m x v:Operand) (t:TypeId) (hop:o.op=Op.insert t m x v) (k e:TypeId) (hk:P.underlying k=some (.int .i64)) (ht:P.underlying t=some (.map k e))
 (b:Nat) (z:Value) (l:List (Int×Value)) (hm:a.eval m = .map (some b)) (h:MapG P k w0 w b z l) (hn:l.length < maxLen) (i:Int) (val:Value) (hx:a.eval x = .int .i64 i) (hv:a.eval v=val) (hi:(Lit.int .i64 i).wf=true)
 (hK:∀w',MapG P k w0 w' b z ((i,val)::l)→wpList P ops Q rest (a.put o.dst undef) w') :
 wpList P ops Q (o::rest) a w:=by
 refine wpList_plain hg fun K' hK'=>?_
 obtain⟨h1,h2,h3⟩:=h
 obtain⟨w',hrun,r1,r2⟩:=h1.put hk ht hn hi val
 unfold Oper.wp
 simp[execOp,hop,hm,hx,hv,hrun,Result.andThen]
 exact hK' _ _ (hK w' ⟨r1,h2.grown r2 h2.size (fun j hj=>by cases hj;exact h3),h3⟩)
end
end Go.Proofs.YthhdhagenmcbeaaGreat
