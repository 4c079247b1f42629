/- Where two lists, two properties differ. Condition: none. -/
import Derived.Deep.LoopGhost
import Derived.Deep.QuietTactic
import Derived.Laws.ResultCell
import Derived.Test.YtbklidpadffpgaaGreatK05
import Derived.Test.YtbklidpadffpgaaGreatK07
import Derived.Test.YtbklidpadffpgaaGreatK02
import Derived.Test.YtbklidpadffpgaaGreatK03
namespace Go.Proofs.YtbklidpadffpgaaGreat
open Go.RowKit
theorem qgiq(w:World)(x y:Nat):(w.drewN x).drewN y=w.drewN (x+y):=by simp[World.drewN,Nat.add_assoc]
theorem qs8g{T:Type}{l m:List T}{n:Nat}(hl:l.length=n)(hm:m.length=n)(h:∀j p q,j < n→l[j]? = some p→m[j]? = some q→p=q):l=m:=by
 apply List.ext_getElem?
 intro j
 by_cases hj:j < n
 ·rw[List.getElem?_eq_getElem (by omega),List.getElem?_eq_getElem (by omega)]
  exact congrArg some (h j _ _ hj (List.getElem?_eq_getElem (by omega)) (List.getElem?_eq_getElem (by omega)))
 ·rw[List.getElem?_eq_none (by omega),List.getElem?_eq_none (by omega)]
theorem qzlf(p q:Pr):p=q∨(p.id==q.id)=false∨(p.id=q.id∧(((p.n:Nat):Int)==((q.n:Nat):Int))=false)∨(p.id=q.id∧p.n=q.n∧((bs p.text).toList==(bs q.text).toList)=false)∨(p.id=q.id∧p.n=q.n∧p.text=q.text∧((bs p.value).toList==(bs q.value).toList)=false):=by
 obtain⟨a,b,c,d⟩:=p
 obtain⟨a',b',c',d'⟩:=q
 simp only[q0c6]
 by_cases h1:a=a'
 ·by_cases h2:b=b'
  ·by_cases h3:c=c'
   ·by_cases h4:d=d'
    ·subst h1 h2 h3 h4;exact .inl rfl
    ·exact .inr (.inr (.inr (.inr ⟨h1,h2,h3,by rw[beq_eq_false_iff_ne];exact h4⟩)))
   ·exact .inr (.inr (.inr (.inl ⟨h1,h2,by rw[beq_eq_false_iff_ne];exact h3⟩)))
  ·exact .inr (.inr (.inl ⟨h1,by rw[beq_eq_false_iff_ne];omega⟩))
 ·exact .inr (.inl (by rw[beq_eq_false_iff_ne];exact h1))
def fiV(f:Fi):Value := .agg #[.string (bs f.topic),.int .i64 f.qos,.bool f.noLocal,.bool f.asPub,.int .i64 f.handling]
theorem qpuj(p q:Fi):p=q∨((bs p.topic).toList==(bs q.topic).toList)=false∨(p.topic=q.topic∧(p.qos==q.qos)=false)∨(p.topic=q.topic∧p.qos=q.qos∧(p.noLocal==q.noLocal)=false)∨(p.topic=q.topic∧p.qos=q.qos∧p.noLocal=q.noLocal∧(p.asPub==q.asPub)=false)∨(p.topic=q.topic∧p.qos=q.qos∧p.noLocal=q.noLocal∧p.asPub=q.asPub∧(p.handling==q.handling)=false):=by
 obtain⟨a,b,c,d,e⟩:=p
 obtain⟨a',b',c',d',e'⟩:=q
 simp only[q0c6]
 by_cases h1:a=a'
 ·by_cases h2:b=b'
  ·by_cases h3:c=c'
   ·by_cases h4:d=d'
    ·by_cases h5:e=e'
     ·subst h1 h2 h3 h4 h5;exact .inl rfl
     ·exact .inr (.inr (.inr (.inr (.inr ⟨h1,h2,h3,h4,by rw[beq_eq_false_iff_ne];exact h5⟩))))
    ·exact .inr (.inr (.inr (.inr (.inl ⟨h1,h2,h3,by rw[beq_eq_false_iff_ne];exact h4⟩))))
   ·exact .inr (.inr (.inr (.inl ⟨h1,h2,by rw[beq_eq_false_iff_ne];exact h3⟩)))
  ·exact .inr (.inr (.inl ⟨h1,by rw[beq_eq_false_iff_ne];exact h2⟩))
 ·exact .inr (.inl (by rw[beq_eq_false_iff_ne];exact h1))
theorem qd1x(p q:Int):p=q∨(p==q)=false:=by
 by_cases h:p=q
 ·exact .inl h
 ·exact .inr (by rw[beq_eq_false_iff_ne];exact h)
end Go.Proofs.YtbklidpadffpgaaGreat
