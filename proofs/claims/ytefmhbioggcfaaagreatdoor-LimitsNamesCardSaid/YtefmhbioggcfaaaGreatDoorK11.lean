/- A ghost: where a list lies, its capacity. No condition. -/
import Derived.Deep.LoopGhost
import Derived.Test.YtefmhbioggcfaaaGreatDoorK09
namespace Go.Proofs.YtefmhbioggcfaaaGreatDoor
def gA(x:Option (Option Addr×Nat)):Option Addr:=(x.getD (none,0)).1
def gC(x:Option (Option Addr×Nat)):Nat:=(x.getD (none,0)).2
end Go.Proofs.YtefmhbioggcfaaaGreatDoor
namespace Go.Proofs.YtefmhbioggcfaaaGreatDoor
open Go.RowKit
structure BxS(w:World)(p:Pk)(a:Ad)(W:World):Prop where
 low:Below w.heap.size w W
 box:W.heap[w.heap.size]?=some (.cells (pkC p a) 38 (0,0))
theorem BxS.made(w:World)(p:Pk)(a:Ad):BxS w p a (w.alloc (.cells (pkC p a) 38)):=⟨qybm _,heap_alloc_new _ _⟩
theorem BxS.call{w W W':World}{p:Pk}{a:Ad}(h:BxS w p a W)(hb:Below W.heap.size W W'):BxS w p a W':=⟨qxh2 h.low hb,(hb.block _ (lt_of_block h.box)).trans h.box⟩
theorem BxS.draw{w W:World}{p:Pk}{a:Ad}(h:BxS w p a W):BxS w p a W.drew:=⟨h.low.drew,h.box⟩
theorem BxS.cell{w W:World}{p:Pk}{a:Ad}(h:BxS w p a W)(j:Nat):W.cell? ⟨w.heap.size,j,none⟩=(pkC p a)[j]? := cell_of_row _ _ j _ _ _ h.box
theorem qo4g{w W:World}{B b j:Nat}{u:Value}(h:Below B w W)(hb:B<=b):Below B w (W.setCell ⟨b,j,none⟩ u):=h.setCell (show B<=(⟨b,j,none⟩:Addr).block from hb) u
theorem qv6p{W:World}{b j:Nat}{u:Value}{C D:Array Value}{t:TypeId}(h:W.heap[b]?=some (.cells C t (0,0)))(he:C.setIfInBounds j u=D):(W.setCell ⟨b,j,none⟩ u).heap[b]?=some (.cells D t (0,0)):=by
 have:=qlvy h j u
 rw[he] at this;exact this
theorem qacl{w W:World}{B:Nat}{r:Option Nat}(h:w.grownBy W r)(hB:w.heap.size<=B)(D:Array Value):w.grownBy (W.setRow B D) r:=
 ⟨h.os,h.tape,h.output,by have:=h.size;simpa [World.setRow] using this,fun k hk hne=>(setRow_other _ _ _ _ (by omega)).trans (h.block k hk hne)⟩
theorem q573(W:World)(B:Nat)(D:Array Value):W.grownBy (W.setRow B D) (some B):=
 ⟨rfl,rfl,rfl,by simp[World.setRow],fun k _ hne=>setRow_other _ _ _ _ (fun e=>hne (congrArg some e))⟩
theorem qs8g{T:Type}{l m:List T}{n:Nat}(hl:l.length=n)(hm:m.length=n)(h:∀j p q,j<n->l[j]?=some p->m[j]?=some q->p=q):l=m:=by
 apply List.ext_getElem?;intro j;by_cases hj:j<n
 ·rw[List.getElem?_eq_getElem (by omega),List.getElem?_eq_getElem (by omega)];exact congrArg some (h j _ _ hj (List.getElem?_eq_getElem (by omega)) (List.getElem?_eq_getElem (by omega)))
 ·rw[List.getElem?_eq_none (by omega),List.getElem?_eq_none (by omega)]
theorem qzlf(p q:Pr):p=q\/(p.id==q.id)=false\/(p.id=q.id/\(((p.n:Nat):Int)==((q.n:Nat):Int))=false)\/(p.id=q.id/\p.n=q.n/\((bs p.text).toList==(bs q.text).toList)=false)\/(p.id=q.id/\p.n=q.n/\p.text=q.text/\((bs p.value).toList==(bs q.value).toList)=false):=by
 obtain⟨a,b,c,d⟩:=p;obtain⟨a',b',c',d'⟩:=q;simp only[q0c6];by_cases h1:a=a'
 ·by_cases h2:b=b'
  ·by_cases h3:c=c'
   ·by_cases h4:d=d'
    ·subst h1 h2 h3 h4;exact .inl rfl
    ·exact .inr (.inr (.inr (.inr ⟨h1,h2,h3,by rw[beq_eq_false_iff_ne];exact h4⟩)))
   ·exact .inr (.inr (.inr (.inl ⟨h1,h2,by rw[beq_eq_false_iff_ne];exact h3⟩)))
  ·exact .inr (.inr (.inl ⟨h1,by rw[beq_eq_false_iff_ne];omega⟩))
 ·exact .inr (.inl (by rw[beq_eq_false_iff_ne];exact h1))
def fiV(f:Fi):Value := .agg #[.string (bs f.topic),.int .i64 f.qos,.bool f.noLocal,.bool f.asPub,.int .i64 f.handling]
theorem qpuj(p q:Fi):p=q\/((bs p.topic).toList==(bs q.topic).toList)=false\/(p.topic=q.topic/\(p.qos==q.qos)=false)\/(p.topic=q.topic/\p.qos=q.qos/\(p.noLocal==q.noLocal)=false)\/(p.topic=q.topic/\p.qos=q.qos/\p.noLocal=q.noLocal/\(p.asPub==q.asPub)=false)\/(p.topic=q.topic/\p.qos=q.qos/\p.noLocal=q.noLocal/\p.asPub=q.asPub/\(p.handling==q.handling)=false):=by
 obtain⟨a,b,c,d,e⟩:=p;obtain⟨a',b',c',d',e'⟩:=q;simp only[q0c6];by_cases h1:a=a'
 ·by_cases h2:b=b'
  ·by_cases h3:c=c'
   ·by_cases h4:d=d'
    ·by_cases h5:e=e'
     ·subst h1 h2 h3 h4 h5;exact .inl rfl
     ·exact .inr (.inr (.inr (.inr (.inr ⟨h1,h2,h3,h4,by rw[beq_eq_false_iff_ne];exact h5⟩))))
    ·exact .inr (.inr (.inr (.inr (.inl ⟨h1,h2,h3,by rw[beq_eq_false_iff_ne];exact h4⟩))))
   ·exact .inr (.inr (.inr (.inl ⟨h1,h2,by rw[beq_eq_false_iff_ne];exact h3⟩)))
  ·exact .inr (.inr (.inl ⟨h1,by rw[beq_eq_false_iff_ne];exact h2⟩))
 ·exact .inr (.inl (by rw[beq_eq_false_iff_ne];exact h1))
theorem q2a5{P:Program}{ops:Array Oper}{rest:List Oper}{o:Oper}{a:Act}{w:World}{Q:Exit->Act->World->Prop}(hw:Region.wanted o (yielded ops a.tmps)=true)(ty:TypeId)(x:Operand)(ho:o.op=.load ty x)
 (g:Nat) (hx:a.eval x=.pointer (some ⟨g,0,none⟩)) (t:TypeId) (cs:Array Value) (fr:Nat×Nat) (d:TypeDesc) (hg:w.heap[g]?=some (.cells cs t fr))
 (hu:P.underlying ty=some d) (hd:(match d with|.struct _|.array _ _=>true|_=>false)=true) (hi:(P.info? ty).map (·.size)=some cs.size)
 (h:wpList P ops Q rest (a.put o.dst (.agg cs)) w):wpList P ops Q (o::rest) a w:=by
 unfold wpList;rw[if_pos hw];exact .inl (wp_load_row ty x ho g hx t cs fr d hg hu hd hi h)
end Go.Proofs.YtefmhbioggcfaaaGreatDoor
