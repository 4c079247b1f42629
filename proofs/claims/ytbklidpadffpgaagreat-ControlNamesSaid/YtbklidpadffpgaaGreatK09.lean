/- A region in the text's order, by its final environment (as qfhu, for regions that don't draw): if each operation, read in the frame as it stands qk87 the whole region, yields what that frame holds at its slot, then the region ends with that frame. Condition: no operation reads a slot that it or a later one qsew. -/
import Derived.Laws.ResultCell
import Derived.Test.YtbklidpadffpgaaGreatK08
import Derived.Test.YtbklidpadffpgaaGreatK07
import Derived.Test.YtbklidpadffpgaaGreatK03
namespace Go.Proofs.YtbklidpadffpgaaGreat
namespace qq8x
open qfhu
def qsew(t:Tmp):List Oper→Bool
 | []=>false
 | o::l=>o.dst==some t || qsew t l
def q92o(ops:Array Oper):List Oper→Bool
 | []=>true
 | o::l=>(match o.op with | .select .. => false | _=>true)&&(o.looksAt ops).all (fun t=>!qsew t (o::l))&&q92o ops l
theorem qhiy{t:Tmp}:∀{l:List Oper},qsew t l=false→∀o∈l,o.dst≠some t
 | [],_,o,ho=>by cases ho
 | x::l,h,o,ho=>by
  rw[qsew,Bool.or_eq_false_iff] at h
  rcases List.mem_cons.1 ho with rfl | ho
  ·intro e;have:=h.1;rw[e] at this;simp at this
  ·exact qhiy h.2 o ho
section
variable{P:Program}{ops:Array Oper}{Q:Exit→Act→World→Prop}{S:World→Prop}
structure Inv(b:Act)(l:List Oper)(a:Act):Prop where
 defers:a.defers=b.defers
 size:a.tmps.size=b.tmps.size
 same:∀d,(∀o∈l,o.dst≠some d)→a.tmps[d]? = b.tmps[d]?
theorem Inv.put{b a:Act}{l:List Oper}{o:Oper}{v:Value}(h:Inv b (o::l) a)(hv:∀d,o.dst=some d→b.tmps[d]? = some v):Inv b l (a.put o.dst v):=by
 cases hd:o.dst with
 | none=>
  refine⟨h.defers,h.size,fun d hu=>h.same d fun x hx=>?_⟩
  rcases List.mem_cons.1 hx with rfl | hx
  ·rw[hd];simp
  ·exact hu x hx
 | some y=>
  refine⟨h.defers,by simp[Act.put,h.size],fun d hu=>?_⟩
  by_cases hdx:y=d
  ·subst hdx
   have hb:=hv y hd
   have hlt:y < a.tmps.size:=by rw[h.size];exact(Array.getElem?_eq_some_iff.1 hb).1
   simp[Act.put,hb,hlt]
  ·have:(a.put (some y) v).tmps[d]? = a.tmps[d]? := by simp[Act.put,hdx]
   rw[this]
   refine h.same d fun x hx=>?_
   rcases List.mem_cons.1 hx with rfl | hx
   ·rw[hd];exact fun e=>hdx (Option.some.inj e)
   ·exact hu x hx
theorem list{b:Act}(fin:∀w,S w→Q .normal b w):∀(l:List Oper) (a:Act) (w:World),q92o ops l=true→qfhu.All (Does P ops S b) l→Inv b l a→S w→wpList P ops Q l a w
 | [],a,w,_,_,hI,hS=>by
  have:a=b:=by
   obtain⟨at',ad⟩:=a
   obtain⟨bt,bd⟩:=b
   have h1:=hI.defers
   have h2:at'=bt:=Array.ext_getElem? fun d=>hI.same d fun o ho=>by cases ho
   simp only at h1
   rw[h1,h2]
  rw[this]
  exact fin w hS
 | o::l,a,w,hok,hall,hI,hS=>by
  rw[q92o,Bool.and_eq_true,Bool.and_eq_true] at hok
  obtain⟨⟨hsel,hlk⟩,hok⟩:=hok
  obtain⟨⟨v,hv,hd⟩,hall⟩:=hall
  have hno:∀t∈o.looksAt ops,∀x∈o::l,x.dst≠some t:=fun t ht=>by
   have:=List.all_eq_true.1 hlk t ht
   exact qhiy (by simpa using this)
  have hw:=q6zd (ops:=ops) (a:=a) (b:=b) (o:=o) fun t ht=>hI.same t (hno t ht)
  have hx:execOp a.eval o=execOp b.eval o:=execOp_congr o (fun cs b hs=>by rw[hs] at hsel;cases hsel) fun x hx=>by
   cases x with
   | tmp t=>
    have:=hI.same t (hno t (List.mem_append_left _ (List.mem_filterMap.2 ⟨.tmp t,by simpa using hx,rfl⟩)))
    simp only[Act.eval,Array.getD_eq_getD_getElem?,this]
   | _=>rfl
  unfold wpList
  rw[hw]
  rcases hd with ⟨h1,h2⟩ | ⟨h1,h2⟩
  ·rw[if_pos h1]
   exact .inl (qfhu.step hx h2 hS fun w' hS'=>list fin l _ _ hok hall (hI.put hv) hS')
  ·rw[if_neg (by rw[h1];simp),←h2]
   exact list fin l _ _ hok hall (hI.put hv) hS
theorem wp_in{id:Nat}{ds:List Tmp}{A B:List Value}{D:List Deferred}{w:World}(hok:q92o ops ops.toList=true)(hds:ops.toList.filterMap (·.dst)=ds)(hoff:Off ds 0 A B)(hS:S w)
 (hall:qfhu.All (Does P ops S ⟨B.toArray,D⟩) ops.toList) (fin:∀w,S w→Q .normal ⟨B.toArray,D⟩ w):(Code.region id ops false).wp P Q ⟨A.toArray,D⟩ w:=by
 refine wp_region_list (list fin ops.toList _ w hok hall ⟨rfl,by simpa using hoff.spec.1,fun d hu=>?_⟩ hS)
 have:=hoff.spec.2 d (by
  rw[Nat.zero_add,Bool.eq_false_iff]
  intro hc
  rw[←hds,List.contains_iff_mem,List.mem_filterMap] at hc
  obtain⟨o,ho,hod⟩:=hc
  exact hu o ho hod)
 simpa using this
end
end qq8x
end Go.Proofs.YtbklidpadffpgaaGreat
namespace Go.Proofs.YtbklidpadffpgaaGreat
open Go.RowKit
structure BxS(w:World)(p:Pk)(a:Ad)(W:World):Prop where
 low:Below w.heap.size w W
 box:W.heap[w.heap.size]? = some (.cells (pkC p a) 35 (0,0))
theorem BxS.made(w:World)(p:Pk)(a:Ad):BxS w p a (w.alloc (.cells (pkC p a) 35)):=⟨qybm _,heap_alloc_new _ _⟩
theorem BxS.call{w W W':World}{p:Pk}{a:Ad}(h:BxS w p a W)(hb:Below W.heap.size W W'):BxS w p a W':=⟨qxh2 h.low hb,(hb.block _ (lt_of_block h.box)).trans h.box⟩
theorem BxS.cell{w W:World}{p:Pk}{a:Ad}(h:BxS w p a W)(j:Nat):W.cell? ⟨w.heap.size,j,none⟩=(pkC p a)[j]? := cell_of_row _ _ j _ _ _ h.box
end Go.Proofs.YtbklidpadffpgaaGreat
