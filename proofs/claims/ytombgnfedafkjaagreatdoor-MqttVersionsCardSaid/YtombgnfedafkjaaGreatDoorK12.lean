/- A region that draws its order, by its final environment, where some operations' values hang on the world that they meet (an address that is made): the environment is a family, indexed by a ghost. Condition: each operation qzfk for those whose slots it reads. -/
import Derived.Test.YtombgnfedafkjaaGreatDoorK10
namespace Go.Proofs.YtombgnfedafkjaaGreatDoor
namespace q2y4
open qfhu (qvpx ql91 Inv q6zd left qxlt Off)
def qzfk(t:Tmp)(i:Nat):List Oper->Bool
 |[]=>true
 |o::l=>(!(o.dst==some t) || o.after.toList.any fun e=>Region.binds .any e&&e.on==i)&&qzfk t i l
def qxuu(war:List (Nat×Tmp))(ops:Array Oper)(l:List Oper)(i:Nat)(o:Oper):Bool:=
 (match o.op with|.select .. => false|_=>true)&&o.after.toList.all (fun e=>!Region.binds .any e || decide (e.on<i))&&(o.looksAt ops).all (fun t=>if war.contains (i,t) then qzfk t i l else !qvpx t o.after.toList l 0)
def q24x(war:List (Nat×Tmp))(ops:Array Oper)(l:List Oper):List Oper->Nat->Bool
 |[],_=>true
 |o::r,i=>qxuu war ops l i o&&q24x war ops l r (i+1)
def q6yk(war:List (Nat×Tmp))(ops:Array Oper):Bool:=q24x war ops ops.toList ops.toList 0
theorem qvg7{t:Tmp}{i:Nat}:∀(l:List Oper),qzfk t i l=true->∀(k:Nat) (o:Oper),l[k]?=some o->o.dst=some t->∃e∈o.after,Region.binds .any e=true/\e.on=i
 |[],_,k,o,h,_=>by simp at h
 |x::l,hc,k,o,h,hd=>by
  rw[qzfk,Bool.and_eq_true] at hc;cases k with
  |zero=>
   obtain rfl:x=o:=by simpa using h
   have h1:=hc.1;rw[hd] at h1;simp only[beq_self_eq_true,Bool.not_true,Bool.false_or,List.any_eq_true,Bool.and_eq_true,beq_iff_eq] at h1;obtain⟨e,he,hb,hj⟩:=h1;exact⟨e,by simpa using he,hb,hj⟩
  |succ k=>exact qvg7 l hc.2 k o (by simpa using h) hd
theorem q9no{war:List (Nat×Tmp)}{ops:Array Oper}{l:List Oper}:∀(r:List Oper) (i:Nat),q24x war ops l r i=true->∀(k:Nat) (o:Oper),r[k]?=some o->qxuu war ops l (i+k) o=true
 |[],_,_,k,o,h=>by simp at h
 |x::r,i,hc,k,o,h=>by
  rw[q24x,Bool.and_eq_true] at hc;cases k with
  |zero=>
   obtain rfl:x=o:=by simpa using h
   exact hc.1
  |succ k=>
   have:=q9no r (i+1) hc.2 k o (by simpa using h)
   rw[show i+1+k=i+(k+1) by omega] at this;exact this
structure Ok(war:List (Nat×Tmp))(ops:Array Oper)(i:Nat)(o:Oper):Prop where
 sel:∀cs b,o.op ≠ .select cs b
 low:∀e∈o.after,Region.binds .any e=true->e.on<i
 dep:∀t∈o.looksAt ops,war.contains (i,t)=false->∀(j:Nat) (oj:Oper),ops[j]?=some oj->oj.dst=some t->∃e∈o.after,Region.binds .any e=true/\e.on=j
 wr:∀t∈o.looksAt ops,war.contains (i,t)=true->∀(j:Nat) (oj:Oper),ops[j]?=some oj->oj.dst=some t->∃e∈oj.after,Region.binds .any e=true/\e.on=i
theorem qvo9{war:List (Nat×Tmp)}{ops:Array Oper}(h:q6yk war ops=true){i:Nat}{o:Oper}(hi:ops[i]?=some o):Ok war ops i o:=by
 have h1:=q9no ops.toList 0 h i o (by simpa using hi);rw[Nat.zero_add] at h1;unfold qxuu at h1;simp only[Bool.and_eq_true,List.all_eq_true,Bool.or_eq_true,Bool.not_eq_true',decide_eq_true_eq] at h1;obtain⟨⟨h1,h2⟩,h3⟩:=h1;refine⟨(fun cs b hs=>by rw[hs] at h1;cases h1),fun e he hb=>?_,fun t ht hw j oj hj hd=>?_,fun t ht hw j oj hj hd=>?_⟩
 ·rcases h2 e (by simpa using he) with h|h
  ·rw[hb] at h;cases h
  ·exact h
 ·have h4:=h3 t ht;rw[hw,if_neg (by simp)] at h4;obtain⟨e,he,hb,hk⟩:=ql91 ops.toList 0 (by simpa using h4) j oj (by simpa using hj) hd;exact⟨e,by simpa using he,hb,by omega⟩
 ·have h4:=h3 t ht;rw[hw,if_pos rfl] at h4;exact qvg7 ops.toList h4 j oj (by simpa using hj) hd
theorem qstk{war:List (Nat×Tmp)}{ops:Array Oper}{listed:Array Bool}(hok:q6yk war ops=true)(h:Region.ready .any ops listed=[]):∀j oj,ops[j]?=some oj->listed.getD j true=true:=by
 intro j
 induction j using Nat.strongRecOn with
 |_ j ih=>
  intro oj hj;cases hl:listed.getD j true with
  |true=>rfl
  |false=>
   have hm:j∈Region.ready .any ops listed:=mem_ready.2 ⟨hl,oj,hj,fun e he hb=>by
    have hlt:=(qvo9 hok hj).low e he hb;have hjs:=(Array.getElem?_eq_some_iff.1 hj).1;have h1:=ih e.on hlt ops[e.on] (Array.getElem?_eq_getElem (by omega));have hes:j<listed.size:=by
     rcases Nat.lt_or_ge j listed.size with h|h
     ·exact h
     ·rw[Array.getD_eq_getD_getElem?,Array.getElem?_eq_none h] at hl;cases hl
    rw[Array.getD_eq_getD_getElem?] at h1 ⊢;rw[Array.getElem?_eq_getElem (show e.on<listed.size by omega)] at h1 ⊢;exact h1⟩
   rw[h] at hm;cases hm
def fr(war:List (Nat×Tmp))(j:Nat)(A B:List Value):List Value:=war.foldr (fun p acc=>if p.1==j then acc.set p.2 (A.getD p.2 undef) else acc) B
theorem q2w6{j:Nat}{A B:List Value}:∀{war:List (Nat×Tmp)},(fr war j A B).length=B.length
 |[]=>rfl
 |p::war=>by
  have:=q2w6 (j:=j) (A:=A) (B:=B) (war:=war)
  unfold fr at this ⊢;rw[List.foldr_cons];split
  ·rw[List.length_set];exact this
  ·exact this
theorem q0ig{j:Nat}{A B:List Value}{t:Tmp}:∀{war:List (Nat×Tmp)},war.contains (j,t)=false->(fr war j A B)[t]?=B[t]?
 |[],_=>rfl
 |p::war,h=>by
  rw[List.contains_cons,Bool.or_eq_false_iff] at h
  have:=q0ig (j:=j) (A:=A) (B:=B) h.2
  unfold fr at this ⊢;rw[List.foldr_cons];split
  ·rename_i hp;rw[beq_iff_eq] at hp;have hne:p.2≠t:=fun e=>by have h1:=h.1;rw[<-hp,<-e] at h1;simp at h1
   rw[List.getElem?_set_ne hne];exact this
  ·exact this
theorem q0v8{j:Nat}{A B:List Value}{t:Tmp}(hl:A.length=B.length):∀{war:List (Nat×Tmp)},war.contains (j,t)=true->(fr war j A B)[t]?=A[t]?
 |[],h=>by simp at h
 |p::war,h=>by
  have hlen:=q2w6 (j:=j) (A:=A) (B:=B) (war:=war);by_cases hp:p=(j,t)
  ·subst hp;unfold fr at hlen ⊢;rw[List.foldr_cons,if_pos (by simp),List.getElem?_set_self',];rcases Nat.lt_or_ge t A.length with h1|h1
   ·rw[List.getElem?_eq_getElem h1,List.getElem?_eq_getElem (by omega)];simp[List.getD_eq_getElem?_getD,h1]
   ·rw[List.getElem?_eq_none h1,List.getElem?_eq_none (by omega)];rfl
  ·have hc:war.contains (j,t)=true:=by
    rw[List.contains_cons,Bool.or_eq_true] at h;rcases h with h|h
    ·rw[beq_iff_eq] at h;exact absurd h.symm hp
    ·exact h
   have:=q0v8 (j:=j) hl hc
   unfold fr at this ⊢;rw[List.foldr_cons];split
   ·rename_i hpj;rw[beq_iff_eq] at hpj;have hne:p.2≠t:=fun e=>hp (by rw[<-hpj,<-e]);rw[List.getElem?_set_ne hne];exact this
   ·exact this
def qtkn(m:Nat):List Oper->Nat->List Nat->List Nat
 |[],_,acc=>acc
 |o::r,j,acc=>qtkn m r (j+1) (if j==m || o.after.toList.any (fun e=>Region.binds .any e&&acc.contains e.on) then j::acc else acc)
def qk87(ops:Array Oper)(m:Nat):List Nat:=qtkn m ops.toList 0 []
def qdy9(ops:Array Oper)(m:Nat)(late:List Tmp):Bool:=
 let b:=qk87 ops m
 late.all fun t=>b.any fun k=>((ops[k]?).bind (·.dst))==some t
def qqah(ops:Array Oper)(L:Nat->Prop):Prop:=∀k o,ops[k]?=some o->L k->∀e∈o.after,Region.binds .any e=true->L e.on
theorem qnyo{ops:Array Oper}{L:Nat->Prop}(hL:qqah ops L)(m:Nat):∀(r:List Oper) (j:Nat) (acc:List Nat),(∀i,r[i]?=ops[j+i]?)->(∀k∈acc,L k->L m)->∀k∈qtkn m r j acc,L k->L m
 |[],_,acc,_,h,k,hk,hl=>h k hk hl
 |o::r,j,acc,hr,h,k,hk,hl=>by
  refine qnyo hL m r (j+1) _ (fun i=>by have:=hr (i+1);rw[show j+1+i=j+(i+1) by omega];simpa using this) ?_ k hk hl;intro k hk hl;split at hk
  ·rename_i hc;rcases List.mem_cons.1 hk with rfl|hk
   ·rw[Bool.or_eq_true] at hc;rcases hc with hc|hc
    ·rw[beq_iff_eq] at hc;rw[<-hc];exact hl
    ·simp only[List.any_eq_true,Bool.and_eq_true,List.contains_iff_mem] at hc;obtain⟨e,he,hb,ha⟩:=hc;have ho:ops[k]?=some o:=by have:=hr 0;simpa using this.symm
     exact h _ ha (hL k o ho hl e (by simpa using he) hb)
   ·exact h k hk hl
  ·exact h k hk hl
theorem qhsk{ops:Array Oper}{L:Nat->Prop}(hL:qqah ops L){m k:Nat}(hk:k∈qk87 ops m)(hl:L k):L m:=
 qnyo hL m ops.toList 0 [] (fun i=>by simp) (fun k h=>by cases h) k hk hl
section
variable{P:Program}{ops:Array Oper}{Q:Exit->Act->World->Prop}{X:Type}{S:X->World->Prop}{war:List (Nat×Tmp)}{A:List Value}{B:X->List Value}{D:List Deferred}{made:Nat->X->Prop}
def qeie(ops:Array Oper)(S:X->World->Prop)(B:X->List Value)(made:Nat->X->Prop)(j:Nat)(o:Oper)(x:X)(v:Value)(x':X)(w':World):Prop:=
 (∀d,o.dst=some d->(B x')[d]?=some v)/\S x' w'/\made j x'/\(∀i,made i x->made i x')/\∃late,qdy9 ops j late=true/\Off late 0 (B x) (B x')
inductive Yields(P:Program)(ops:Array Oper)(S:X->World->Prop)(war:List (Nat×Tmp))(A:List Value)(B:X->List Value)(D:List Deferred)(made:Nat->X->Prop)(j:Nat)(o:Oper)(x:X)(w:World):Prop
 |value (v:Value) (x':X) (w':World) (h:(execOp (Act.eval ⟨(fr war j A (B x)).toArray,D⟩) o).run P w=.ok (.value v) w') (hm:qeie ops S B made j o x v x' w')
 |skip (x':X) (w':World) (h:(execOp (Act.eval ⟨(fr war j A (B x)).toArray,D⟩) o).run P w=.ok .skip w') (hm:qeie ops S B made j o x undef x' w')
 |call (f:FuncId) (args:Array Value) (h:(execOp (Act.eval ⟨(fr war j A (B x)).toArray,D⟩) o).run P w=.ok (.enter f args) w) (hc:Calls P f args w fun e w'=>∃v x',e=.returned v/\qeie ops S B made j o x v x' w')
def Does(P:Program)(ops:Array Oper)(S:X->World->Prop)(war:List (Nat×Tmp))(A:List Value)(B:X->List Value)(D:List Deferred)(made:Nat->X->Prop)(j:Nat)(o:Oper):Prop:=
 ∀x w,(∀m,(qk87 ops m).contains j=true->m≠j->made m x)->S x w->
  (Region.wanted o (yielded ops (fr war j A (B x)).toArray)=true/\Yields P ops S war A B D made j o x w)\/(Region.wanted o (yielded ops (fr war j A (B x)).toArray)=false/\qeie ops S B made j o x undef x w)
def All(p:Nat->Oper->Prop):List Oper->Nat->Prop
 |[],_=>True
 |o::l,j=>p j o/\All p l (j+1)
theorem All.get{p:Nat->Oper->Prop}:∀{l:List Oper} {j:Nat},All p l j->∀{i:Nat} {o:Oper},l[i]?=some o->p (j+i) o
 |[],_,_,_,_,h=>by simp at h
 |x::l,j,h,0,o,hi=>by
  obtain rfl:x=o:=by simpa using hi
  exact h.1
 |x::l,j,h,i+1,o,hi=>by
  have:=All.get h.2 (i:=i) (o:=o) (by simpa using hi)
  rw[show j+1+i=j+(i+1) by omega] at this;exact this
structure Stands(ops:Array Oper)(S:X->World->Prop)(A:List Value)(B:X->List Value)(D:List Deferred)(made:Nat->X->Prop)(listed:Array Bool)(a:Act)(w:World)(x:X):Prop where
 init:∀t,(∀j oj,ops[j]?=some oj->listed.getD j false=true->oj.dst≠some t)->a.tmps[t]?=A[t]?
 inv:Inv ops ⟨(B x).toArray,D⟩ listed a
 keep:S x w
 made:∀i,listed.getD i false=true->made i x
 closed:qqah ops fun i=>listed.getD i false=true
 size:listed.size=ops.size
theorem qpma{listed:Array Bool}{i:Nat}(h:i<listed.size):listed.getD i true=listed.getD i false:=by rw[Array.getD_eq_getD_getElem?,Array.getD_eq_getD_getElem?,Array.getElem?_eq_getElem h];rfl
theorem qxtj{listed:Array Bool}{i j:Nat}(h:(listed.setIfInBounds j true).getD i false=true):i=j\/listed.getD i false=true:=by
 by_cases hij:i=j
 ·exact .inl hij
 ·rw[getD_set_ne false (Ne.symm hij)] at h;exact .inr h
theorem Stands.put{listed:Array Bool}{a:Act}{w w':World}{x x':X}{j:Nat}{o:Oper}{v:Value}(h:Stands ops S A B D made listed a w x)(hj:j∈Region.ready .any ops listed)(ho:ops[j]?=some o)(hm:qeie ops S B made j o x v x' w') :
 Stands ops S A B D made (listed.setIfInBounds j true) (a.put o.dst v) w' x':=by
 obtain⟨hu,o',ho',haf⟩:=mem_ready.1 hj;rw[ho] at ho';obtain rfl:=Option.some.inj ho';obtain⟨hv,hS,hmj,hmore,late,hlate,hoff⟩:=hm;have hjs:j<listed.size:=by rw[h.size];exact(Array.getElem?_eq_some_iff.1 ho).1
 have huf:listed.getD j false=false:=by rw[<-qpma hjs];exact hu
 have hl:∀k,k≠j->(listed.setIfInBounds j true).getD k true=listed.getD k true:=fun k hk=>getD_set_ne true (Ne.symm hk);have hlen:=hoff.spec.1;refine⟨fun t ht=>?_,⟨by cases o.dst<;>exact h.inv.defers,?_,fun t ht=>?_⟩,hS,fun i hi=>?_,fun k ok hk hlk e he hb=>?_,by simp[h.size]⟩
 ·have hset:∀i,listed.getD i false=true->(listed.setIfInBounds j true).getD i false=true:=fun i hi=>getD_set_true hi;have hd:o.dst≠some t:=ht j o ho (by rw[Array.getD_eq_getD_getElem?,Array.getElem?_setIfInBounds_self_of_lt hjs];rfl);have e1:(a.put o.dst v).tmps[t]?=a.tmps[t]? := by
   cases hd':o.dst with
   |none=>rfl
   |some y=>rw[hd'] at hd;simp only[ne_eq,Option.some.injEq] at hd;simp[Act.put,hd]
  rw[e1];exact h.init t fun k ok hk hlk=>ht k ok hk (hset k hlk)
 ·have h1:a.tmps.size=(B x').length:=by have:=h.inv.size;simp at this;omega
  cases o.dst<;>simpa [Act.put] using h1
 ·by_cases hd:o.dst=some t
  ·have hb:=hv t hd;have hlt:t<a.tmps.size:=by
    have h3:(B x').length=a.tmps.size:=by have:=h.inv.size;simp at this;omega
    rw[<-h3];exact(List.getElem?_eq_some_iff.1 hb).1
   rw[hd];simp[Act.put,hb,hlt]
  ·have e1:(a.put o.dst v).tmps[t]?=a.tmps[t]? := by
    cases hd':o.dst with
    |none=>rfl
    |some y=>rw[hd'] at hd;simp only[Option.some.injEq] at hd;simp[Act.put,hd]
   have e2:a.tmps[t]?=(B x).toArray[t]? := h.inv.same t fun k ok hk hun=>by
    by_cases hkj:k=j
    ·subst hkj;rw[ho] at hk;obtain rfl:=Option.some.inj hk;exact hd
    ·exact ht k ok hk (by rw[hl k hkj];exact hun)
   have e3:late.contains t=false:=by
    rw[Bool.eq_false_iff];intro hc;unfold qdy9 at hlate;simp only[List.all_eq_true,List.any_eq_true,beq_iff_eq] at hlate;obtain⟨k,hk,hkt⟩:=hlate t (List.contains_iff_mem.1 hc);obtain⟨ok,hok,hdk⟩:=Option.bind_eq_some_iff.1 hkt;have hkj:k≠j:=fun e=>by subst e;rw[ho] at hok;obtain rfl:=Option.some.inj hok;exact hd hdk
    have hks:k<listed.size:=by rw[h.size];exact(Array.getElem?_eq_some_iff.1 hok).1
    refine ht k ok hok ?_ hdk;rw[hl k hkj,qpma hks];rw[Bool.eq_false_iff];intro hlk
    have:=qhsk h.closed hk hlk
    rw[huf] at this;cases this
   have e4:=hoff.spec.2 t (by rw[Nat.zero_add];exact e3);rw[e1,e2];simpa using e4
 ·rcases qxtj hi with rfl|hi
  ·exact hmj
  ·exact hmore i (h.made i hi)
 ·have hset:∀i,listed.getD i false=true->(listed.setIfInBounds j true).getD i false=true:=fun i hi=>getD_set_true hi;rcases qxtj hlk with rfl|hlk
  ·rw[ho] at hk;obtain rfl:=Option.some.inj hk;exact hset _ (haf e he hb)
  ·exact hset _ (h.closed k ok hk hlk e he hb)
theorem any(hok:q6yk war ops=true)(hlen:∀x,A.length=(B x).length)(hall:All (Does P ops S war A B D made) ops.toList 0)(fin:∀x w,(∀i,i<ops.size->made i x)->S x w->Q .normal ⟨(B x).toArray,D⟩ w) :
 ∀(fuel:Nat) (listed:Array Bool) (a:Act) (w:World) (x:X),left ops listed<=fuel->Stands ops S A B D made listed a w x->wpAny P .any ops Q fuel listed a w:=by
 have done:∀(listed:Array Bool) (a:Act) (w:World) (x:X),Region.ready .any ops listed=[]->Stands ops S A B D made listed a w x->Q .normal a w:=fun listed a w x hr h=>by
  have hn:=qstk hok hr;have hI:=h.inv
  have:a=⟨(B x).toArray,D⟩:=by
   obtain⟨at',ad⟩:=a;have h1:=hI.defers;have h2:at'=(B x).toArray:=Array.ext_getElem? fun d=>hI.same d fun j oj hj hun=>by rw[hn j oj hj] at hun;cases hun
   simp only at h1;rw[h1,h2]
  rw[this];exact fin x w (fun i hi=>h.made i (by rw[<-qpma (by rw[h.size];exact hi)];exact hn i ops[i] (Array.getElem?_eq_getElem hi))) h.keep
 intro fuel
 induction fuel with
 |zero=>
  intro listed a w x hle h;have hr:Region.ready .any ops listed=[]:=by
   rw[List.eq_nil_iff_forall_not_mem];intro j hj;obtain⟨hu,o,ho,_⟩:=mem_ready.1 hj
   have:=qxlt (ops:=ops) (Array.getElem?_eq_some_iff.1 ho).1 hu
   omega
  exact⟨hr,done listed a w x hr h⟩
 |succ fuel ih=>
  intro listed a w x hle h;refine⟨fun hr=>done listed a w x hr h,fun i hi=>?_⟩;obtain⟨hu,o,ho,haf⟩:=mem_ready.1 hi;have hO:=qvo9 hok ho;have hI:=h.inv;have hui:listed.getD i false=false:=by rw[<-qpma (by rw[h.size];exact(Array.getElem?_eq_some_iff.1 ho).1)];exact hu
  have hsame:∀t∈o.looksAt ops,a.tmps[t]?=(fr war i A (B x)).toArray[t]? := fun t ht=>by
   rw[show(fr war i A (B x)).toArray[t]?=(fr war i A (B x))[t]? by simp];cases hc:war.contains (i,t) with
   |true=>
    rw[q0v8 (hlen x) hc];refine h.init t fun k ok hk hlk hd=>?_;obtain⟨e,he,hb,hei⟩:=hO.wr t ht hc k ok hk hd
    have:=h.closed k ok hk hlk e he hb
    simp only[hei,hui] at this;cases this
   |false=>
    rw[q0ig hc]
    have:=hI.same t (fun j oj hj hun hd=>by
     obtain⟨e,he,hb,rfl⟩:=hO.dep t ht hc j oj hj hd
     have:=haf e he hb
     rw[Array.getD_eq_getD_getElem?] at this hun;cases hx:listed[e.on]? with
     |none=>rw[hx] at hun;cases hun
     |some y=>rw[hx] at hun this;simp only[Option.getD_some] at hun this;rw[hun] at this;cases this)
    simpa using this
  have hw:=q6zd (ops:=ops) (a:=a) (b:=⟨(fr war i A (B x)).toArray,D⟩) (o:=o) hsame;have hx:execOp a.eval o=execOp (Act.eval ⟨(fr war i A (B x)).toArray,D⟩) o:=execOp_congr o hO.sel fun y hy=>by
   cases y with
   |tmp t=>
    have:=hsame t (List.mem_append_left _ (List.mem_filterMap.2 ⟨.tmp t,by simpa using hy,rfl⟩))
    simp only[Act.eval,Array.getD_eq_getD_getElem?,this]
   |_=>rfl
  have hlt:=qxlt (ops:=ops) (Array.getElem?_eq_some_iff.1 ho).1 hu;have hpre:∀m,(qk87 ops m).contains i=true->m≠i->made m x:=fun m hm hne=>by
   have hc:qqah ops fun k=>listed.getD k false=true\/k=i:=fun k ok hk hlk e he hb=>by
    rcases hlk with hlk|rfl
    ·exact .inl (h.closed k ok hk hlk e he hb)
    ·rw[ho] at hk;obtain rfl:=Option.some.inj hk;exact .inl (haf e he hb)
   rcases qhsk hc (List.contains_iff_mem.1 hm) (.inr rfl) with h1|h1
   ·exact h.made m h1
   ·exact absurd h1 hne
  have hdo:=hall.get (i:=i) (o:=o) (by simpa using ho);rw[Nat.zero_add] at hdo;have hn:∀v x' w',qeie ops S B made i o x v x' w'->wpAny P .any ops Q fuel (listed.setIfInBounds i true) (a.put o.dst v) w':=fun v x' w' hm=>ih _ _ _ x' (by omega) (h.put hi ho hm)
  unfold wpOp;simp only[ho,hw];rcases hdo x w hpre h.keep with ⟨h1,h2⟩|⟨h1,h2⟩
  ·rw[if_pos h1];refine .inl ?_;unfold Oper.wp;rw[hx];cases h2 with
   |value v x' w' hr hm=>rw[hr];exact hn v x' w' hm
   |skip x' w' hr hm=>rw[hr];exact hn undef x' w' hm
   |call f args hr hc=>rw[hr];exact hc.mono fun e w' ⟨v,x',he,hm⟩=>by subst he;exact hn v x' w' hm
  ·rw[if_neg (by rw[h1];simp)];exact hn undef x w h2
theorem wp{id:Nat}{ds:List Tmp}{w:World}(x:X)(hm:P.follows .mixedOrders=true)(hok:q6yk war ops=true)(hds:ops.toList.filterMap (·.dst)=ds)(hoff:∀x,Off ds 0 A (B x))(hS:S x w.drew)
 (hall:All (Does P ops S war A B D made) ops.toList 0) (fin:∀x w,(∀i,i<ops.size->made i x)->S x w->Q .normal ⟨(B x).toArray,D⟩ w):(Code.region id ops true).wp P Q ⟨A.toArray,D⟩ w:=by
 have hnf:∀i,(Array.replicate ops.size false).getD i false=false:=fun i=>by rw[Array.getD_eq_getD_getElem?,Array.getElem?_replicate];split<;>rfl
 refine wp_region_any hm (any hok (fun x=>(hoff x).spec.1) hall fin ops.size _ _ _ x ?_ ⟨fun t _=>by simp,?_,hS,fun i hi=>?_,fun k o _ hl=>?_,by simp⟩)
 ·unfold left;exact Nat.le_trans (List.length_filter_le _ _) (by simp)
 ·refine⟨rfl,by simpa using (hoff x).spec.1,fun d hd=>?_⟩
  have:=(hoff x).spec.2 d (by
   rw[Nat.zero_add];rw[Bool.eq_false_iff];intro hc;rw[List.contains_iff_mem,<-hds,List.mem_filterMap] at hc;obtain⟨o,ho,hod⟩:=hc;obtain⟨j,hj⟩:=List.mem_iff_getElem?.1 ho;have hjs:j<ops.size:=by
    have:=(List.getElem?_eq_some_iff.1 hj).1
    simpa using this
   exact hd j o (by simpa using hj) (by simp[Array.getD_eq_getD_getElem?,hjs]) hod)
  simpa using this
 ·rw[hnf] at hi;cases hi
 ·simp only[hnf] at hl;cases hl
theorem All.step{p:Nat->Oper->Prop}{l r:List Oper}{o:Oper}{j:Nat}(h:l=o::r)(h1:p j o)(h2:All p r (j+1)):All p l j:=by rw[h];exact⟨h1,h2⟩
theorem All.fin{p:Nat->Oper->Prop}{l:List Oper}{j:Nat}(h:l=[]):All p l j:=by rw[h];trivial
variable{o:Oper}{d:Tmp}{j:Nat}
theorem off_refl:∀(k:Nat) (l:List Value),Off [] k l l
 |_,[]=>trivial
 |k,_::l=>⟨.inr rfl,off_refl (k+1) l⟩
theorem qeie.stay{x:X}{v:Value}{w:World}(hv:∀d,o.dst=some d->(B x)[d]?=some v)(hS:S x w)(hm:made j x):qeie ops S B made j o x v x w:=
 ⟨hv,hS,hm,fun _ h=>h,[],rfl,off_refl 0 _⟩
theorem Does.pure{val:X->Value}(hd:o.dst=some d)(hm:∀x,made j x)
 (h:∀x w,(∀m,(qk87 ops m).contains j=true->m≠j->made m x)->S x w->(B x)[d]?=some (val x)/\Region.wanted o (yielded ops (fr war j A (B x)).toArray)=true/\(execOp (Act.eval ⟨(fr war j A (B x)).toArray,D⟩) o).run P w=.ok (.value (val x)) w):Does P ops S war A B D made j o:=fun x w hp hS=>
 have ⟨h1,h2,h3⟩:=h x w hp hS
 .inl ⟨h2,.value _ x w h3 (qeie.stay (fun y hy=>by rw[hd] at hy;obtain rfl:=Option.some.inj hy;exact h1) hS (hm x))⟩
theorem Does.skip(hd:o.dst=some d)(hm:∀x,made j x)(h:∀x,(B x)[d]?=some undef/\Region.wanted o (yielded ops (fr war j A (B x)).toArray)=false):Does P ops S war A B D made j o:=fun x _ _ hS=>.inr ⟨(h x).2,qeie.stay (fun y hy=>by rw[hd] at hy;obtain rfl:=Option.some.inj hy;exact(h x).1) hS (hm x)⟩
theorem Does.call{val:X->Value}{f:FuncId}{args:X->Array Value}(hd:o.dst=some d)(hm:∀x,made j x)
 (h:∀x w,(∀m,(qk87 ops m).contains j=true->m≠j->made m x)->S x w->(B x)[d]?=some (val x)/\Region.wanted o (yielded ops (fr war j A (B x)).toArray)=true/\(execOp (Act.eval ⟨(fr war j A (B x)).toArray,D⟩) o).run P w=.ok (.enter f (args x)) w/\Calls P f (args x) w fun e w'=>e=.returned (val x)/\S x w'):Does P ops S war A B D made j o:=fun x w hp hS=>
 have ⟨h1,h2,h3,h4⟩:=h x w hp hS
 .inl ⟨h2,.call f _ h3 (h4.mono fun _ _ ⟨he,hk⟩=>⟨_,x,he,qeie.stay (fun y hy=>by rw[hd] at hy;obtain rfl:=Option.some.inj hy;exact h1) hk (hm x)⟩)⟩
variable{l r:List Oper}
theorem pu{val:X->Value}(e:l=o::r)(hd:o.dst=some d)(hm:∀x,made j x)
 (h:∀x w,(∀m,(qk87 ops m).contains j=true->m≠j->made m x)->S x w->(B x)[d]?=some (val x)/\Region.wanted o (yielded ops (fr war j A (B x)).toArray)=true/\(execOp (Act.eval ⟨(fr war j A (B x)).toArray,D⟩) o).run P w=.ok (.value (val x)) w) (n:All (Does P ops S war A B D made) r (j+1)):All (Does P ops S war A B D made) l j := .step e (.pure hd hm h) n
end
end q2y4
end Go.Proofs.YtombgnfedafkjaaGreatDoor
