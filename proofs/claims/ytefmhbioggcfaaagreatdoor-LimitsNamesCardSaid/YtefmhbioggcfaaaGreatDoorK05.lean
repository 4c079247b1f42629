/- A call's operation in a region, whatever it calls: it enters the function with its operands' values. Condition: the function has a body. -/
import Derived.Deep.RegionHeld3
namespace Go.Proofs.YtefmhbioggcfaaaGreatDoor
namespace qpjl
section
variable{P:Program}{a:Act}{w:World}{d:Option Tmp}{p:String}{af:Array Edge}{gd:Option (Nat×Bool)}{r:TypeId}{ts:Array TypeId}{F:FuncId}{fn:Func}{o1 o2 o3 o4 o5:Operand}{v1 v2 v3 v4 v5:Value}(hF:P.funcs[F]?=some fn)(hn:(fn.name=="runtime.NumGoroutine" || fn.body.isNone)=false)
include hF hn
theorem calls_go(args:Array Value):(callFunc F args).run P w=.ok (.enter F args) w:=by
 rw[Bool.or_eq_false_iff] at hn;have h1:¬fn.name="runtime.NumGoroutine":=by simpa using hn.1
 have h2:¬fn.body=none:=fun e=>by have h:=hn.2;rw[e] at h;cases h
 unfold callFunc;simp[hF,h1,h2,go_sem]
theorem enter0:(execOp a.eval {dst:=d,op := .call {callee := .value (.func F),args:=#[],argTypes:=ts},type:=r,pos:=p,after:=af,guard:=gd}).run P w=.ok (.enter F #[]) w:=by change (callFunc F (#[]++#[].map a.eval++#[])).run P w=_;simpa using calls_go hF hn _
theorem enter1(h1:a.eval o1=v1):(execOp a.eval {dst:=d,op := .call {callee := .value (.func F),args:=#[o1],argTypes:=ts},type:=r,pos:=p,after:=af,guard:=gd}).run P w=.ok (.enter F #[v1]) w:=by subst h1;change (callFunc F (#[]++#[o1].map a.eval++#[])).run P w=_;simpa using calls_go hF hn _
theorem enter2(h1:a.eval o1=v1)(h2:a.eval o2=v2):(execOp a.eval {dst:=d,op := .call {callee := .value (.func F),args:=#[o1,o2],argTypes:=ts},type:=r,pos:=p,after:=af,guard:=gd}).run P w=.ok (.enter F #[v1,v2]) w:=by subst h1;subst h2;change (callFunc F (#[]++#[o1,o2].map a.eval++#[])).run P w=_;simpa using calls_go hF hn _
theorem enter3(h1:a.eval o1=v1)(h2:a.eval o2=v2)(h3:a.eval o3=v3):(execOp a.eval {dst:=d,op := .call {callee := .value (.func F),args:=#[o1,o2,o3],argTypes:=ts},type:=r,pos:=p,after:=af,guard:=gd}).run P w=.ok (.enter F #[v1,v2,v3]) w:=by subst h1;subst h2;subst h3;change (callFunc F (#[]++#[o1,o2,o3].map a.eval++#[])).run P w=_;simpa using calls_go hF hn _
end
end qpjl
namespace qfhu
def qurt(id:Nat):Code->Option (Array Oper)
 |.region i ops _=>if i==id then some ops else none
 |.seq a b=>match qurt id a with|some o=>some o|none=>qurt id b
 |.cond _ a b=>match qurt id a with|some o=>some o|none=>qurt id b
 |.block _ c=>qurt id c
 |.loop c=>qurt id c
 |.rangeFunc _ _ a b=>match qurt id a with|some o=>some o|none=>qurt id b
 |.scope c=>qurt id c
 |_=>none
def opsAt(id:Nat)(c:Option Code):Array Oper:=
 match c with
 |some c=>(match qurt id c with|some o=>o|none=>#[])
 |none=>#[]
def qvpx(t:Tmp)(af:List Edge):List Oper->Nat->Bool
 |[],_=>false
 |o::l,j=>(o.dst==some t&&!(af.any fun e=>Region.binds .any e&&e.on==j)) || qvpx t af l (j+1)
def qxuu(ops:Array Oper)(l:List Oper)(i:Nat)(o:Oper):Bool:=
 (match o.op with|.select .. => false|_=>true)&&o.after.toList.all (fun e=>!Region.binds .any e || decide (e.on<i))&&(o.looksAt ops).all (fun t=>!qvpx t o.after.toList l 0)
def q24x(ops:Array Oper)(l:List Oper):List Oper->Nat->Bool
 |[],_=>true
 |o::r,i=>qxuu ops l i o&&q24x ops l r (i+1)
def q6yk(ops:Array Oper):Bool:=q24x ops ops.toList ops.toList 0
theorem ql91{t:Tmp}{af:List Edge}:∀(l:List Oper) (j:Nat),qvpx t af l j=false->∀(k:Nat) (o:Oper),l[k]?=some o->o.dst=some t->∃e∈af,Region.binds .any e=true/\e.on=j+k
 |[],_,_,k,o,h,_=>by simp at h
 |x::l,j,hc,k,o,h,hd=>by
  rw[qvpx,Bool.or_eq_false_iff] at hc;cases k with
  |zero=>
   obtain rfl:x=o:=by simpa using h
   have h1:=hc.1;rw[hd] at h1;simp only[beq_self_eq_true,Bool.true_and,Bool.not_eq_false',List.any_eq_true,Bool.and_eq_true,beq_iff_eq] at h1;obtain⟨e,he,hb,hj⟩:=h1;exact⟨e,he,hb,by rw[hj];rfl⟩
  |succ k=>obtain⟨e,he,hb,hj⟩:=ql91 l (j+1) hc.2 k o (by simpa using h) hd;exact⟨e,he,hb,by omega⟩
theorem q9no{ops:Array Oper}{l:List Oper}:∀(r:List Oper) (i:Nat),q24x ops l r i=true->∀(k:Nat) (o:Oper),r[k]?=some o->qxuu ops l (i+k) o=true
 |[],_,_,k,o,h=>by simp at h
 |x::r,i,hc,k,o,h=>by
  rw[q24x,Bool.and_eq_true] at hc;cases k with
  |zero=>
   obtain rfl:x=o:=by simpa using h
   exact hc.1
  |succ k=>
   have:=q9no r (i+1) hc.2 k o (by simpa using h)
   rw[show i+1+k=i+(k+1) by omega] at this;exact this
structure Ok(ops:Array Oper)(i:Nat)(o:Oper):Prop where
 sel:∀cs b,o.op ≠ .select cs b
 low:∀e∈o.after,Region.binds .any e=true->e.on<i
 dep:∀t∈o.looksAt ops,∀j oj,ops[j]?=some oj->oj.dst=some t->∃e∈o.after,Region.binds .any e=true/\e.on=j
theorem qvo9{ops:Array Oper}(h:q6yk ops=true){i:Nat}{o:Oper}(hi:ops[i]?=some o):Ok ops i o:=by
 have h1:=q9no ops.toList 0 h i o (by simpa using hi);rw[Nat.zero_add] at h1;unfold qxuu at h1;simp only[Bool.and_eq_true,List.all_eq_true,Bool.or_eq_true,Bool.not_eq_true',decide_eq_true_eq] at h1;obtain⟨⟨h1,h2⟩,h3⟩:=h1;refine⟨(fun cs b hs=>by rw[hs] at h1;cases h1),fun e he hb=>?_,fun t ht j oj hj hd=>?_⟩
 ·rcases h2 e (by simpa using he) with h|h
  ·rw[hb] at h;cases h
  ·exact h
 ·obtain⟨e,he,hb,hk⟩:=ql91 ops.toList 0 (h3 t ht) j oj (by simpa using hj) hd;exact⟨e,by simpa using he,hb,by omega⟩
section
variable{P:Program}{ops:Array Oper}{Q:Exit->Act->World->Prop}{S:World->Prop}
inductive Yields(P:Program)(S:World->Prop)(b:Act)(o:Oper)(v:Value):Prop
 |pure (h:∀w,S w->(execOp b.eval o).run P w=.ok (.value v) w)
 |call (f:FuncId) (args:Array Value) (h:∀w,(execOp b.eval o).run P w=.ok (.enter f args) w) (hc:∀w,S w->Calls P f args w fun e w'=>e=.returned v/\S w')
def Does(P:Program)(ops:Array Oper)(S:World->Prop)(b:Act)(o:Oper):Prop:=
 ∃v,(∀d,o.dst=some d->b.tmps[d]?=some v)/\((Region.wanted o (yielded ops b.tmps)=true/\Yields P S b o v)\/(Region.wanted o (yielded ops b.tmps)=false/\v=undef))
def All(p:Oper->Prop):List Oper->Prop
 |[]=>True
 |o::l=>p o/\All p l
theorem All.get{p:Oper->Prop}:∀{l:List Oper},All p l->∀{i:Nat} {o:Oper},l[i]?=some o->p o
 |[],_,_,_,h=>by simp at h
 |x::l,h,0,o,hi=>by
  obtain rfl:x=o:=by simpa using hi
  exact h.1
 |x::l,h,i+1,o,hi=>All.get h.2 (by simpa using hi)
structure Inv(ops:Array Oper)(b:Act)(listed:Array Bool)(a:Act):Prop where
 defers:a.defers=b.defers
 size:a.tmps.size=b.tmps.size
 same:∀d,(∀j oj,ops[j]?=some oj->listed.getD j true=false->oj.dst≠some d)->a.tmps[d]?=b.tmps[d]?
theorem Inv.put{b a:Act}{listed:Array Bool}{i:Nat}{o:Oper}{v:Value}(h:Inv ops b listed a)(hi:ops[i]?=some o)(hv:∀d,o.dst=some d->b.tmps[d]?=some v) :
 Inv ops b (listed.setIfInBounds i true) (a.put o.dst v):=by
 have hl:∀j,j≠i->(listed.setIfInBounds i true).getD j true=listed.getD j true:=fun j hj=>getD_set_ne true (Ne.symm hj);cases hd:o.dst with
 |none=>
  refine⟨h.defers,h.size,fun d hu=>h.same d fun j oj hj hun=>?_⟩;by_cases hji:j=i
  ·subst hji;rw[hi] at hj;obtain rfl:=Option.some.inj hj;rw[hd];simp
  ·exact hu j oj hj (by rw[hl j hji];exact hun)
 |some x=>
  refine⟨h.defers,by simp[Act.put,h.size],fun d hu=>?_⟩;by_cases hdx:x=d
  ·subst hdx;have hb:=hv x hd;have hlt:x<a.tmps.size:=by rw[h.size];exact(Array.getElem?_eq_some_iff.1 hb).1
   simp[Act.put,hb,hlt]
  ·have:(a.put (some x) v).tmps[d]?=a.tmps[d]? := by simp[Act.put,hdx]
   rw[this];refine h.same d fun j oj hj hun=>?_;by_cases hji:j=i
   ·subst hji;rw[hi] at hj;obtain rfl:=Option.some.inj hj;rw[hd];exact fun e=>hdx (Option.some.inj e)
   ·exact hu j oj hj (by rw[hl j hji];exact hun)
theorem Inv.eval{b a:Act}{listed:Array Bool}(h:Inv ops b listed a){d:Tmp}(hd:∀j oj,ops[j]?=some oj->listed.getD j true=false->oj.dst≠some d):a.eval (.tmp d)=b.eval (.tmp d):=by
 have:=h.same d hd
 simp only[Act.eval,Array.getD_eq_getD_getElem?,this]
theorem q6zd{b a:Act}{o:Oper}(h:∀t∈o.looksAt ops,a.tmps[t]?=b.tmps[t]?):Region.wanted o (yielded ops a.tmps)=Region.wanted o (yielded ops b.tmps):=by
 unfold Region.wanted;cases hg:o.guard with
 |none=>rfl
 |some g=>
  obtain⟨j,want⟩:=g
  have:yielded ops a.tmps j=yielded ops b.tmps j:=by
   unfold yielded;cases hd:(ops[j]?).bind (·.dst) with
   |none=>rfl
   |some d=>
    have:=h d (by unfold Oper.looksAt;rw[hg];exact List.mem_append_right _ (by simp[hd]))
    simp only[Option.bind_some,this]
  simp only[this]
def left(ops:Array Oper)(listed:Array Bool):Nat:=((List.range ops.size).filter fun i=>!listed.getD i true).length
theorem qxlt{listed:Array Bool}{i:Nat}(hi:i<ops.size)(hu:listed.getD i true=false):left ops (listed.setIfInBounds i true)<left ops listed:=by
 unfold left;have hlt:i<listed.size:=by
  rcases Nat.lt_or_ge i listed.size with h|h
  ·exact h
  ·rw[Array.getD_eq_getD_getElem?,Array.getElem?_eq_none h] at hu;cases hu
 have e:((List.range ops.size).filter fun j=>!(listed.setIfInBounds i true).getD j true)=((List.range ops.size).filter fun j=>!listed.getD j true).filter fun j=>!(listed.setIfInBounds i true).getD j true:=by
  rw[List.filter_filter];refine List.filter_congr fun j _=>?_;by_cases hj:j=i
  ·subst hj;simp[Array.getD_eq_getD_getElem?,hlt]
  ·rw[getD_set_ne true (Ne.symm hj)];simp
 rw[e];refine List.length_filter_lt_length_iff_exists.2 ⟨i,List.mem_filter.2 ⟨List.mem_range.2 hi,by simp only[hu];rfl⟩,?_⟩;simp[Array.getD_eq_getD_getElem?,hlt]
theorem qstk{listed:Array Bool}(hok:q6yk ops=true)(h:Region.ready .any ops listed=[]):∀j oj,ops[j]?=some oj->listed.getD j true=true:=by
 intro j
 induction j using Nat.strongRecOn with
 |_ j ih=>
  intro oj hj;cases hl:listed.getD j true with
  |true=>rfl
  |false=>
   have hm:j∈Region.ready .any ops listed:=mem_ready.2 ⟨hl,oj,hj,fun e he hb=>by
    have hlt:=(qvo9 hok hj).low e he hb;have hjs:=(Array.getElem?_eq_some_iff.1 hj).1;have h1:=ih e.on hlt ops[e.on] (Array.getElem?_eq_getElem (by omega));have hes:j<listed.size:=by
     rcases Nat.lt_or_ge j listed.size with h|h
     ·exact h
     ·rw[Array.getD_eq_getD_getElem?,Array.getElem?_eq_none h] at hl;cases hl
    rw[Array.getD_eq_getD_getElem?] at h1 ⊢;rw[Array.getElem?_eq_getElem (show e.on<listed.size by omega)] at h1 ⊢;exact h1⟩
   rw[h] at hm;cases hm
theorem step{b a:Act}{o:Oper}{w:World}{v:Value}{K:Act->World->Prop}(he:execOp a.eval o=execOp b.eval o)(hy:Yields P S b o v)(hS:S w)(hK:∀w',S w'->K (a.put o.dst v) w'):o.wp P a w K Q:=by
 unfold Oper.wp;rw[he];cases hy with
 |pure h=>rw[h w hS];exact hK w hS
 |call f args h hc=>rw[h w];exact(hc w hS).mono fun e w' ⟨h1,h2⟩=>by subst h1;exact hK w' h2
theorem any{b:Act}(hok:q6yk ops=true)(hall:All (Does P ops S b) ops.toList)(fin:∀w,S w->Q .normal b w) :
 ∀(fuel:Nat) (listed:Array Bool) (a:Act) (w:World),left ops listed<=fuel->Inv ops b listed a->S w->wpAny P .any ops Q fuel listed a w:=by
 have done:∀(listed:Array Bool) (a:Act) (w:World),Region.ready .any ops listed=[]->Inv ops b listed a->S w->Q .normal a w:=fun listed a w hr hI hS=>by
  have hn:=qstk hok hr
  have:a=b:=by
   obtain⟨at',ad⟩:=a;obtain⟨bt,bd⟩:=b;have h1:=hI.defers;have h2:at'=bt:=Array.ext_getElem? fun d=>hI.same d fun j oj hj hun=>by rw[hn j oj hj] at hun;cases hun
   simp only at h1;rw[h1,h2]
  rw[this];exact fin w hS
 intro fuel
 induction fuel with
 |zero=>
  intro listed a w hle hI hS;have hr:Region.ready .any ops listed=[]:=by
   rw[List.eq_nil_iff_forall_not_mem];intro j hj;obtain⟨hu,o,ho,_⟩:=mem_ready.1 hj
   have:=qxlt (ops:=ops) (Array.getElem?_eq_some_iff.1 ho).1 hu
   omega
  exact⟨hr,done listed a w hr hI hS⟩
 |succ fuel ih=>
  intro listed a w hle hI hS;refine⟨fun hr=>done listed a w hr hI hS,fun i hi=>?_⟩;obtain⟨hu,o,ho,haf⟩:=mem_ready.1 hi;have hO:=qvo9 hok ho;have hnot:∀t∈o.looksAt ops,∀j oj,ops[j]?=some oj->listed.getD j true=false->oj.dst≠some t:=fun t ht j oj hj hun hd=>by
   obtain⟨e,he,hb,rfl⟩:=hO.dep t ht j oj hj hd
   have:=haf e he hb
   rw[Array.getD_eq_getD_getElem?] at this hun;cases hx:listed[e.on]? with
   |none=>rw[hx] at hun;cases hun
   |some y=>rw[hx] at hun this;simp only[Option.getD_some] at hun this;rw[hun] at this;cases this
  have hw:=q6zd (ops:=ops) (a:=a) (b:=b) (o:=o) fun t ht=>hI.same t (hnot t ht);have hx:execOp a.eval o=execOp b.eval o:=execOp_congr o hO.sel fun x hx=>by
   cases x with
   |tmp t=>exact hI.eval (hnot t (List.mem_append_left _ (List.mem_filterMap.2 ⟨.tmp t,by simpa using hx,rfl⟩)))
   |_=>rfl
  have hlt:=qxlt (ops:=ops) (Array.getElem?_eq_some_iff.1 ho).1 hu;obtain⟨v,hv,hd⟩:=hall.get (i:=i) (o:=o) (by simpa using ho);unfold wpOp;simp only[ho,hw];rcases hd with ⟨h1,h2⟩|⟨h1,h2⟩
  ·rw[if_pos h1];exact .inl (step hx h2 hS fun w' hS'=>ih _ _ _ (by omega) (hI.put ho hv) hS')
  ·rw[if_neg (by rw[h1];simp),<-h2];exact ih _ _ _ (by omega) (hI.put ho hv) hS
def Off(ds:List Tmp):Nat->List Value->List Value->Prop
 |_,[],[]=>True
 |k,x::l,y::m=>(ds.contains k=true\/x=y)/\Off ds (k+1) l m
 |_,_,_=>False
theorem Off.spec{ds:List Tmp}:∀{k:Nat} {l m:List Value},Off ds k l m->l.length=m.length/\∀d,ds.contains (k+d)=false->l[d]?=m[d]?
 |_,[],[],_=>⟨rfl,fun _ _=>rfl⟩
 |k,x::l,y::m,h=>by
  have:=Off.spec h.2
  refine⟨by simp[this.1],fun d hd=>?_⟩;cases d with
  |zero=>
   rcases h.1 with h1|h1
   ·rw[Nat.add_zero] at hd;rw[hd] at h1;cases h1
   ·simp[h1]
  |succ d=>
   have:=this.2 d (by rw[show k+1+d=k+(d+1) by omega];exact hd)
   simpa using this
 |_,[],_::_,h=>h.elim
 |_,_::_,[],h=>h.elim
theorem wp{id:Nat}{A B:List Value}{D:List Deferred}{w:World}(hm:P.follows .mixedOrders=true)(hok:q6yk ops=true)(hoff:Off (ops.toList.filterMap (·.dst)) 0 A B)(hS:S w.drew)
 (hall:All (Does P ops S ⟨B.toArray,D⟩) ops.toList) (fin:∀w,S w->Q .normal ⟨B.toArray,D⟩ w):(Code.region id ops true).wp P Q ⟨A.toArray,D⟩ w:=by
 refine wp_region_any hm (any hok hall fin ops.size _ _ _ ?_ ?_ hS)
 ·unfold left;exact Nat.le_trans (List.length_filter_le _ _) (by simp)
 ·refine⟨rfl,by simpa using hoff.spec.1,fun d hd=>?_⟩
  have:=hoff.spec.2 d (by
   rw[Nat.zero_add];rw[Bool.eq_false_iff];intro hc;rw[List.contains_iff_mem,List.mem_filterMap] at hc;obtain⟨o,ho,hod⟩:=hc;obtain⟨j,hj⟩:=List.mem_iff_getElem?.1 ho;have hjs:j<ops.size:=by
    have:=(List.getElem?_eq_some_iff.1 hj).1
    simpa using this
   exact hd j o (by simpa using hj) (by simp[Array.getD_eq_getD_getElem?,hjs]) hod)
  simpa using this
theorem wp_in{id:Nat}{ds:List Tmp}{A B:List Value}{D:List Deferred}{w:World}(hm:P.follows .mixedOrders=true)(hok:q6yk ops=true)(hds:ops.toList.filterMap (·.dst)=ds)(hoff:Off ds 0 A B)(hS:S w.drew)
 (hall:All (Does P ops S ⟨B.toArray,D⟩) ops.toList) (fin:∀w,S w->Q .normal ⟨B.toArray,D⟩ w):(Code.region id ops true).wp P Q ⟨A.toArray,D⟩ w:=
 wp hm hok (by rw[hds];exact hoff) hS hall fin
theorem All.step{p:Oper->Prop}{l r:List Oper}{o:Oper}(h:l=o::r)(h1:p o)(h2:All p r):All p l:=by rw[h];exact⟨h1,h2⟩
theorem All.fin{p:Oper->Prop}{l:List Oper}(h:l=[]):All p l:=by rw[h];trivial
variable{B:List Value}{D:List Deferred}{o:Oper}{d:Tmp}{v:Value}
theorem Does.pure(hd:o.dst=some d)(hb:B[d]?=some v)(hw:Region.wanted o (yielded ops B.toArray)=true)(h:∀w,S w->(execOp (Act.eval ⟨B.toArray,D⟩) o).run P w=.ok (.value v) w):Does P ops S ⟨B.toArray,D⟩ o:=
 ⟨v,fun x hx=>by rw[hd] at hx;obtain rfl:=Option.some.inj hx;simpa using hb,.inl ⟨hw,.pure h⟩⟩
theorem Does.skip(hd:o.dst=some d)(hb:B[d]?=some undef)(hw:Region.wanted o (yielded ops B.toArray)=false):Does P ops S ⟨B.toArray,D⟩ o:=
 ⟨undef,fun x hx=>by rw[hd] at hx;obtain rfl:=Option.some.inj hx;simpa using hb,.inr ⟨hw,rfl⟩⟩
theorem Does.call{f:FuncId}{args:Array Value}(hd:o.dst=some d)(hb:B[d]?=some v)(hw:Region.wanted o (yielded ops B.toArray)=true)
 (h:∀w,(execOp (Act.eval ⟨B.toArray,D⟩) o).run P w=.ok (.enter f args) w) (hc:∀w,S w->Calls P f args w fun e w'=>e=.returned v/\S w'):Does P ops S ⟨B.toArray,D⟩ o:=
 ⟨v,fun x hx=>by rw[hd] at hx;obtain rfl:=Option.some.inj hx;simpa using hb,.inl ⟨hw,.call f args h hc⟩⟩
variable{l r:List Oper}
theorem pu(e:l=o::r)(hd:o.dst=some d)(hb:B[d]?=some v)(hw:Region.wanted o (yielded ops B.toArray)=true)(h:∀w,S w->(execOp (Act.eval ⟨B.toArray,D⟩) o).run P w=.ok (.value v) w)(n:All (Does P ops S ⟨B.toArray,D⟩) r):All (Does P ops S ⟨B.toArray,D⟩) l := .step e (.pure hd hb hw h) n
theorem sk(e:l=o::r)(hd:o.dst=some d)(hb:B[d]?=some undef)(hw:Region.wanted o (yielded ops B.toArray)=false)(n:All (Does P ops S ⟨B.toArray,D⟩) r):All (Does P ops S ⟨B.toArray,D⟩) l := .step e (.skip hd hb hw) n
theorem ca{f:FuncId}{args:Array Value}(e:l=o::r)(hd:o.dst=some d)(hb:B[d]?=some v)(hw:Region.wanted o (yielded ops B.toArray)=true)
 (h:∀w,(execOp (Act.eval ⟨B.toArray,D⟩) o).run P w=.ok (.enter f args) w) (hc:∀w,S w->Calls P f args w fun e w'=>e=.returned v/\S w') (n:All (Does P ops S ⟨B.toArray,D⟩) r):All (Does P ops S ⟨B.toArray,D⟩) l := .step e (.call hd hb hw h hc) n
end
end qfhu
namespace q2y4
open qfhu (qvpx ql91 Inv q6zd left qxlt Off)
def qzfk(t:Tmp)(i:Nat):List Oper->Bool
 |[]=>true
 |o::l=>(!(o.dst==some t) || o.after.toList.any fun e=>Region.binds .any e&&e.on==i)&&qzfk t i l
def qxuu(war:List (Nat×Tmp))(ops:Array Oper)(l:List Oper)(i:Nat)(o:Oper):Bool:=
 (match o.op with|.select .. => false|_=>true)&&o.after.toList.all (fun e=>!Region.binds .any e || decide (e.on<i))&&(o.looksAt ops).all (fun t=>if war.contains (i,t) then qzfk t i l else !qvpx t o.after.toList l 0)
def q24x(war:List (Nat×Tmp))(ops:Array Oper)(l:List Oper):List Oper->Nat->Bool
 |[],_=>true
 |o::r,i=>qxuu war ops l i o&&q24x war ops l r (i+1)
def q6yk(war:List (Nat×Tmp))(ops:Array Oper):Bool:=q24x war ops ops.toList ops.toList 0
theorem qvg7{t:Tmp}{i:Nat}:∀(l:List Oper),qzfk t i l=true->∀(k:Nat) (o:Oper),l[k]?=some o->o.dst=some t->∃e∈o.after,Region.binds .any e=true/\e.on=i
 |[],_,k,o,h,_=>by simp at h
 |x::l,hc,k,o,h,hd=>by
  rw[qzfk,Bool.and_eq_true] at hc;cases k with
  |zero=>
   obtain rfl:x=o:=by simpa using h
   have h1:=hc.1;rw[hd] at h1;simp only[beq_self_eq_true,Bool.not_true,Bool.false_or,List.any_eq_true,Bool.and_eq_true,beq_iff_eq] at h1;obtain⟨e,he,hb,hj⟩:=h1;exact⟨e,by simpa using he,hb,hj⟩
  |succ k=>exact qvg7 l hc.2 k o (by simpa using h) hd
theorem q9no{war:List (Nat×Tmp)}{ops:Array Oper}{l:List Oper}:∀(r:List Oper) (i:Nat),q24x war ops l r i=true->∀(k:Nat) (o:Oper),r[k]?=some o->qxuu war ops l (i+k) o=true
 |[],_,_,k,o,h=>by simp at h
 |x::r,i,hc,k,o,h=>by
  rw[q24x,Bool.and_eq_true] at hc;cases k with
  |zero=>
   obtain rfl:x=o:=by simpa using h
   exact hc.1
  |succ k=>
   have:=q9no r (i+1) hc.2 k o (by simpa using h)
   rw[show i+1+k=i+(k+1) by omega] at this;exact this
structure Ok(war:List (Nat×Tmp))(ops:Array Oper)(i:Nat)(o:Oper):Prop where
 sel:∀cs b,o.op ≠ .select cs b
 low:∀e∈o.after,Region.binds .any e=true->e.on<i
 dep:∀t∈o.looksAt ops,war.contains (i,t)=false->∀(j:Nat) (oj:Oper),ops[j]?=some oj->oj.dst=some t->∃e∈o.after,Region.binds .any e=true/\e.on=j
 wr:∀t∈o.looksAt ops,war.contains (i,t)=true->∀(j:Nat) (oj:Oper),ops[j]?=some oj->oj.dst=some t->∃e∈oj.after,Region.binds .any e=true/\e.on=i
theorem qvo9{war:List (Nat×Tmp)}{ops:Array Oper}(h:q6yk war ops=true){i:Nat}{o:Oper}(hi:ops[i]?=some o):Ok war ops i o:=by
 have h1:=q9no ops.toList 0 h i o (by simpa using hi);rw[Nat.zero_add] at h1;unfold qxuu at h1;simp only[Bool.and_eq_true,List.all_eq_true,Bool.or_eq_true,Bool.not_eq_true',decide_eq_true_eq] at h1;obtain⟨⟨h1,h2⟩,h3⟩:=h1;refine⟨(fun cs b hs=>by rw[hs] at h1;cases h1),fun e he hb=>?_,fun t ht hw j oj hj hd=>?_,fun t ht hw j oj hj hd=>?_⟩
 ·rcases h2 e (by simpa using he) with h|h
  ·rw[hb] at h;cases h
  ·exact h
 ·have h4:=h3 t ht;rw[hw,if_neg (by simp)] at h4;obtain⟨e,he,hb,hk⟩:=ql91 ops.toList 0 (by simpa using h4) j oj (by simpa using hj) hd;exact⟨e,by simpa using he,hb,by omega⟩
 ·have h4:=h3 t ht;rw[hw,if_pos rfl] at h4;exact qvg7 ops.toList h4 j oj (by simpa using hj) hd
theorem qstk{war:List (Nat×Tmp)}{ops:Array Oper}{listed:Array Bool}(hok:q6yk war ops=true)(h:Region.ready .any ops listed=[]):∀j oj,ops[j]?=some oj->listed.getD j true=true:=by
 intro j
 induction j using Nat.strongRecOn with
 |_ j ih=>
  intro oj hj;cases hl:listed.getD j true with
  |true=>rfl
  |false=>
   have hm:j∈Region.ready .any ops listed:=mem_ready.2 ⟨hl,oj,hj,fun e he hb=>by
    have hlt:=(qvo9 hok hj).low e he hb;have hjs:=(Array.getElem?_eq_some_iff.1 hj).1;have h1:=ih e.on hlt ops[e.on] (Array.getElem?_eq_getElem (by omega));have hes:j<listed.size:=by
     rcases Nat.lt_or_ge j listed.size with h|h
     ·exact h
     ·rw[Array.getD_eq_getD_getElem?,Array.getElem?_eq_none h] at hl;cases hl
    rw[Array.getD_eq_getD_getElem?] at h1 ⊢;rw[Array.getElem?_eq_getElem (show e.on<listed.size by omega)] at h1 ⊢;exact h1⟩
   rw[h] at hm;cases hm
def fr(war:List (Nat×Tmp))(j:Nat)(A B:List Value):List Value:=war.foldr (fun p acc=>if p.1==j then acc.set p.2 (A.getD p.2 undef) else acc) B
theorem q2w6{j:Nat}{A B:List Value}:∀{war:List (Nat×Tmp)},(fr war j A B).length=B.length
 |[]=>rfl
 |p::war=>by
  have:=q2w6 (j:=j) (A:=A) (B:=B) (war:=war)
  unfold fr at this ⊢;rw[List.foldr_cons];split
  ·rw[List.length_set];exact this
  ·exact this
theorem q0ig{j:Nat}{A B:List Value}{t:Tmp}:∀{war:List (Nat×Tmp)},war.contains (j,t)=false->(fr war j A B)[t]?=B[t]?
 |[],_=>rfl
 |p::war,h=>by
  rw[List.contains_cons,Bool.or_eq_false_iff] at h
  have:=q0ig (j:=j) (A:=A) (B:=B) h.2
  unfold fr at this ⊢;rw[List.foldr_cons];split
  ·rename_i hp;rw[beq_iff_eq] at hp;have hne:p.2≠t:=fun e=>by have h1:=h.1;rw[<-hp,<-e] at h1;simp at h1
   rw[List.getElem?_set_ne hne];exact this
  ·exact this
theorem q0v8{j:Nat}{A B:List Value}{t:Tmp}(hl:A.length=B.length):∀{war:List (Nat×Tmp)},war.contains (j,t)=true->(fr war j A B)[t]?=A[t]?
 |[],h=>by simp at h
 |p::war,h=>by
  have hlen:=q2w6 (j:=j) (A:=A) (B:=B) (war:=war);by_cases hp:p=(j,t)
  ·subst hp;unfold fr at hlen ⊢;rw[List.foldr_cons,if_pos (by simp),List.getElem?_set_self',];rcases Nat.lt_or_ge t A.length with h1|h1
   ·rw[List.getElem?_eq_getElem h1,List.getElem?_eq_getElem (by omega)];simp[List.getD_eq_getElem?_getD,h1]
   ·rw[List.getElem?_eq_none h1,List.getElem?_eq_none (by omega)];rfl
  ·have hc:war.contains (j,t)=true:=by
    rw[List.contains_cons,Bool.or_eq_true] at h;rcases h with h|h
    ·rw[beq_iff_eq] at h;exact absurd h.symm hp
    ·exact h
   have:=q0v8 (j:=j) hl hc
   unfold fr at this ⊢;rw[List.foldr_cons];split
   ·rename_i hpj;rw[beq_iff_eq] at hpj;have hne:p.2≠t:=fun e=>hp (by rw[<-hpj,<-e]);rw[List.getElem?_set_ne hne];exact this
   ·exact this
def qtkn(m:Nat):List Oper->Nat->List Nat->List Nat
 |[],_,acc=>acc
 |o::r,j,acc=>qtkn m r (j+1) (if j==m || o.after.toList.any (fun e=>Region.binds .any e&&acc.contains e.on) then j::acc else acc)
def qk87(ops:Array Oper)(m:Nat):List Nat:=qtkn m ops.toList 0 []
def qdy9(ops:Array Oper)(m:Nat)(late:List Tmp):Bool:=
 let b:=qk87 ops m
 late.all fun t=>b.any fun k=>((ops[k]?).bind (·.dst))==some t
def qqah(ops:Array Oper)(L:Nat->Prop):Prop:=∀k o,ops[k]?=some o->L k->∀e∈o.after,Region.binds .any e=true->L e.on
theorem qnyo{ops:Array Oper}{L:Nat->Prop}(hL:qqah ops L)(m:Nat):∀(r:List Oper) (j:Nat) (acc:List Nat),(∀i,r[i]?=ops[j+i]?)->(∀k∈acc,L k->L m)->∀k∈qtkn m r j acc,L k->L m
 |[],_,acc,_,h,k,hk,hl=>h k hk hl
 |o::r,j,acc,hr,h,k,hk,hl=>by
  refine qnyo hL m r (j+1) _ (fun i=>by have:=hr (i+1);rw[show j+1+i=j+(i+1) by omega];simpa using this) ?_ k hk hl;intro k hk hl;split at hk
  ·rename_i hc;rcases List.mem_cons.1 hk with rfl|hk
   ·rw[Bool.or_eq_true] at hc;rcases hc with hc|hc
    ·rw[beq_iff_eq] at hc;rw[<-hc];exact hl
    ·simp only[List.any_eq_true,Bool.and_eq_true,List.contains_iff_mem] at hc;obtain⟨e,he,hb,ha⟩:=hc;have ho:ops[k]?=some o:=by have:=hr 0;simpa using this.symm
     exact h _ ha (hL k o ho hl e (by simpa using he) hb)
   ·exact h k hk hl
  ·exact h k hk hl
theorem qhsk{ops:Array Oper}{L:Nat->Prop}(hL:qqah ops L){m k:Nat}(hk:k∈qk87 ops m)(hl:L k):L m:=
 qnyo hL m ops.toList 0 [] (fun i=>by simp) (fun k h=>by cases h) k hk hl
section
variable{P:Program}{ops:Array Oper}{Q:Exit->Act->World->Prop}{X:Type}{S:X->World->Prop}{war:List (Nat×Tmp)}{A:List Value}{B:X->List Value}{D:List Deferred}{made:Nat->X->Prop}
def qeie(ops:Array Oper)(S:X->World->Prop)(B:X->List Value)(made:Nat->X->Prop)(j:Nat)(o:Oper)(x:X)(v:Value)(x':X)(w':World):Prop:=
 (∀d,o.dst=some d->(B x')[d]?=some v)/\S x' w'/\made j x'/\(∀i,made i x->made i x')/\∃late,qdy9 ops j late=true/\Off late 0 (B x) (B x')
inductive Yields(P:Program)(ops:Array Oper)(S:X->World->Prop)(war:List (Nat×Tmp))(A:List Value)(B:X->List Value)(D:List Deferred)(made:Nat->X->Prop)(j:Nat)(o:Oper)(x:X)(w:World):Prop
 |value (v:Value) (x':X) (w':World) (h:(execOp (Act.eval ⟨(fr war j A (B x)).toArray,D⟩) o).run P w=.ok (.value v) w') (hm:qeie ops S B made j o x v x' w')
 |skip (x':X) (w':World) (h:(execOp (Act.eval ⟨(fr war j A (B x)).toArray,D⟩) o).run P w=.ok .skip w') (hm:qeie ops S B made j o x undef x' w')
 |call (f:FuncId) (args:Array Value) (h:(execOp (Act.eval ⟨(fr war j A (B x)).toArray,D⟩) o).run P w=.ok (.enter f args) w) (hc:Calls P f args w fun e w'=>∃v x',e=.returned v/\qeie ops S B made j o x v x' w')
def Does(P:Program)(ops:Array Oper)(S:X->World->Prop)(war:List (Nat×Tmp))(A:List Value)(B:X->List Value)(D:List Deferred)(made:Nat->X->Prop)(j:Nat)(o:Oper):Prop:=
 ∀x w,(∀m,(qk87 ops m).contains j=true->m≠j->made m x)->S x w->
  (Region.wanted o (yielded ops (fr war j A (B x)).toArray)=true/\Yields P ops S war A B D made j o x w)\/(Region.wanted o (yielded ops (fr war j A (B x)).toArray)=false/\qeie ops S B made j o x undef x w)
def All(p:Nat->Oper->Prop):List Oper->Nat->Prop
 |[],_=>True
 |o::l,j=>p j o/\All p l (j+1)
theorem All.get{p:Nat->Oper->Prop}:∀{l:List Oper} {j:Nat},All p l j->∀{i:Nat} {o:Oper},l[i]?=some o->p (j+i) o
 |[],_,_,_,_,h=>by simp at h
 |x::l,j,h,0,o,hi=>by
  obtain rfl:x=o:=by simpa using hi
  exact h.1
 |x::l,j,h,i+1,o,hi=>by
  have:=All.get h.2 (i:=i) (o:=o) (by simpa using hi)
  rw[show j+1+i=j+(i+1) by omega] at this;exact this
structure Stands(ops:Array Oper)(S:X->World->Prop)(A:List Value)(B:X->List Value)(D:List Deferred)(made:Nat->X->Prop)(listed:Array Bool)(a:Act)(w:World)(x:X):Prop where
 init:∀t,(∀j oj,ops[j]?=some oj->listed.getD j false=true->oj.dst≠some t)->a.tmps[t]?=A[t]?
 inv:Inv ops ⟨(B x).toArray,D⟩ listed a
 keep:S x w
 made:∀i,listed.getD i false=true->made i x
 closed:qqah ops fun i=>listed.getD i false=true
 size:listed.size=ops.size
theorem qpma{listed:Array Bool}{i:Nat}(h:i<listed.size):listed.getD i true=listed.getD i false:=by rw[Array.getD_eq_getD_getElem?,Array.getD_eq_getD_getElem?,Array.getElem?_eq_getElem h];rfl
theorem qxtj{listed:Array Bool}{i j:Nat}(h:(listed.setIfInBounds j true).getD i false=true):i=j\/listed.getD i false=true:=by
 by_cases hij:i=j
 ·exact .inl hij
 ·rw[getD_set_ne false (Ne.symm hij)] at h;exact .inr h
theorem Stands.put{listed:Array Bool}{a:Act}{w w':World}{x x':X}{j:Nat}{o:Oper}{v:Value}(h:Stands ops S A B D made listed a w x)(hj:j∈Region.ready .any ops listed)(ho:ops[j]?=some o)(hm:qeie ops S B made j o x v x' w') :
 Stands ops S A B D made (listed.setIfInBounds j true) (a.put o.dst v) w' x':=by
 obtain⟨hu,o',ho',haf⟩:=mem_ready.1 hj;rw[ho] at ho';obtain rfl:=Option.some.inj ho';obtain⟨hv,hS,hmj,hmore,late,hlate,hoff⟩:=hm;have hjs:j<listed.size:=by rw[h.size];exact(Array.getElem?_eq_some_iff.1 ho).1
 have huf:listed.getD j false=false:=by rw[<-qpma hjs];exact hu
 have hl:∀k,k≠j->(listed.setIfInBounds j true).getD k true=listed.getD k true:=fun k hk=>getD_set_ne true (Ne.symm hk);have hlen:=hoff.spec.1;refine⟨fun t ht=>?_,⟨by cases o.dst<;>exact h.inv.defers,?_,fun t ht=>?_⟩,hS,fun i hi=>?_,fun k ok hk hlk e he hb=>?_,by simp[h.size]⟩
 ·have hset:∀i,listed.getD i false=true->(listed.setIfInBounds j true).getD i false=true:=fun i hi=>getD_set_true hi;have hd:o.dst≠some t:=ht j o ho (by rw[Array.getD_eq_getD_getElem?,Array.getElem?_setIfInBounds_self_of_lt hjs];rfl);have e1:(a.put o.dst v).tmps[t]?=a.tmps[t]? := by
   cases hd':o.dst with
   |none=>rfl
   |some y=>rw[hd'] at hd;simp only[ne_eq,Option.some.injEq] at hd;simp[Act.put,hd]
  rw[e1];exact h.init t fun k ok hk hlk=>ht k ok hk (hset k hlk)
 ·have h1:a.tmps.size=(B x').length:=by have:=h.inv.size;simp at this;omega
  cases o.dst<;>simpa [Act.put] using h1
 ·by_cases hd:o.dst=some t
  ·have hb:=hv t hd;have hlt:t<a.tmps.size:=by
    have h3:(B x').length=a.tmps.size:=by have:=h.inv.size;simp at this;omega
    rw[<-h3];exact(List.getElem?_eq_some_iff.1 hb).1
   rw[hd];simp[Act.put,hb,hlt]
  ·have e1:(a.put o.dst v).tmps[t]?=a.tmps[t]? := by
    cases hd':o.dst with
    |none=>rfl
    |some y=>rw[hd'] at hd;simp only[Option.some.injEq] at hd;simp[Act.put,hd]
   have e2:a.tmps[t]?=(B x).toArray[t]? := h.inv.same t fun k ok hk hun=>by
    by_cases hkj:k=j
    ·subst hkj;rw[ho] at hk;obtain rfl:=Option.some.inj hk;exact hd
    ·exact ht k ok hk (by rw[hl k hkj];exact hun)
   have e3:late.contains t=false:=by
    rw[Bool.eq_false_iff];intro hc;unfold qdy9 at hlate;simp only[List.all_eq_true,List.any_eq_true,beq_iff_eq] at hlate;obtain⟨k,hk,hkt⟩:=hlate t (List.contains_iff_mem.1 hc);obtain⟨ok,hok,hdk⟩:=Option.bind_eq_some_iff.1 hkt;have hkj:k≠j:=fun e=>by subst e;rw[ho] at hok;obtain rfl:=Option.some.inj hok;exact hd hdk
    have hks:k<listed.size:=by rw[h.size];exact(Array.getElem?_eq_some_iff.1 hok).1
    refine ht k ok hok ?_ hdk;rw[hl k hkj,qpma hks];rw[Bool.eq_false_iff];intro hlk
    have:=qhsk h.closed hk hlk
    rw[huf] at this;cases this
   have e4:=hoff.spec.2 t (by rw[Nat.zero_add];exact e3);rw[e1,e2];simpa using e4
 ·rcases qxtj hi with rfl|hi
  ·exact hmj
  ·exact hmore i (h.made i hi)
 ·have hset:∀i,listed.getD i false=true->(listed.setIfInBounds j true).getD i false=true:=fun i hi=>getD_set_true hi;rcases qxtj hlk with rfl|hlk
  ·rw[ho] at hk;obtain rfl:=Option.some.inj hk;exact hset _ (haf e he hb)
  ·exact hset _ (h.closed k ok hk hlk e he hb)
theorem any(hok:q6yk war ops=true)(hlen:∀x,A.length=(B x).length)(hall:All (Does P ops S war A B D made) ops.toList 0)(fin:∀x w,(∀i,i<ops.size->made i x)->S x w->Q .normal ⟨(B x).toArray,D⟩ w) :
 ∀(fuel:Nat) (listed:Array Bool) (a:Act) (w:World) (x:X),left ops listed<=fuel->Stands ops S A B D made listed a w x->wpAny P .any ops Q fuel listed a w:=by
 have done:∀(listed:Array Bool) (a:Act) (w:World) (x:X),Region.ready .any ops listed=[]->Stands ops S A B D made listed a w x->Q .normal a w:=fun listed a w x hr h=>by
  have hn:=qstk hok hr;have hI:=h.inv
  have:a=⟨(B x).toArray,D⟩:=by
   obtain⟨at',ad⟩:=a;have h1:=hI.defers;have h2:at'=(B x).toArray:=Array.ext_getElem? fun d=>hI.same d fun j oj hj hun=>by rw[hn j oj hj] at hun;cases hun
   simp only at h1;rw[h1,h2]
  rw[this];exact fin x w (fun i hi=>h.made i (by rw[<-qpma (by rw[h.size];exact hi)];exact hn i ops[i] (Array.getElem?_eq_getElem hi))) h.keep
 intro fuel
 induction fuel with
 |zero=>
  intro listed a w x hle h;have hr:Region.ready .any ops listed=[]:=by
   rw[List.eq_nil_iff_forall_not_mem];intro j hj;obtain⟨hu,o,ho,_⟩:=mem_ready.1 hj
   have:=qxlt (ops:=ops) (Array.getElem?_eq_some_iff.1 ho).1 hu
   omega
  exact⟨hr,done listed a w x hr h⟩
 |succ fuel ih=>
  intro listed a w x hle h;refine⟨fun hr=>done listed a w x hr h,fun i hi=>?_⟩;obtain⟨hu,o,ho,haf⟩:=mem_ready.1 hi;have hO:=qvo9 hok ho;have hI:=h.inv;have hui:listed.getD i false=false:=by rw[<-qpma (by rw[h.size];exact(Array.getElem?_eq_some_iff.1 ho).1)];exact hu
  have hsame:∀t∈o.looksAt ops,a.tmps[t]?=(fr war i A (B x)).toArray[t]? := fun t ht=>by
   rw[show(fr war i A (B x)).toArray[t]?=(fr war i A (B x))[t]? by simp];cases hc:war.contains (i,t) with
   |true=>
    rw[q0v8 (hlen x) hc];refine h.init t fun k ok hk hlk hd=>?_;obtain⟨e,he,hb,hei⟩:=hO.wr t ht hc k ok hk hd
    have:=h.closed k ok hk hlk e he hb
    simp only[hei,hui] at this;cases this
   |false=>
    rw[q0ig hc]
    have:=hI.same t (fun j oj hj hun hd=>by
     obtain⟨e,he,hb,rfl⟩:=hO.dep t ht hc j oj hj hd
     have:=haf e he hb
     rw[Array.getD_eq_getD_getElem?] at this hun;cases hx:listed[e.on]? with
     |none=>rw[hx] at hun;cases hun
     |some y=>rw[hx] at hun this;simp only[Option.getD_some] at hun this;rw[hun] at this;cases this)
    simpa using this
  have hw:=q6zd (ops:=ops) (a:=a) (b:=⟨(fr war i A (B x)).toArray,D⟩) (o:=o) hsame;have hx:execOp a.eval o=execOp (Act.eval ⟨(fr war i A (B x)).toArray,D⟩) o:=execOp_congr o hO.sel fun y hy=>by
   cases y with
   |tmp t=>
    have:=hsame t (List.mem_append_left _ (List.mem_filterMap.2 ⟨.tmp t,by simpa using hy,rfl⟩))
    simp only[Act.eval,Array.getD_eq_getD_getElem?,this]
   |_=>rfl
  have hlt:=qxlt (ops:=ops) (Array.getElem?_eq_some_iff.1 ho).1 hu;have hpre:∀m,(qk87 ops m).contains i=true->m≠i->made m x:=fun m hm hne=>by
   have hc:qqah ops fun k=>listed.getD k false=true\/k=i:=fun k ok hk hlk e he hb=>by
    rcases hlk with hlk|rfl
    ·exact .inl (h.closed k ok hk hlk e he hb)
    ·rw[ho] at hk;obtain rfl:=Option.some.inj hk;exact .inl (haf e he hb)
   rcases qhsk hc (List.contains_iff_mem.1 hm) (.inr rfl) with h1|h1
   ·exact h.made m h1
   ·exact absurd h1 hne
  have hdo:=hall.get (i:=i) (o:=o) (by simpa using ho);rw[Nat.zero_add] at hdo;have hn:∀v x' w',qeie ops S B made i o x v x' w'->wpAny P .any ops Q fuel (listed.setIfInBounds i true) (a.put o.dst v) w':=fun v x' w' hm=>ih _ _ _ x' (by omega) (h.put hi ho hm)
  unfold wpOp;simp only[ho,hw];rcases hdo x w hpre h.keep with ⟨h1,h2⟩|⟨h1,h2⟩
  ·rw[if_pos h1];refine .inl ?_;unfold Oper.wp;rw[hx];cases h2 with
   |value v x' w' hr hm=>rw[hr];exact hn v x' w' hm
   |skip x' w' hr hm=>rw[hr];exact hn undef x' w' hm
   |call f args hr hc=>rw[hr];exact hc.mono fun e w' ⟨v,x',he,hm⟩=>by subst he;exact hn v x' w' hm
  ·rw[if_neg (by rw[h1];simp)];exact hn undef x w h2
theorem wp{id:Nat}{ds:List Tmp}{w:World}(x:X)(hm:P.follows .mixedOrders=true)(hok:q6yk war ops=true)(hds:ops.toList.filterMap (·.dst)=ds)(hoff:∀x,Off ds 0 A (B x))(hS:S x w.drew)
 (hall:All (Does P ops S war A B D made) ops.toList 0) (fin:∀x w,(∀i,i<ops.size->made i x)->S x w->Q .normal ⟨(B x).toArray,D⟩ w):(Code.region id ops true).wp P Q ⟨A.toArray,D⟩ w:=by
 have hnf:∀i,(Array.replicate ops.size false).getD i false=false:=fun i=>by rw[Array.getD_eq_getD_getElem?,Array.getElem?_replicate];split<;>rfl
 refine wp_region_any hm (any hok (fun x=>(hoff x).spec.1) hall fin ops.size _ _ _ x ?_ ⟨fun t _=>by simp,?_,hS,fun i hi=>?_,fun k o _ hl=>?_,by simp⟩)
 ·unfold left;exact Nat.le_trans (List.length_filter_le _ _) (by simp)
 ·refine⟨rfl,by simpa using (hoff x).spec.1,fun d hd=>?_⟩
  have:=(hoff x).spec.2 d (by
   rw[Nat.zero_add];rw[Bool.eq_false_iff];intro hc;rw[List.contains_iff_mem,<-hds,List.mem_filterMap] at hc;obtain⟨o,ho,hod⟩:=hc;obtain⟨j,hj⟩:=List.mem_iff_getElem?.1 ho;have hjs:j<ops.size:=by
    have:=(List.getElem?_eq_some_iff.1 hj).1
    simpa using this
   exact hd j o (by simpa using hj) (by simp[Array.getD_eq_getD_getElem?,hjs]) hod)
  simpa using this
 ·rw[hnf] at hi;cases hi
 ·simp only[hnf] at hl;cases hl
theorem All.step{p:Nat->Oper->Prop}{l r:List Oper}{o:Oper}{j:Nat}(h:l=o::r)(h1:p j o)(h2:All p r (j+1)):All p l j:=by rw[h];exact⟨h1,h2⟩
theorem All.fin{p:Nat->Oper->Prop}{l:List Oper}{j:Nat}(h:l=[]):All p l j:=by rw[h];trivial
variable{o:Oper}{d:Tmp}{j:Nat}
theorem off_refl:∀(k:Nat) (l:List Value),Off [] k l l
 |_,[]=>trivial
 |k,_::l=>⟨.inr rfl,off_refl (k+1) l⟩
theorem qeie.stay{x:X}{v:Value}{w:World}(hv:∀d,o.dst=some d->(B x)[d]?=some v)(hS:S x w)(hm:made j x):qeie ops S B made j o x v x w:=
 ⟨hv,hS,hm,fun _ h=>h,[],rfl,off_refl 0 _⟩
theorem Does.pure{val:X->Value}(hd:o.dst=some d)(hm:∀x,made j x)
 (h:∀x w,(∀m,(qk87 ops m).contains j=true->m≠j->made m x)->S x w->(B x)[d]?=some (val x)/\Region.wanted o (yielded ops (fr war j A (B x)).toArray)=true/\(execOp (Act.eval ⟨(fr war j A (B x)).toArray,D⟩) o).run P w=.ok (.value (val x)) w):Does P ops S war A B D made j o:=fun x w hp hS=>
 have ⟨h1,h2,h3⟩:=h x w hp hS
 .inl ⟨h2,.value _ x w h3 (qeie.stay (fun y hy=>by rw[hd] at hy;obtain rfl:=Option.some.inj hy;exact h1) hS (hm x))⟩
theorem Does.skip(hd:o.dst=some d)(hm:∀x,made j x)(h:∀x,(B x)[d]?=some undef/\Region.wanted o (yielded ops (fr war j A (B x)).toArray)=false):Does P ops S war A B D made j o:=fun x _ _ hS=>.inr ⟨(h x).2,qeie.stay (fun y hy=>by rw[hd] at hy;obtain rfl:=Option.some.inj hy;exact(h x).1) hS (hm x)⟩
theorem Does.call{val:X->Value}{f:FuncId}{args:X->Array Value}(hd:o.dst=some d)(hm:∀x,made j x)
 (h:∀x w,(∀m,(qk87 ops m).contains j=true->m≠j->made m x)->S x w->(B x)[d]?=some (val x)/\Region.wanted o (yielded ops (fr war j A (B x)).toArray)=true/\(execOp (Act.eval ⟨(fr war j A (B x)).toArray,D⟩) o).run P w=.ok (.enter f (args x)) w/\Calls P f (args x) w fun e w'=>e=.returned (val x)/\S x w'):Does P ops S war A B D made j o:=fun x w hp hS=>
 have ⟨h1,h2,h3,h4⟩:=h x w hp hS
 .inl ⟨h2,.call f _ h3 (h4.mono fun _ _ ⟨he,hk⟩=>⟨_,x,he,qeie.stay (fun y hy=>by rw[hd] at hy;obtain rfl:=Option.some.inj hy;exact h1) hk (hm x)⟩)⟩
variable{l r:List Oper}
theorem pu{val:X->Value}(e:l=o::r)(hd:o.dst=some d)(hm:∀x,made j x)
 (h:∀x w,(∀m,(qk87 ops m).contains j=true->m≠j->made m x)->S x w->(B x)[d]?=some (val x)/\Region.wanted o (yielded ops (fr war j A (B x)).toArray)=true/\(execOp (Act.eval ⟨(fr war j A (B x)).toArray,D⟩) o).run P w=.ok (.value (val x)) w) (n:All (Does P ops S war A B D made) r (j+1)):All (Does P ops S war A B D made) l j := .step e (.pure hd hm h) n
end
end q2y4
namespace qu7n
open qfhu (qvpx ql91 Inv q6zd left qxlt Off)
open q2y4 (q6yk qvo9 fr q2w6 q0ig q0v8 qk87 qhsk qqah qdy9 All All.get qpma qxtj qstk off_refl)
section
variable{P:Program}{ops:Array Oper}{Q:Exit->Act->World->Prop}{X:Type}{S:X->World->Prop}{war:List (Nat×Tmp)}{A:List Value}{B:X->List Value}{D:List Deferred}{made fresh:Nat->X->Prop}
def qeie(ops:Array Oper)(S:X->World->Prop)(B:X->List Value)(made fresh:Nat->X->Prop)(j:Nat)(o:Oper)(x:X)(v:Value)(x':X)(w':World):Prop:=
 (∀d,o.dst=some d->(B x')[d]?=some v)/\S x' w'/\made j x'/\(∀i,made i x->made i x')/\(∀i,i≠j->fresh i x->fresh i x')/\∃late,qdy9 ops j late=true/\Off late 0 (B x) (B x')
inductive Yields(P:Program)(ops:Array Oper)(S:X->World->Prop)(war:List (Nat×Tmp))(A:List Value)(B:X->List Value)(D:List Deferred)(made fresh:Nat->X->Prop)(j:Nat)(o:Oper)(x:X)(w:World):Prop
 |value (v:Value) (x':X) (w':World) (h:(execOp (Act.eval ⟨(fr war j A (B x)).toArray,D⟩) o).run P w=.ok (.value v) w') (hm:qeie ops S B made fresh j o x v x' w')
 |skip (x':X) (w':World) (h:(execOp (Act.eval ⟨(fr war j A (B x)).toArray,D⟩) o).run P w=.ok .skip w') (hm:qeie ops S B made fresh j o x undef x' w')
 |call (f:FuncId) (args:Array Value) (h:(execOp (Act.eval ⟨(fr war j A (B x)).toArray,D⟩) o).run P w=.ok (.enter f args) w) (hc:Calls P f args w fun e w'=>∃v x',e=.returned v/\qeie ops S B made fresh j o x v x' w')
def Does(P:Program)(ops:Array Oper)(S:X->World->Prop)(war:List (Nat×Tmp))(A:List Value)(B:X->List Value)(D:List Deferred)(made fresh:Nat->X->Prop)(j:Nat)(o:Oper):Prop:=
 ∀x w,(∀m,(qk87 ops m).contains j=true->m≠j->made m x)->fresh j x->S x w->
  (Region.wanted o (yielded ops (fr war j A (B x)).toArray)=true/\Yields P ops S war A B D made fresh j o x w)\/(Region.wanted o (yielded ops (fr war j A (B x)).toArray)=false/\qeie ops S B made fresh j o x undef x w)
structure Stands(ops:Array Oper)(S:X->World->Prop)(A:List Value)(B:X->List Value)(D:List Deferred)(made fresh:Nat->X->Prop)(listed:Array Bool)(a:Act)(w:World)(x:X):Prop where
 init:∀t,(∀j oj,ops[j]?=some oj->listed.getD j false=true->oj.dst≠some t)->a.tmps[t]?=A[t]?
 inv:Inv ops ⟨(B x).toArray,D⟩ listed a
 keep:S x w
 made:∀i,listed.getD i false=true->made i x
 closed:qqah ops fun i=>listed.getD i false=true
 size:listed.size=ops.size
 fresh:∀i,i<ops.size->listed.getD i false=false->fresh i x
theorem Stands.put{listed:Array Bool}{a:Act}{w w':World}{x x':X}{j:Nat}{o:Oper}{v:Value}(h:Stands ops S A B D made fresh listed a w x)(hj:j∈Region.ready .any ops listed)(ho:ops[j]?=some o)(hm:qeie ops S B made fresh j o x v x' w') :
 Stands ops S A B D made fresh (listed.setIfInBounds j true) (a.put o.dst v) w' x':=by
 obtain⟨hu,o',ho',haf⟩:=mem_ready.1 hj;rw[ho] at ho';obtain rfl:=Option.some.inj ho';obtain⟨hv,hS,hmj,hmore,hfr,late,hlate,hoff⟩:=hm;have hjs:j<listed.size:=by rw[h.size];exact(Array.getElem?_eq_some_iff.1 ho).1
 have huf:listed.getD j false=false:=by rw[<-qpma hjs];exact hu
 have hl:∀k,k≠j->(listed.setIfInBounds j true).getD k true=listed.getD k true:=fun k hk=>getD_set_ne true (Ne.symm hk);have hlen:=hoff.spec.1;refine⟨fun t ht=>?_,⟨by cases o.dst<;>exact h.inv.defers,?_,fun t ht=>?_⟩,hS,fun i hi=>?_,fun k ok hk hlk e he hb=>?_,by simp[h.size],fun i hi hl=>?_⟩
 ·have hset:∀i,listed.getD i false=true->(listed.setIfInBounds j true).getD i false=true:=fun i hi=>getD_set_true hi;have hd:o.dst≠some t:=ht j o ho (by rw[Array.getD_eq_getD_getElem?,Array.getElem?_setIfInBounds_self_of_lt hjs];rfl);have e1:(a.put o.dst v).tmps[t]?=a.tmps[t]? := by
   cases hd':o.dst with
   |none=>rfl
   |some y=>rw[hd'] at hd;simp only[ne_eq,Option.some.injEq] at hd;simp[Act.put,hd]
  rw[e1];exact h.init t fun k ok hk hlk=>ht k ok hk (hset k hlk)
 ·have h1:a.tmps.size=(B x').length:=by have:=h.inv.size;simp at this;omega
  cases o.dst<;>simpa [Act.put] using h1
 ·by_cases hd:o.dst=some t
  ·have hb:=hv t hd;have hlt:t<a.tmps.size:=by
    have h3:(B x').length=a.tmps.size:=by have:=h.inv.size;simp at this;omega
    rw[<-h3];exact(List.getElem?_eq_some_iff.1 hb).1
   rw[hd];simp[Act.put,hb,hlt]
  ·have e1:(a.put o.dst v).tmps[t]?=a.tmps[t]? := by
    cases hd':o.dst with
    |none=>rfl
    |some y=>rw[hd'] at hd;simp only[Option.some.injEq] at hd;simp[Act.put,hd]
   have e2:a.tmps[t]?=(B x).toArray[t]? := h.inv.same t fun k ok hk hun=>by
    by_cases hkj:k=j
    ·subst hkj;rw[ho] at hk;obtain rfl:=Option.some.inj hk;exact hd
    ·exact ht k ok hk (by rw[hl k hkj];exact hun)
   have e3:late.contains t=false:=by
    rw[Bool.eq_false_iff];intro hc;unfold qdy9 at hlate;simp only[List.all_eq_true,List.any_eq_true,beq_iff_eq] at hlate;obtain⟨k,hk,hkt⟩:=hlate t (List.contains_iff_mem.1 hc);obtain⟨ok,hok,hdk⟩:=Option.bind_eq_some_iff.1 hkt;have hkj:k≠j:=fun e=>by subst e;rw[ho] at hok;obtain rfl:=Option.some.inj hok;exact hd hdk
    have hks:k<listed.size:=by rw[h.size];exact(Array.getElem?_eq_some_iff.1 hok).1
    refine ht k ok hok ?_ hdk;rw[hl k hkj,qpma hks];rw[Bool.eq_false_iff];intro hlk
    have:=qhsk h.closed hk hlk
    rw[huf] at this;cases this
   have e4:=hoff.spec.2 t (by rw[Nat.zero_add];exact e3);rw[e1,e2];simpa using e4
 ·rcases qxtj hi with rfl|hi
  ·exact hmj
  ·exact hmore i (h.made i hi)
 ·have hset:∀i,listed.getD i false=true->(listed.setIfInBounds j true).getD i false=true:=fun i hi=>getD_set_true hi;rcases qxtj hlk with rfl|hlk
  ·rw[ho] at hk;obtain rfl:=Option.some.inj hk;exact hset _ (haf e he hb)
  ·exact hset _ (h.closed k ok hk hlk e he hb)
 ·have hij:i≠j:=fun e=>by subst e;rw[Array.getD_eq_getD_getElem?,Array.getElem?_setIfInBounds_self_of_lt hjs] at hl;cases hl
  rw[getD_set_ne false (Ne.symm hij)] at hl;exact hfr i hij (h.fresh i hi hl)
theorem any(hok:q6yk war ops=true)(hlen:∀x,A.length=(B x).length)(hall:All (Does P ops S war A B D made fresh) ops.toList 0)(fin:∀x w,(∀i,i<ops.size->made i x)->S x w->Q .normal ⟨(B x).toArray,D⟩ w) :
 ∀(fuel:Nat) (listed:Array Bool) (a:Act) (w:World) (x:X),left ops listed<=fuel->Stands ops S A B D made fresh listed a w x->wpAny P .any ops Q fuel listed a w:=by
 have done:∀(listed:Array Bool) (a:Act) (w:World) (x:X),Region.ready .any ops listed=[]->Stands ops S A B D made fresh listed a w x->Q .normal a w:=fun listed a w x hr h=>by
  have hn:=qstk hok hr;have hI:=h.inv
  have:a=⟨(B x).toArray,D⟩:=by
   obtain⟨at',ad⟩:=a;have h1:=hI.defers;have h2:at'=(B x).toArray:=Array.ext_getElem? fun d=>hI.same d fun j oj hj hun=>by rw[hn j oj hj] at hun;cases hun
   simp only at h1;rw[h1,h2]
  rw[this];exact fin x w (fun i hi=>h.made i (by rw[<-qpma (by rw[h.size];exact hi)];exact hn i ops[i] (Array.getElem?_eq_getElem hi))) h.keep
 intro fuel
 induction fuel with
 |zero=>
  intro listed a w x hle h;have hr:Region.ready .any ops listed=[]:=by
   rw[List.eq_nil_iff_forall_not_mem];intro j hj;obtain⟨hu,o,ho,_⟩:=mem_ready.1 hj
   have:=qxlt (ops:=ops) (Array.getElem?_eq_some_iff.1 ho).1 hu
   omega
  exact⟨hr,done listed a w x hr h⟩
 |succ fuel ih=>
  intro listed a w x hle h;refine⟨fun hr=>done listed a w x hr h,fun i hi=>?_⟩;obtain⟨hu,o,ho,haf⟩:=mem_ready.1 hi;have hO:=qvo9 hok ho;have hI:=h.inv;have hui:listed.getD i false=false:=by rw[<-qpma (by rw[h.size];exact(Array.getElem?_eq_some_iff.1 ho).1)];exact hu
  have hsame:∀t∈o.looksAt ops,a.tmps[t]?=(fr war i A (B x)).toArray[t]? := fun t ht=>by
   rw[show(fr war i A (B x)).toArray[t]?=(fr war i A (B x))[t]? by simp];cases hc:war.contains (i,t) with
   |true=>
    rw[q0v8 (hlen x) hc];refine h.init t fun k ok hk hlk hd=>?_;obtain⟨e,he,hb,hei⟩:=hO.wr t ht hc k ok hk hd
    have:=h.closed k ok hk hlk e he hb
    simp only[hei,hui] at this;cases this
   |false=>
    rw[q0ig hc]
    have:=hI.same t (fun j oj hj hun hd=>by
     obtain⟨e,he,hb,rfl⟩:=hO.dep t ht hc j oj hj hd
     have:=haf e he hb
     rw[Array.getD_eq_getD_getElem?] at this hun;cases hx:listed[e.on]? with
     |none=>rw[hx] at hun;cases hun
     |some y=>rw[hx] at hun this;simp only[Option.getD_some] at hun this;rw[hun] at this;cases this)
    simpa using this
  have hw:=q6zd (ops:=ops) (a:=a) (b:=⟨(fr war i A (B x)).toArray,D⟩) (o:=o) hsame;have hx:execOp a.eval o=execOp (Act.eval ⟨(fr war i A (B x)).toArray,D⟩) o:=execOp_congr o hO.sel fun y hy=>by
   cases y with
   |tmp t=>
    have:=hsame t (List.mem_append_left _ (List.mem_filterMap.2 ⟨.tmp t,by simpa using hy,rfl⟩))
    simp only[Act.eval,Array.getD_eq_getD_getElem?,this]
   |_=>rfl
  have hlt:=qxlt (ops:=ops) (Array.getElem?_eq_some_iff.1 ho).1 hu;have hpre:∀m,(qk87 ops m).contains i=true->m≠i->made m x:=fun m hm hne=>by
   have hc:qqah ops fun k=>listed.getD k false=true\/k=i:=fun k ok hk hlk e he hb=>by
    rcases hlk with hlk|rfl
    ·exact .inl (h.closed k ok hk hlk e he hb)
    ·rw[ho] at hk;obtain rfl:=Option.some.inj hk;exact .inl (haf e he hb)
   rcases qhsk hc (List.contains_iff_mem.1 hm) (.inr rfl) with h1|h1
   ·exact h.made m h1
   ·exact absurd h1 hne
  have hdo:=hall.get (i:=i) (o:=o) (by simpa using ho);rw[Nat.zero_add] at hdo;have hn:∀v x' w',qeie ops S B made fresh i o x v x' w'->wpAny P .any ops Q fuel (listed.setIfInBounds i true) (a.put o.dst v) w':=fun v x' w' hm=>ih _ _ _ x' (by omega) (h.put hi ho hm)
  unfold wpOp;simp only[ho,hw];rcases hdo x w hpre (h.fresh i (Array.getElem?_eq_some_iff.1 ho).1 hui) h.keep with ⟨h1,h2⟩|⟨h1,h2⟩
  ·rw[if_pos h1];refine .inl ?_;unfold Oper.wp;rw[hx];cases h2 with
   |value v x' w' hr hm=>rw[hr];exact hn v x' w' hm
   |skip x' w' hr hm=>rw[hr];exact hn undef x' w' hm
   |call f args hr hc=>rw[hr];exact hc.mono fun e w' ⟨v,x',he,hm⟩=>by subst he;exact hn v x' w' hm
  ·rw[if_neg (by rw[h1];simp)];exact hn undef x w h2
theorem wp{id:Nat}{ds:List Tmp}{w:World}(x:X)(hf0:∀i,fresh i x)(hm:P.follows .mixedOrders=true)(hok:q6yk war ops=true)(hds:ops.toList.filterMap (·.dst)=ds)(hoff:∀x,Off ds 0 A (B x))(hS:S x w.drew)
 (hall:All (Does P ops S war A B D made fresh) ops.toList 0) (fin:∀x w,(∀i,i<ops.size->made i x)->S x w->Q .normal ⟨(B x).toArray,D⟩ w):(Code.region id ops true).wp P Q ⟨A.toArray,D⟩ w:=by
 have hnf:∀i,(Array.replicate ops.size false).getD i false=false:=fun i=>by rw[Array.getD_eq_getD_getElem?,Array.getElem?_replicate];split<;>rfl
 refine wp_region_any hm (any hok (fun x=>(hoff x).spec.1) hall fin ops.size _ _ _ x ?_ ⟨fun t _=>by simp,?_,hS,fun i hi=>?_,fun k o _ hl=>?_,by simp,fun i _ _=>hf0 i⟩)
 ·unfold left;exact Nat.le_trans (List.length_filter_le _ _) (by simp)
 ·refine⟨rfl,by simpa using (hoff x).spec.1,fun d hd=>?_⟩
  have:=(hoff x).spec.2 d (by
   rw[Nat.zero_add];rw[Bool.eq_false_iff];intro hc;rw[List.contains_iff_mem,<-hds,List.mem_filterMap] at hc;obtain⟨o,ho,hod⟩:=hc;obtain⟨j,hj⟩:=List.mem_iff_getElem?.1 ho;have hjs:j<ops.size:=by
    have:=(List.getElem?_eq_some_iff.1 hj).1
    simpa using this
   exact hd j o (by simpa using hj) (by simp[Array.getD_eq_getD_getElem?,hjs]) hod)
  simpa using this
 ·rw[hnf] at hi;cases hi
 ·simp only[hnf] at hl;cases hl
variable{o:Oper}{d:Tmp}{j:Nat}
theorem qeie.stay{x:X}{v:Value}{w:World}(hv:∀d,o.dst=some d->(B x)[d]?=some v)(hS:S x w)(hm:made j x):qeie ops S B made fresh j o x v x w:=
 ⟨hv,hS,hm,fun _ h=>h,fun _ _ h=>h,[],rfl,off_refl 0 _⟩
theorem Does.pure{val:X->Value}(hd:o.dst=some d)(hm:∀x,made j x)
 (h:∀x w,(∀m,(qk87 ops m).contains j=true->m≠j->made m x)->S x w->(B x)[d]?=some (val x)/\Region.wanted o (yielded ops (fr war j A (B x)).toArray)=true/\(execOp (Act.eval ⟨(fr war j A (B x)).toArray,D⟩) o).run P w=.ok (.value (val x)) w):Does P ops S war A B D made fresh j o:=fun x w hp _ hS=>
 have ⟨h1,h2,h3⟩:=h x w hp hS
 .inl ⟨h2,.value _ x w h3 (qeie.stay (fun y hy=>by rw[hd] at hy;obtain rfl:=Option.some.inj hy;exact h1) hS (hm x))⟩
theorem Does.skip(hd:o.dst=some d)(hm:∀x,made j x)(h:∀x,(B x)[d]?=some undef/\Region.wanted o (yielded ops (fr war j A (B x)).toArray)=false):Does P ops S war A B D made fresh j o:=fun x _ _ _ hS=>.inr ⟨(h x).2,qeie.stay (fun y hy=>by rw[hd] at hy;obtain rfl:=Option.some.inj hy;exact(h x).1) hS (hm x)⟩
theorem Does.call{val:X->Value}{f:FuncId}{args:X->Array Value}(hd:o.dst=some d)(hm:∀x,made j x)
 (h:∀x w,(∀m,(qk87 ops m).contains j=true->m≠j->made m x)->S x w->(B x)[d]?=some (val x)/\Region.wanted o (yielded ops (fr war j A (B x)).toArray)=true/\(execOp (Act.eval ⟨(fr war j A (B x)).toArray,D⟩) o).run P w=.ok (.enter f (args x)) w/\Calls P f (args x) w fun e w'=>e=.returned (val x)/\S x w'):Does P ops S war A B D made fresh j o:=fun x w hp _ hS=>
 have ⟨h1,h2,h3,h4⟩:=h x w hp hS
 .inl ⟨h2,.call f _ h3 (h4.mono fun _ _ ⟨he,hk⟩=>⟨_,x,he,qeie.stay (fun y hy=>by rw[hd] at hy;obtain rfl:=Option.some.inj hy;exact h1) hk (hm x)⟩)⟩
theorem Does.act{val:X->Value}{f:FuncId}{args:X->Array Value}{nx:X->X}(hd:∀y,o.dst=some y->∀x,(B x)[y]?=some (val x))(hB:∀x,B (nx x)=B x)(hm:∀x,made j (nx x))(hm2:∀i x,made i x->made i (nx x))(hf:∀i x,i≠j->fresh i x->fresh i (nx x))
 (h:∀x w,(∀m,(qk87 ops m).contains j=true->m≠j->made m x)->fresh j x->S x w->Region.wanted o (yielded ops (fr war j A (B x)).toArray)=true/\(execOp (Act.eval ⟨(fr war j A (B x)).toArray,D⟩) o).run P w=.ok (.enter f (args x)) w/\Calls P f (args x) w fun e w'=>e=.returned (val x)/\S (nx x) w'):Does P ops S war A B D made fresh j o:=fun x w hp hfx hS=>
 have ⟨h2,h3,h4⟩:=h x w hp hfx hS
 .inl ⟨h2,.call f _ h3 (h4.mono fun _ _ ⟨he,hk⟩=>⟨_,nx x,he,fun y hy=>by rw[hB];exact hd y hy x,hk,hm x,fun i hi=>hm2 i x hi,fun i hi hx=>hf i x hi hx,[],rfl,by rw[hB];exact off_refl 0 _⟩)⟩
end
end qu7n
end Go.Proofs.YtefmhbioggcfaaaGreatDoor
