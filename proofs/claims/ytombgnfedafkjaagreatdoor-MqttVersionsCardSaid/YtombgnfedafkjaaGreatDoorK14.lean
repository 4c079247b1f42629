/- A region that draws its order, by its final environment, where calls write memory in a forced order: as q2y4, and each operation knows that it has not run yet. Condition: each operation qzfk for those whose slots it reads. -/
import Derived.Test.YtombgnfedafkjaaGreatDoorK12
namespace Go.Proofs.YtombgnfedafkjaaGreatDoor
namespace qu7n
open qfhu (qvpx ql91 Inv q6zd left qxlt Off)
open q2y4 (q6yk qvo9 fr q2w6 q0ig q0v8 qk87 qhsk qqah qdy9 All All.get qpma qxtj qstk off_refl)
section
variable{P:Program}{ops:Array Oper}{Q:Exit->Act->World->Prop}{X:Type}{S:X->World->Prop}{war:List (Nat×Tmp)}{A:List Value}{B:X->List Value}{D:List Deferred}{made fresh:Nat->X->Prop}
def qeie(ops:Array Oper)(S:X->World->Prop)(B:X->List Value)(made fresh:Nat->X->Prop)(j:Nat)(o:Oper)(x:X)(v:Value)(x':X)(w':World):Prop:=
 (∀d,o.dst=some d->(B x')[d]?=some v)/\S x' w'/\made j x'/\(∀i,made i x->made i x')/\(∀i,i≠j->fresh i x->fresh i x')/\∃late,qdy9 ops j late=true/\Off late 0 (B x) (B x')
inductive Yields(P:Program)(ops:Array Oper)(S:X->World->Prop)(war:List (Nat×Tmp))(A:List Value)(B:X->List Value)(D:List Deferred)(made fresh:Nat->X->Prop)(j:Nat)(o:Oper)(x:X)(w:World):Prop
 |value (v:Value) (x':X) (w':World) (h:(execOp (Act.eval ⟨(fr war j A (B x)).toArray,D⟩) o).run P w=.ok (.value v) w') (hm:qeie ops S B made fresh j o x v x' w')
 |skip (x':X) (w':World) (h:(execOp (Act.eval ⟨(fr war j A (B x)).toArray,D⟩) o).run P w=.ok .skip w') (hm:qeie ops S B made fresh j o x undef x' w')
 |call (f:FuncId) (args:Array Value) (h:(execOp (Act.eval ⟨(fr war j A (B x)).toArray,D⟩) o).run P w=.ok (.enter f args) w) (hc:Calls P f args w fun e w'=>∃v x',e=.returned v/\qeie ops S B made fresh j o x v x' w')
def Does(P:Program)(ops:Array Oper)(S:X->World->Prop)(war:List (Nat×Tmp))(A:List Value)(B:X->List Value)(D:List Deferred)(made fresh:Nat->X->Prop)(j:Nat)(o:Oper):Prop:=
 ∀x w,(∀m,(qk87 ops m).contains j=true->m≠j->made m x)->fresh j x->S x w->
  (Region.wanted o (yielded ops (fr war j A (B x)).toArray)=true/\Yields P ops S war A B D made fresh j o x w)\/(Region.wanted o (yielded ops (fr war j A (B x)).toArray)=false/\qeie ops S B made fresh j o x undef x w)
structure Stands(ops:Array Oper)(S:X->World->Prop)(A:List Value)(B:X->List Value)(D:List Deferred)(made fresh:Nat->X->Prop)(listed:Array Bool)(a:Act)(w:World)(x:X):Prop where
 init:∀t,(∀j oj,ops[j]?=some oj->listed.getD j false=true->oj.dst≠some t)->a.tmps[t]?=A[t]?
 inv:Inv ops ⟨(B x).toArray,D⟩ listed a
 keep:S x w
 made:∀i,listed.getD i false=true->made i x
 closed:qqah ops fun i=>listed.getD i false=true
 size:listed.size=ops.size
 fresh:∀i,i<ops.size->listed.getD i false=false->fresh i x
theorem Stands.put{listed:Array Bool}{a:Act}{w w':World}{x x':X}{j:Nat}{o:Oper}{v:Value}(h:Stands ops S A B D made fresh listed a w x)(hj:j∈Region.ready .any ops listed)(ho:ops[j]?=some o)(hm:qeie ops S B made fresh j o x v x' w') :
 Stands ops S A B D made fresh (listed.setIfInBounds j true) (a.put o.dst v) w' x':=by
 obtain⟨hu,o',ho',haf⟩:=mem_ready.1 hj;rw[ho] at ho';obtain rfl:=Option.some.inj ho';obtain⟨hv,hS,hmj,hmore,hfr,late,hlate,hoff⟩:=hm;have hjs:j<listed.size:=by rw[h.size];exact(Array.getElem?_eq_some_iff.1 ho).1
 have huf:listed.getD j false=false:=by rw[<-qpma hjs];exact hu
 have hl:∀k,k≠j->(listed.setIfInBounds j true).getD k true=listed.getD k true:=fun k hk=>getD_set_ne true (Ne.symm hk);have hlen:=hoff.spec.1;refine⟨fun t ht=>?_,⟨by cases o.dst<;>exact h.inv.defers,?_,fun t ht=>?_⟩,hS,fun i hi=>?_,fun k ok hk hlk e he hb=>?_,by simp[h.size],fun i hi hl=>?_⟩
 ·have hset:∀i,listed.getD i false=true->(listed.setIfInBounds j true).getD i false=true:=fun i hi=>getD_set_true hi;have hd:o.dst≠some t:=ht j o ho (by rw[Array.getD_eq_getD_getElem?,Array.getElem?_setIfInBounds_self_of_lt hjs];rfl);have e1:(a.put o.dst v).tmps[t]?=a.tmps[t]? := by
   cases hd':o.dst with
   |none=>rfl
   |some y=>rw[hd'] at hd;simp only[ne_eq,Option.some.injEq] at hd;simp[Act.put,hd]
  rw[e1];exact h.init t fun k ok hk hlk=>ht k ok hk (hset k hlk)
 ·have h1:a.tmps.size=(B x').length:=by have:=h.inv.size;simp at this;omega
  cases o.dst<;>simpa [Act.put] using h1
 ·by_cases hd:o.dst=some t
  ·have hb:=hv t hd;have hlt:t<a.tmps.size:=by
    have h3:(B x').length=a.tmps.size:=by have:=h.inv.size;simp at this;omega
    rw[<-h3];exact(List.getElem?_eq_some_iff.1 hb).1
   rw[hd];simp[Act.put,hb,hlt]
  ·have e1:(a.put o.dst v).tmps[t]?=a.tmps[t]? := by
    cases hd':o.dst with
    |none=>rfl
    |some y=>rw[hd'] at hd;simp only[Option.some.injEq] at hd;simp[Act.put,hd]
   have e2:a.tmps[t]?=(B x).toArray[t]? := h.inv.same t fun k ok hk hun=>by
    by_cases hkj:k=j
    ·subst hkj;rw[ho] at hk;obtain rfl:=Option.some.inj hk;exact hd
    ·exact ht k ok hk (by rw[hl k hkj];exact hun)
   have e3:late.contains t=false:=by
    rw[Bool.eq_false_iff];intro hc;unfold qdy9 at hlate;simp only[List.all_eq_true,List.any_eq_true,beq_iff_eq] at hlate;obtain⟨k,hk,hkt⟩:=hlate t (List.contains_iff_mem.1 hc);obtain⟨ok,hok,hdk⟩:=Option.bind_eq_some_iff.1 hkt;have hkj:k≠j:=fun e=>by subst e;rw[ho] at hok;obtain rfl:=Option.some.inj hok;exact hd hdk
    have hks:k<listed.size:=by rw[h.size];exact(Array.getElem?_eq_some_iff.1 hok).1
    refine ht k ok hok ?_ hdk;rw[hl k hkj,qpma hks];rw[Bool.eq_false_iff];intro hlk
    have:=qhsk h.closed hk hlk
    rw[huf] at this;cases this
   have e4:=hoff.spec.2 t (by rw[Nat.zero_add];exact e3);rw[e1,e2];simpa using e4
 ·rcases qxtj hi with rfl|hi
  ·exact hmj
  ·exact hmore i (h.made i hi)
 ·have hset:∀i,listed.getD i false=true->(listed.setIfInBounds j true).getD i false=true:=fun i hi=>getD_set_true hi;rcases qxtj hlk with rfl|hlk
  ·rw[ho] at hk;obtain rfl:=Option.some.inj hk;exact hset _ (haf e he hb)
  ·exact hset _ (h.closed k ok hk hlk e he hb)
 ·have hij:i≠j:=fun e=>by subst e;rw[Array.getD_eq_getD_getElem?,Array.getElem?_setIfInBounds_self_of_lt hjs] at hl;cases hl
  rw[getD_set_ne false (Ne.symm hij)] at hl;exact hfr i hij (h.fresh i hi hl)
theorem any(hok:q6yk war ops=true)(hlen:∀x,A.length=(B x).length)(hall:All (Does P ops S war A B D made fresh) ops.toList 0)(fin:∀x w,(∀i,i<ops.size->made i x)->S x w->Q .normal ⟨(B x).toArray,D⟩ w) :
 ∀(fuel:Nat) (listed:Array Bool) (a:Act) (w:World) (x:X),left ops listed<=fuel->Stands ops S A B D made fresh listed a w x->wpAny P .any ops Q fuel listed a w:=by
 have done:∀(listed:Array Bool) (a:Act) (w:World) (x:X),Region.ready .any ops listed=[]->Stands ops S A B D made fresh listed a w x->Q .normal a w:=fun listed a w x hr h=>by
  have hn:=qstk hok hr;have hI:=h.inv
  have:a=⟨(B x).toArray,D⟩:=by
   obtain⟨at',ad⟩:=a;have h1:=hI.defers;have h2:at'=(B x).toArray:=Array.ext_getElem? fun d=>hI.same d fun j oj hj hun=>by rw[hn j oj hj] at hun;cases hun
   simp only at h1;rw[h1,h2]
  rw[this];exact fin x w (fun i hi=>h.made i (by rw[<-qpma (by rw[h.size];exact hi)];exact hn i ops[i] (Array.getElem?_eq_getElem hi))) h.keep
 intro fuel
 induction fuel with
 |zero=>
  intro listed a w x hle h;have hr:Region.ready .any ops listed=[]:=by
   rw[List.eq_nil_iff_forall_not_mem];intro j hj;obtain⟨hu,o,ho,_⟩:=mem_ready.1 hj
   have:=qxlt (ops:=ops) (Array.getElem?_eq_some_iff.1 ho).1 hu
   omega
  exact⟨hr,done listed a w x hr h⟩
 |succ fuel ih=>
  intro listed a w x hle h;refine⟨fun hr=>done listed a w x hr h,fun i hi=>?_⟩;obtain⟨hu,o,ho,haf⟩:=mem_ready.1 hi;have hO:=qvo9 hok ho;have hI:=h.inv;have hui:listed.getD i false=false:=by rw[<-qpma (by rw[h.size];exact(Array.getElem?_eq_some_iff.1 ho).1)];exact hu
  have hsame:∀t∈o.looksAt ops,a.tmps[t]?=(fr war i A (B x)).toArray[t]? := fun t ht=>by
   rw[show(fr war i A (B x)).toArray[t]?=(fr war i A (B x))[t]? by simp];cases hc:war.contains (i,t) with
   |true=>
    rw[q0v8 (hlen x) hc];refine h.init t fun k ok hk hlk hd=>?_;obtain⟨e,he,hb,hei⟩:=hO.wr t ht hc k ok hk hd
    have:=h.closed k ok hk hlk e he hb
    simp only[hei,hui] at this;cases this
   |false=>
    rw[q0ig hc]
    have:=hI.same t (fun j oj hj hun hd=>by
     obtain⟨e,he,hb,rfl⟩:=hO.dep t ht hc j oj hj hd
     have:=haf e he hb
     rw[Array.getD_eq_getD_getElem?] at this hun;cases hx:listed[e.on]? with
     |none=>rw[hx] at hun;cases hun
     |some y=>rw[hx] at hun this;simp only[Option.getD_some] at hun this;rw[hun] at this;cases this)
    simpa using this
  have hw:=q6zd (ops:=ops) (a:=a) (b:=⟨(fr war i A (B x)).toArray,D⟩) (o:=o) hsame;have hx:execOp a.eval o=execOp (Act.eval ⟨(fr war i A (B x)).toArray,D⟩) o:=execOp_congr o hO.sel fun y hy=>by
   cases y with
   |tmp t=>
    have:=hsame t (List.mem_append_left _ (List.mem_filterMap.2 ⟨.tmp t,by simpa using hy,rfl⟩))
    simp only[Act.eval,Array.getD_eq_getD_getElem?,this]
   |_=>rfl
  have hlt:=qxlt (ops:=ops) (Array.getElem?_eq_some_iff.1 ho).1 hu;have hpre:∀m,(qk87 ops m).contains i=true->m≠i->made m x:=fun m hm hne=>by
   have hc:qqah ops fun k=>listed.getD k false=true\/k=i:=fun k ok hk hlk e he hb=>by
    rcases hlk with hlk|rfl
    ·exact .inl (h.closed k ok hk hlk e he hb)
    ·rw[ho] at hk;obtain rfl:=Option.some.inj hk;exact .inl (haf e he hb)
   rcases qhsk hc (List.contains_iff_mem.1 hm) (.inr rfl) with h1|h1
   ·exact h.made m h1
   ·exact absurd h1 hne
  have hdo:=hall.get (i:=i) (o:=o) (by simpa using ho);rw[Nat.zero_add] at hdo;have hn:∀v x' w',qeie ops S B made fresh i o x v x' w'->wpAny P .any ops Q fuel (listed.setIfInBounds i true) (a.put o.dst v) w':=fun v x' w' hm=>ih _ _ _ x' (by omega) (h.put hi ho hm)
  unfold wpOp;simp only[ho,hw];rcases hdo x w hpre (h.fresh i (Array.getElem?_eq_some_iff.1 ho).1 hui) h.keep with ⟨h1,h2⟩|⟨h1,h2⟩
  ·rw[if_pos h1];refine .inl ?_;unfold Oper.wp;rw[hx];cases h2 with
   |value v x' w' hr hm=>rw[hr];exact hn v x' w' hm
   |skip x' w' hr hm=>rw[hr];exact hn undef x' w' hm
   |call f args hr hc=>rw[hr];exact hc.mono fun e w' ⟨v,x',he,hm⟩=>by subst he;exact hn v x' w' hm
  ·rw[if_neg (by rw[h1];simp)];exact hn undef x w h2
theorem wp{id:Nat}{ds:List Tmp}{w:World}(x:X)(hf0:∀i,fresh i x)(hm:P.follows .mixedOrders=true)(hok:q6yk war ops=true)(hds:ops.toList.filterMap (·.dst)=ds)(hoff:∀x,Off ds 0 A (B x))(hS:S x w.drew)
 (hall:All (Does P ops S war A B D made fresh) ops.toList 0) (fin:∀x w,(∀i,i<ops.size->made i x)->S x w->Q .normal ⟨(B x).toArray,D⟩ w):(Code.region id ops true).wp P Q ⟨A.toArray,D⟩ w:=by
 have hnf:∀i,(Array.replicate ops.size false).getD i false=false:=fun i=>by rw[Array.getD_eq_getD_getElem?,Array.getElem?_replicate];split<;>rfl
 refine wp_region_any hm (any hok (fun x=>(hoff x).spec.1) hall fin ops.size _ _ _ x ?_ ⟨fun t _=>by simp,?_,hS,fun i hi=>?_,fun k o _ hl=>?_,by simp,fun i _ _=>hf0 i⟩)
 ·unfold left;exact Nat.le_trans (List.length_filter_le _ _) (by simp)
 ·refine⟨rfl,by simpa using (hoff x).spec.1,fun d hd=>?_⟩
  have:=(hoff x).spec.2 d (by
   rw[Nat.zero_add];rw[Bool.eq_false_iff];intro hc;rw[List.contains_iff_mem,<-hds,List.mem_filterMap] at hc;obtain⟨o,ho,hod⟩:=hc;obtain⟨j,hj⟩:=List.mem_iff_getElem?.1 ho;have hjs:j<ops.size:=by
    have:=(List.getElem?_eq_some_iff.1 hj).1
    simpa using this
   exact hd j o (by simpa using hj) (by simp[Array.getD_eq_getD_getElem?,hjs]) hod)
  simpa using this
 ·rw[hnf] at hi;cases hi
 ·simp only[hnf] at hl;cases hl
variable{o:Oper}{d:Tmp}{j:Nat}
theorem qeie.stay{x:X}{v:Value}{w:World}(hv:∀d,o.dst=some d->(B x)[d]?=some v)(hS:S x w)(hm:made j x):qeie ops S B made fresh j o x v x w:=
 ⟨hv,hS,hm,fun _ h=>h,fun _ _ h=>h,[],rfl,off_refl 0 _⟩
theorem Does.pure{val:X->Value}(hd:o.dst=some d)(hm:∀x,made j x)
 (h:∀x w,(∀m,(qk87 ops m).contains j=true->m≠j->made m x)->S x w->(B x)[d]?=some (val x)/\Region.wanted o (yielded ops (fr war j A (B x)).toArray)=true/\(execOp (Act.eval ⟨(fr war j A (B x)).toArray,D⟩) o).run P w=.ok (.value (val x)) w):Does P ops S war A B D made fresh j o:=fun x w hp _ hS=>
 have ⟨h1,h2,h3⟩:=h x w hp hS
 .inl ⟨h2,.value _ x w h3 (qeie.stay (fun y hy=>by rw[hd] at hy;obtain rfl:=Option.some.inj hy;exact h1) hS (hm x))⟩
theorem Does.skip(hd:o.dst=some d)(hm:∀x,made j x)(h:∀x,(B x)[d]?=some undef/\Region.wanted o (yielded ops (fr war j A (B x)).toArray)=false):Does P ops S war A B D made fresh j o:=fun x _ _ _ hS=>.inr ⟨(h x).2,qeie.stay (fun y hy=>by rw[hd] at hy;obtain rfl:=Option.some.inj hy;exact(h x).1) hS (hm x)⟩
theorem Does.call{val:X->Value}{f:FuncId}{args:X->Array Value}(hd:o.dst=some d)(hm:∀x,made j x)
 (h:∀x w,(∀m,(qk87 ops m).contains j=true->m≠j->made m x)->S x w->(B x)[d]?=some (val x)/\Region.wanted o (yielded ops (fr war j A (B x)).toArray)=true/\(execOp (Act.eval ⟨(fr war j A (B x)).toArray,D⟩) o).run P w=.ok (.enter f (args x)) w/\Calls P f (args x) w fun e w'=>e=.returned (val x)/\S x w'):Does P ops S war A B D made fresh j o:=fun x w hp _ hS=>
 have ⟨h1,h2,h3,h4⟩:=h x w hp hS
 .inl ⟨h2,.call f _ h3 (h4.mono fun _ _ ⟨he,hk⟩=>⟨_,x,he,qeie.stay (fun y hy=>by rw[hd] at hy;obtain rfl:=Option.some.inj hy;exact h1) hk (hm x)⟩)⟩
theorem Does.act{val:X->Value}{f:FuncId}{args:X->Array Value}{nx:X->X}(hd:∀y,o.dst=some y->∀x,(B x)[y]?=some (val x))(hB:∀x,B (nx x)=B x)(hm:∀x,made j (nx x))(hm2:∀i x,made i x->made i (nx x))(hf:∀i x,i≠j->fresh i x->fresh i (nx x))
 (h:∀x w,(∀m,(qk87 ops m).contains j=true->m≠j->made m x)->fresh j x->S x w->Region.wanted o (yielded ops (fr war j A (B x)).toArray)=true/\(execOp (Act.eval ⟨(fr war j A (B x)).toArray,D⟩) o).run P w=.ok (.enter f (args x)) w/\Calls P f (args x) w fun e w'=>e=.returned (val x)/\S (nx x) w'):Does P ops S war A B D made fresh j o:=fun x w hp hfx hS=>
 have ⟨h2,h3,h4⟩:=h x w hp hfx hS
 .inl ⟨h2,.call f _ h3 (h4.mono fun _ _ ⟨he,hk⟩=>⟨_,nx x,he,fun y hy=>by rw[hB];exact hd y hy x,hk,hm x,fun i hi=>hm2 i x hi,fun i hi hx=>hf i x hi hx,[],rfl,by rw[hB];exact off_refl 0 _⟩)⟩
end
end qu7n
end Go.Proofs.YtombgnfedafkjaaGreatDoor
