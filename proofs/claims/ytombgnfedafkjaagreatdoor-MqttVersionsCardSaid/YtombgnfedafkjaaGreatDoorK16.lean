/- The load of a whole row by an operation that a guard may keep back. No program. Condition: none. -/
import Derived.Lib.BitFns
import Derived.Test.YtombgnfedafkjaaGreatDoorK07
import Derived.Test.YtombgnfedafkjaaGreatDoorK11
set_option maxHeartbeats 2000000
set_option maxRecDepth 100000
namespace Go.Proofs.YtombgnfedafkjaaGreatDoor
open Lib(hid)
open Proofs.Tryz
open Go.RowKit
theorem q2a5{P:Program}{ops:Array Oper}{rest:List Oper}{o:Oper}{a:Act}{w:World}{Q:Exit->Act->World->Prop}(hw:Region.wanted o (yielded ops a.tmps)=true)(ty:TypeId)(x:Operand)(ho:o.op=.load ty x)
 (g:Nat) (hx:a.eval x=.pointer (some ⟨g,0,none⟩)) (t:TypeId) (cs:Array Value) (fr:Nat×Nat) (d:TypeDesc) (hg:w.heap[g]?=some (.cells cs t fr))
 (hu:P.underlying ty=some d) (hd:(match d with|.struct _|.array _ _=>true|_=>false)=true) (hi:(P.info? ty).map (·.size)=some cs.size)
 (h:wpList P ops Q rest (a.put o.dst (.agg cs)) w):wpList P ops Q (o::rest) a w:=by
 unfold wpList;rw[if_pos hw];exact .inl (wp_load_row ty x ho g hx t cs fr d hg hu hd hi h)
structure BxS(w:World)(p:Pk)(a:Ad)(W:World):Prop where
 low:Below w.heap.size w W
 box:W.heap[w.heap.size]?=some (.cells (pkC p a) 32 (0,0))
theorem BxS.made(w:World)(p:Pk)(a:Ad):BxS w p a (w.alloc (.cells (pkC p a) 32)):=⟨qybm _,heap_alloc_new _ _⟩
theorem BxS.call{w W W':World}{p:Pk}{a:Ad}(h:BxS w p a W)(hb:Below W.heap.size W W'):BxS w p a W':=⟨qxh2 h.low hb,(hb.block _ (lt_of_block h.box)).trans h.box⟩
theorem BxS.draw{w W:World}{p:Pk}{a:Ad}(h:BxS w p a W):BxS w p a W.drew:=⟨h.low.drew,h.box⟩
theorem BxS.cell{w W:World}{p:Pk}{a:Ad}(h:BxS w p a W)(j:Nat):W.cell? ⟨w.heap.size,j,none⟩=(pkC p a)[j]? := cell_of_row _ _ j _ _ _ h.box
section
variable{P:Program}
theorem qesj(w:World)(A:Addr)(ty:TypeId)(cs:Array Value)(d:TypeDesc)(hc:∀(j:Nat) (v:Value),cs[j]?=some v->w.cell? (A.add j)=some v)
 (hu:P.underlying ty=some d) (hd:(match d with|.struct _|.array _ _=>true|_=>false)=true) (hi:(P.info? ty).map (·.size)=some cs.size) :
 (loadVar ty A).run P w=.ok (.agg cs) w:=by
 have hl:(loadCells A cs.toList.length).run P w=.ok cs.toList.toArray w:=
  run_loadCells_list (P:=P) w A cs.toList (fun j v hv=>hc j v (by simpa using hv))
 cases hq:P.info? ty with
 |none=>simp[hq] at hi
 |some i=>
  have hs:i.size=cs.size:=by simpa [hq] using hi
  have hagg:(isAgg ty).run P w=.ok true w:=by unfold isAgg;rw[Sem.run_bind,run_underlying hu w];cases d<;>simp_all
  simp only[Array.length_toList,Array.toArray_toList] at hl;simp[loadVar,Sem.run_bind,hagg,sizeOf,typeInfo,hq,hs,hl]
variable{ops:Array Oper}{rest:List Oper}{o:Oper}{a:Act}{w:World}{Q:Exit->Act->World->Prop}
theorem qcje{K:Act->World->Prop}(ty:TypeId)(x:Operand)(ho:o.op=.load ty x)(A:Addr)(hx:a.eval x=.pointer (some A))(cs:Array Value)(d:TypeDesc)(hc:∀(j:Nat) (v:Value),cs[j]?=some v->w.cell? (A.add j)=some v)
 (hu:P.underlying ty=some d) (hd:(match d with|.struct _|.array _ _=>true|_=>false)=true) (hi:(P.info? ty).map (·.size)=some cs.size)
 (h:K (a.put o.dst (.agg cs)) w):o.wp P a w K Q:=by
 unfold Oper.wp execOp;simp only[ho,hx,Instr.loadAt,Instr.sureAddr,Sem.run_bind,Sem.run_pure,Result.andThen_ok,qesj w A ty cs d hc hu hd hi];exact h
theorem ql0m(hw:Region.wanted o (yielded ops a.tmps)=true)(ty:TypeId)(x:Operand)(ho:o.op=.load ty x)(A:Addr)(hx:a.eval x=.pointer (some A))(cs:Array Value)(d:TypeDesc)(hc:∀(j:Nat) (v:Value),cs[j]?=some v->w.cell? (A.add j)=some v)
 (hu:P.underlying ty=some d) (hd:(match d with|.struct _|.array _ _=>true|_=>false)=true) (hi:(P.info? ty).map (·.size)=some cs.size)
 (h:wpList P ops Q rest (a.put o.dst (.agg cs)) w):wpList P ops Q (o::rest) a w:=by
 unfold wpList;rw[if_pos hw];exact .inl (qcje ty x ho A hx cs d hc hu hd hi h)
end
end Go.Proofs.YtombgnfedafkjaaGreatDoor
namespace Go.Proofs.YtombgnfedafkjaaGreatDoor
open Lib(hid)
open Proofs.Tryz
def qhx1(p:Pk):Nat:=if p.kind=1 then(if p.hasWill then 2 else 1) else if p.kind=2\/p.kind=3\/(8<=p.kind/\p.kind<=11) then 1 else 0
theorem qltz(k:Int):qpyu k []=0:=by simp[qpyu,q09m,qwyx,q636,hasP]
theorem qqm4(v k:Int):rightC v k []=0:=by
 unfold rightC;split
 ·exact qltz k
 ·rfl
theorem qbm4(k:Int)(l:List Pr):tailC 4 k l=[]:=rfl
theorem qtuy(k:Int):(tailC 5 k []).length=1:=by
 unfold tailC q5aq;rw[if_pos rfl,if_neg (by simp[qltz])];simp[q636]
 rfl
theorem qgd6{p:Pk}(h:validC 4 p=0)(hc:p.kind=2->p.code=0):validC 5 p=0/\(rawC 5 p).length=(rawC 4 p).length+qhx1 p:=by
 obtain⟨h0,h1,h2,h3,h4,h5,h6,h7⟩:=qgoi h;obtain⟨hv,hk,hu,hp,hk2,hk1⟩:=ok_c h0;obtain⟨hp1,hp2⟩:=hp rfl;have ho:okC 5 p=true:=by
  unfold okC;rw[<-hu];rcases hk with hk|hk
  ·obtain⟨_,a1,a2⟩:=hk1 hk;simp[versC,hk,a1,a2]
  ·have:=hc hk
   obtain⟨_,_⟩:=hk2 hk;rw[hk,this];simp[versC]
   decide
 constructor
 ·unfold validC;rw[if_neg (by rw[ho];decide),if_neg (by rw[h1,h2];decide),if_neg,if_neg (by omega),hp1,hp2,if_neg (by rw[qqm4];simp),qqm4];intro hh;rw[Bool.and_eq_true,Bool.not_eq_true'] at hh;rw[h3 hh.1] at hh;cases hh.2
 ·unfold rawC qhx1;rw[hp1,hp2];rcases hk with hk|hk
  ·have n2:¬p.kind=2:=by omega
   simp only[if_neg n2,if_pos hk];cases p.hasWill
   ·simp[qbm4,qtuy];omega
   ·simp[qbm4,qtuy];omega
  ·have n1:¬p.kind=1:=by omega
   simp only[if_pos hk,if_neg n1,if_pos (show p.kind=2\/p.kind=3\/(8<=p.kind/\p.kind<=11) from .inl hk)];simp[qbm4,qtuy]
theorem q7txb{p:Pk}(h:q6ed 4 p=0):q6ed 5 p=0/\(rawU 5 p).length=(rawU 4 p).length+1:=by
 obtain⟨hk,_,hq,hi,hu,ht,hp,h4⟩:=qhc8 h;have hp0:=h4 rfl;have e:qbi7 5 p=qbi7 4 p:=by unfold qbi7;rw[hp0];rfl
 constructor
 ·unfold q6ed;rw[if_neg (by simpa using hk),if_neg (by rw[qytj.2 ⟨rfl,hq⟩];simp),if_neg (by rw[hi,e,<-hu];simp),if_neg (by rw[ht];decide)];exact hp
 ·unfold rawU;rw[hp0];simp[qbm4,qtuy];omega
theorem qsvr{p:Pk}(h:qryp 4 p=0):qryp 5 p=0/\rawA 5 p=rawA 4 p:=by
 obtain⟨h0,h1⟩:=q858 h;obtain⟨_,hk,hu,h4,hi,hm⟩:=ok_a h0;obtain⟨hc,hp⟩:=h4 rfl;have ho:okA 5 p=true:=by unfold okA;rw[<-hu];simp[versC,qvya,hk,hi,hm]
 constructor
 ·unfold qryp;rw[if_neg (by rw[ho];decide),hp,qqm4]
 ·unfold rawA;rw[hc,hp];simp[qzno]
theorem q5m1{k:Int}:∀{l:List Fi},qlck 4 k l=0->qlck 5 k l=0
 |[],_=>rfl
 |f::l,h=>by
  obtain⟨h1,h2⟩:=q267 h f (List.mem_cons_self ..);have h3:qlck 4 k l=0:=by unfold qlck at h;rw[if_neg (by rw[h1];decide),if_neg (by rw[h2];decide)] at h;exact h
  have h4:optS 5 k f=true:=by
   unfold optS at h2 ⊢;by_cases hk:k=10
   ·rw[if_pos hk] at h2 ⊢;exact h2
   ·rw[if_neg hk] at h2 ⊢;rw[Bool.and_eq_true] at h2 ⊢;refine⟨h2.1,?_⟩
    have:=h2.2
    rw[if_pos rfl,Bool.and_eq_true,Bool.and_eq_true] at this;rw[if_neg (by decide),this.1.1]
    rfl
  rw[qlck,if_neg (by rw[h1];decide),if_neg (by rw[h4];decide)];exact q5m1 h3
theorem qr2c{n:Int}(h:qw69 n=true):mayR 9 n=true:=by simp only[qw69,Bool.or_eq_true,beq_iff_eq] at h;rcases h with ((rfl|rfl)|rfl)|rfl<;>decide
theorem q8lo:∀{l:List Int},qq92 4 9 l=0->qq92 5 9 l=0
 |[],_=>rfl
 |c::l,h=>by
  have h1:=q6r9 h c (List.mem_cons_self ..);have h3:qq92 4 9 l=0:=by unfold qq92 at h;rw[if_neg (by rw[h1];decide)] at h;exact h
  have h4:q190 5 9 c=true:=by unfold q190 at h1 ⊢;rw[if_pos rfl] at h1;rw[if_neg (by decide)];exact qr2c h1
  rw[qq92,if_neg (by rw[h4];decide)];exact q8lo h3
theorem q080{p:Pk}(h:q3m2 4 p=0)(hk11:p.kind≠11):q3m2 5 p=0/\(rawS 5 p).length=(rawS 4 p).length+1:=by
 obtain⟨h0,h1,h2,h3⟩:=q87v h;obtain⟨_,hk,hu,hi,h4,he⟩:=ok_s h0;have hp:=h4 rfl;have hn:¬(p.filters=[]/\p.codes=[]):=fun hh=>hk11 (he hh.1 hh.2).1;have e:qumw 5 p=qumw 4 p:=by
  unfold qumw;obtain hh|hh|hh:p.kind=8\/p.kind=9\/p.kind=10:=by omega
  all_goals (rw[hh];rfl)
 have hne:(p.filters.isEmpty&&p.codes.isEmpty)=false:=by rw[Bool.eq_false_iff];intro hh;rw[Bool.and_eq_true,List.isEmpty_iff,List.isEmpty_iff] at hh;exact hn hh
 have ho:okS 5 p=true:=by unfold okS;rw[e,<-hu,hne];simp[versC,qfws,hk,hi]
 have hc:qq92 5 p.kind p.codes=0:=by
  obtain hh|hh|hh:p.kind=8\/p.kind=9\/p.kind=10:=by omega
  ·rw[(qmqi hu).1 (by rw[hh];rfl)];rfl
  ·rw[hh] at h3 ⊢;exact q8lo h3
  ·rw[(qmqi hu).1 (by rw[hh];rfl)];rfl
 constructor
 ·unfold q3m2;rw[if_neg (by rw[ho];decide),hp,if_neg (by rw[qqm4];simp),if_neg (by rw[q5m1 h2];simp)];exact hc
 ·unfold rawS;rw[hp];simp[qbm4,qtuy];omega
theorem qmsz{p:Pk}(h:q1ra 4 p=0):q1ra 5 p=0/\rawK 5 p=rawK 4 p:=by
 obtain⟨_,hk,h15,hu,hm,hr⟩:=qi0l h;have hkk:p.kind=12\/p.kind=13\/p.kind=14:=by omega
 have hpl:q6gd 4 p.kind=true:=by rcases hkk with hh|hh|hh<;>(rw[hh];rfl)
 have hc:p.code=0/\p.props=[]:=by
  constructor
  ·have:=congrArg Pk.code hu
   rw[usedK,hpl] at this;simpa using this
  ·have:=congrArg Pk.props hu
   rw[usedK,hpl] at this;simpa using this
 have e:usedK 5 p=usedK 4 p:=by unfold usedK;rw[hc.1,hc.2,hpl];cases q6gd 5 p.kind<;>rfl
 constructor
 ·unfold q1ra;rw[if_neg (by rcases hkk with hh|hh|hh<;>(rw[hh];decide)),if_neg (by omega),if_neg,hc.2,qqm4];rw[e,<-hu,hc.1];rcases hkk with hh|hh|hh<;>(rw[hh];simp;decide)
 ·unfold rawK;rw[hpl,hc.1,hc.2,if_pos rfl];cases q6gd 5 p.kind
  ·rw[if_neg (by decide)];unfold q4py qzno;simp
  ·rfl
theorem qc46{p:Pk}(h:q8s2 4 p=0)(hl:(qx3b 4 p).length<=268435400) :
 (p.kind=11/\q8s2 5 p≠0)\/(p.kind=2/\p.code≠0/\q8s2 5 p≠0)\/(q8s2 5 p=0/\(qx3b 5 p).length=(qx3b 4 p).length+qhx1 p/\(qhx1 p=0->qx3b 5 p=qx3b 4 p)):=by
 obtain⟨h1,h2,h3,h4⟩:=q31v h;have hk14:1<=p.kind/\p.kind<=14:=by
  have:=h2
  simp[qbe2] at this;omega
 have k5:qbe2 5 p.kind=true:=by simp[qbe2];omega
 have hmm:qhx1 p<=2:=by
  unfold qhx1;split
  ·split<;>omega
  ·split<;>omega
 have fin:qc11 5 p=0->(qx3b 5 p).length=(qx3b 4 p).length+qhx1 p->q8s2 5 p=0:=fun a b=>by unfold q8s2;rw[if_neg (by decide),if_neg (by rw[k5];decide),if_neg (by rw[a];simp),if_neg (by omega)]
 have no:qc11 5 p≠0->q8s2 5 p≠0:=fun a=>by unfold q8s2;rw[if_neg (by decide),if_neg (by rw[k5];decide),if_pos a];exact a
 unfold qc11 at h3;by_cases c1:p.kind<=2
 ·rw[if_pos c1] at h3;have eV:qc11 5 p=validC 5 p:=by unfold qc11;rw[if_pos c1]
  have eB:∀v,qx3b v p=rawC v p:=fun v=>by unfold qx3b;rw[if_pos c1]
  by_cases hc:p.kind=2/\p.code≠0
  ·refine .inr (.inl ⟨hc.1,hc.2,no ?_⟩);rw[eV];intro hz;obtain⟨o4,_⟩:=qgoi h3;obtain⟨o5,_⟩:=qgoi hz;have a4:=((ok_c o4).2.2.2.2.1 hc.1).1;have a5:=((ok_c o5).2.2.2.2.1 hc.1).1;rw[if_pos rfl] at a4;rw[if_neg (by decide)] at a5;simp only[qfn3,Bool.and_eq_true,decide_eq_true_eq] at a4;obtain hh|hh|hh|hh|hh:p.code=1\/p.code=2\/p.code=3\/p.code=4\/p.code=5:=by have:=hc.2;omega
   all_goals (rw[hh] at a5;exact absurd a5 (by decide))
  ·have hcc:p.kind=2->p.code=0:=fun e=>Classical.byContradiction fun n=>hc ⟨e,n⟩;obtain⟨a,b⟩:=qgd6 h3 hcc;rw[<-eV] at a;rw[<-eB,<-eB] at b;refine .inr (.inr ⟨fin a b,b,fun hz=>?_⟩);exfalso;unfold qhx1 at hz;split at hz
   ·split at hz<;>cases hz
   ·rw[if_pos (by omega)] at hz;cases hz
 rw[if_neg c1] at h3;by_cases c2:p.kind=3
 ·rw[if_pos c2] at h3;have eV:qc11 5 p=q6ed 5 p:=by unfold qc11;rw[if_neg c1,if_pos c2]
  have eB:∀v,qx3b v p=rawU v p:=fun v=>by unfold qx3b;rw[if_neg c1,if_pos c2]
  have em:qhx1 p=1:=by unfold qhx1;rw[if_neg (by omega),if_pos (by omega)]
  obtain⟨a,b⟩:=q7txb h3;rw[<-eV] at a;rw[<-eB,<-eB,<-em] at b;exact .inr (.inr ⟨fin a b,b,fun hz=>by omega⟩)
 rw[if_neg c2] at h3;by_cases c3:p.kind<=7
 ·rw[if_pos c3] at h3;have eV:qc11 5 p=qryp 5 p:=by unfold qc11;rw[if_neg c1,if_neg c2,if_pos c3]
  have eB:∀v,qx3b v p=rawA v p:=fun v=>by unfold qx3b;rw[if_neg c1,if_neg c2,if_pos c3]
  have em:qhx1 p=0:=by unfold qhx1;rw[if_neg (by omega),if_neg (by omega)]
  obtain⟨a,b⟩:=qsvr h3;rw[<-eV] at a;rw[<-eB,<-eB] at b;have b2:(qx3b 5 p).length=(qx3b 4 p).length+qhx1 p:=by rw[b,em];rfl
  exact .inr (.inr ⟨fin a b2,b2,fun _=>b⟩)
 rw[if_neg c3] at h3;by_cases c4:p.kind<=11
 ·rw[if_pos c4] at h3;have eV:qc11 5 p=q3m2 5 p:=by unfold qc11;rw[if_neg c1,if_neg c2,if_neg c3,if_pos c4]
  have eB:∀v,qx3b v p=rawS v p:=fun v=>by unfold qx3b;rw[if_neg c1,if_neg c2,if_neg c3,if_pos c4]
  have em:qhx1 p=1:=by unfold qhx1;rw[if_neg (by omega),if_pos (by omega)]
  by_cases c11:p.kind=11
  ·refine .inl ⟨c11,no ?_⟩;rw[eV];intro hz;obtain⟨o4,_⟩:=q87v h3;obtain⟨o5,_⟩:=q87v hz;obtain⟨_,_,hu,_⟩:=ok_s o4;have a1:=(qmqi hu).2 (by rw[c11];rfl);have a2:p.codes=[]:=by
    have:=congrArg Pk.codes hu
    rw[qumw,c11] at this;simpa using this
   have:=(ok_s o5).2.2.2.2.2 a1 a2
   exact absurd this.2 (by decide)
  ·obtain⟨a,b⟩:=q080 h3 c11;rw[<-eV] at a;rw[<-eB,<-eB,<-em] at b;exact .inr (.inr ⟨fin a b,b,fun hz=>by omega⟩)
 rw[if_neg c4] at h3;have eV:qc11 5 p=q1ra 5 p:=by unfold qc11;rw[if_neg c1,if_neg c2,if_neg c3,if_neg c4]
 have eB:∀v,qx3b v p=rawK v p:=fun v=>by unfold qx3b;rw[if_neg c1,if_neg c2,if_neg c3,if_neg c4]
 have em:qhx1 p=0:=by unfold qhx1;rw[if_neg (by omega),if_neg (by omega)]
 obtain⟨a,b⟩:=qmsz h3;rw[<-eV] at a;rw[<-eB,<-eB] at b;have b2:(qx3b 5 p).length=(qx3b 4 p).length+qhx1 p:=by rw[b,em];rfl
 exact .inr (.inr ⟨fin a b2,b2,fun _=>b⟩)
theorem qx3n:qyib 4 [192,0]=({Pk.zero with kind:=12},2,0):=by decide+kernel
theorem qu4s{v:Int}{p:Pk}(h:q8s2 v p=0):(rawM v p).length<=268435460:=by
 obtain⟨_,_,_,h4⟩:=q31v h;have h5:sz (q9sw v p).length<=4:=by
  unfold sz
  repeat' split
  all_goals omega
 rw[qbl2];unfold rawH;rw[List.length_cons,q8sw];omega
theorem q0rr{p:Pk}(h:q8s2 4 p=0)(h5:q8s2 5 p=0):(q9sw 4 p).flags=(q9sw 5 p).flags:=by
 obtain⟨_,a2,_,_⟩:=q31v h;obtain⟨_,b2,_,_⟩:=q31v h5;unfold q9sw qjyu;rw[a2,b2]
 rfl
def necA(p:Pk):Nat:=if p.props≠[] then 2 else if p.code≠0 then 1 else 0
theorem qxhf(p:Pk):necA p=0\/necA p=1\/necA p=2:=by
 unfold necA;by_cases h:p.props=[]
 ·by_cases h1:p.code=0<;>simp[h,h1]
 ·simp[h]
def qolc(kind:Int)(s:Cs):(Nat×List Pr×Nat)×Cs:=
 if s.r=[] then((0,[],0),s)
 else if (s.num 1).2.r=[] then(((s.num 1).1,[],1),(s.num 1).2)
 else(((s.num 1).1,(qflw kind (s.num 1).2.r).1,2),((s.num 1).2.take (qflw kind (s.num 1).2.r).2.1).2.fail (qflw kind (s.num 1).2.r).2.2)
def midB(v kind:Int)(s:Cs):(Nat×List Pr×Nat)×Cs:=if v=5/\s.e=0 then qolc kind s else((0,[],0),s)
def pkB(kind:Int)(i c:Nat)(l:List Pr):Pk:={Pk.zero with kind:=kind,id:=(i:Nat),code:=(c:Nat),props:=l}
def qts0(v kind:Int)(s:Cs):Pk×Cs:=
 let i:=s.num 2
 let t:=midB v kind i.2
 let p:=pkB kind i.1 t.1.1 t.1.2.1
 (p,if t.2.r≠[]\/necA p<t.1.2.2 then t.2.fail 5 else t.2)
theorem Cs.num_one{b:UInt8}{t:List UInt8}:(Cs.mk (b::t) 0).num 1=(b.toNat,⟨t,0⟩):=by
 have h:=Cs.num_app (k:=b.toNat) (c:=1) (t:=t) (by have:=b.toNat_lt;omega);have e:be b.toNat 1=[b]:=by simp[be]
 rw[e] at h;exact h
theorem q1h8{kind:Int}{t:List UInt8}:((Cs.mk t 0).take (qflw kind t).2.1).2.fail (qflw kind t).2.2=⟨t.drop (qflw kind t).2.1,(qflw kind t).2.2⟩:=by
 have hle:(qflw kind t).2.1<=t.length:=by
  by_cases hF:(qflw kind t).2.2=0
  ·obtain⟨L,k,F,hq⟩:∃L k F,qflw kind t=(L,k,F):=⟨_,_,_,rfl⟩
   rw[hq] at hF ⊢;have hF:F=0:=hF;subst hF;exact(qugf hq).2.1
  ·rw[qjfk hF];exact Nat.zero_le _
 have h:¬t.length<(qflw kind t).2.1:=by omega
 simp[Cs.take,Cs.fail,h]
theorem qhjx(x:Cs)(f:Nat):(qveh x f).e=if x.e≠0 then x.e else if x.r≠[] then 5 else f:=by
 unfold qveh Cs.fail;by_cases he:x.e=0
 ·by_cases hr:x.r=[]
  ·simp[he,hr]
  ·simp[he,hr]
 ·simp[he]
def endB(p:Pk)(t:(Nat×List Pr×Nat)×Cs):Cs:=if t.2.r≠[]\/necA p<t.1.2.2 then t.2.fail 5 else t.2
theorem qiq9(y:Cs)(p:Pk)(f:Nat):(if y.e≠0 then y.e else if y.r≠[] then 5 else f)=if (endB p ((0,[],0),y)).e≠0 then(endB p ((0,[],0),y)).e else f:=by unfold endB Cs.fail;by_cases he:y.e=0<;>by_cases hr:y.r=[]<;>simp[he,hr]
theorem qn1g(v kind:Int)(y:Cs):(midB v kind y).1.1=(y.rest v kind).1.1/\(midB v kind y).1.2.1=(y.rest v kind).1.2/\
 ∀i f,(if (y.rest v kind).2.e≠0 then(y.rest v kind).2.e else if (y.rest v kind).2.r≠[] then 5 else f)=
  if (endB (pkB kind i (midB v kind y).1.1 (midB v kind y).1.2.1) (midB v kind y)).e≠0 then(endB (pkB kind i (midB v kind y).1.1 (midB v kind y).1.2.1) (midB v kind y)).e else f:=by
 obtain⟨r,e⟩:=y;unfold midB Cs.rest;by_cases h5:v=5
 ·subst h5;by_cases he:e=0
  ·subst he;rw[if_pos ⟨rfl,rfl⟩];cases r with
   |nil=>rw[if_pos (.inr (.inr rfl))];exact⟨rfl,rfl,fun i f=>qiq9 _ _ _⟩
   |cons b t=>
    rw[if_neg (by simp)];unfold qolc;rw[if_neg (show ¬(Cs.mk (b::t) 0).r=[] by simp)];simp only[Cs.num_one];cases t with
    |nil=>
     rw[if_pos rfl,if_pos rfl];refine⟨rfl,rfl,fun i f=>?_⟩;unfold endB necA pkB qzno Cs.fail;by_cases hz:b.toNat=0
     ·simp[hz]
     ·simp[hz]
    |cons c t=>
     rw[if_neg (by simp),if_neg (by simp),q1h8];obtain⟨L,k,F,hq⟩:∃L k F,qflw kind (c::t)=(L,k,F):=⟨_,_,_,rfl⟩
     have hp:(Cs.mk (c::t) 0).props 5 kind=(L,⟨(c::t).drop k,F⟩):=by simp[Cs.props,hq]
     rw[hp,hq];refine⟨rfl,rfl,fun i f=>?_⟩;by_cases hF:F=0
     ·subst hF;by_cases hd:(c::t).drop k=[]
      ·have hbk:=qugf hq;have htk:(q5aq kind L).1=c::t:=by have h3:=hbk.2.2;rw[List.take_of_length_le (List.drop_eq_nil_iff.1 hd)] at h3;exact h3
       have hb:UInt8.ofNat ((b.toNat:Nat):Int).toNat=b:=by simp
       simp only[hd];unfold endB necA pkB qzno Cs.fail;by_cases hL:L=[]
       ·subst hL;by_cases hz:b.toNat=0
        ·simp[hz]
        ·simp[hz]
       ·have hs:(if (5:Int)=5/\(((b.toNat:Nat):Int)≠0\/L≠[]) then UInt8.ofNat ((b.toNat:Nat):Int).toNat::(if L≠[] then(q5aq kind L).1 else []) else [])=b::c::t:=by rw[if_pos ⟨rfl,.inr hL⟩,if_pos hL,hb,htk]
        rw[hs];simp[hL]
      ·unfold endB Cs.fail;simp[hd]
     ·unfold endB Cs.fail;simp[hF]
  ·rw[if_neg (fun h=>he h.2),if_pos (.inr (.inl he))];exact⟨rfl,rfl,fun i f=>qiq9 _ _ _⟩
 ·rw[if_neg (fun h=>h5 h.1),if_pos (.inl h5)];exact⟨rfl,rfl,fun i f=>qiq9 _ _ _⟩
theorem qye3(v kind:Int)(s:Cs):(qts0 v kind s).1=(qngm v kind s).1:=by obtain⟨h1,h2,_⟩:=qn1g v kind (s.num 2).2;show pkB kind (s.num 2).1 (midB v kind (s.num 2).2).1.1 (midB v kind (s.num 2).2).1.2.1=pkB kind (s.num 2).1 ((s.num 2).2.rest v kind).1.1 ((s.num 2).2.rest v kind).1.2;rw[h1,h2]
theorem q2qi(v kind:Int)(s:Cs)(f:Nat):(qveh (qngm v kind s).2 f).e=if (qts0 v kind s).2.e≠0 then(qts0 v kind s).2.e else f:=by rw[qhjx];exact(qn1g v kind (s.num 2).2).2.2 (s.num 2).1 f
theorem q96o(v kind:Int)(l:List UInt8):q9uf v kind l=if (versC v&&qvya kind)=false then(Pk.zero,2) else
 let x:=qts0 v kind ⟨l,0⟩
 let e:=if x.2.e=0 then qryp v x.1 else x.2.e
 if e≠0 then(Pk.zero,e) else(x.1,0):=by
 unfold q9uf;split
 ·rfl
 ·simp only[q2qi,qye3];by_cases h:(qts0 v kind ⟨l,0⟩).2.e=0<;>simp[h]
end Go.Proofs.YtombgnfedafkjaaGreatDoor
namespace Go.Proofs.YtombgnfedafkjaaGreatDoor
open Lib(hid)
open Proofs.Tryz
open Go.RowKit
theorem qp2i{v kind:Int}{l:List Pr}(h:rightC v kind l=0):(tailC v kind l).length<=300000000:=by
 unfold tailC;unfold rightC at h;split
 ·rename_i h5;rw[if_pos h5] at h;obtain⟨_,_,_,h4⟩:=qpfx h;unfold q5aq;rw[if_neg (by simpa using h),List.length_append,q8sw]
  have:=qnl4 (q636 l).length h4
  omega
 ·exact Nat.zero_le _
end Go.Proofs.YtombgnfedafkjaaGreatDoor
namespace Go.Proofs.YtombgnfedafkjaaGreatDoor
open Lib(hid)
open Proofs.Tryz
theorem qxi6{v:Int}{p:Pk}(h:q1ra v p=0):rawK v p=q4py p.code p.props p.kind/\(rawK v p=[]↔p.code=0/\p.props=[]):=by
 obtain⟨hv,hk,h15,hu,hm,hr⟩:=qi0l h;unfold rawK;cases hp:q6gd v p.kind with
 |true=>
  have hc:p.code=0:=by rw[hu,usedK,hp];rfl
  have hl:p.props=[]:=by rw[hu,usedK,hp];rfl
  rw[if_pos rfl,hc,hl];refine⟨?_,by simp⟩;unfold q4py;split
  ·rfl
  ·simp[qzno]
 |false=>
  have h5:=qm9l hk hv h15 hp;obtain⟨c0,c1⟩:=qaiv (hm hp);have hvp:qpyu p.kind p.props=0:=by rw[rightC,if_pos h5] at hr;exact hr
  rw[if_neg (by decide)];refine⟨rfl,?_⟩;unfold q4py;rw[if_neg (by
   rintro(h|h|h)
   ·omega
   ·omega
   ·exact h hvp)]
  unfold qzno;by_cases hc:p.code=0<;>by_cases hl:p.props=[]<;>simp[hc,hl]
def pkT(kind:Int)(c:Nat)(l:List Pr):Pk:=pkB kind 0 c l
def qyjk(v k:Int):Bool×Nat:=if (versC v&&q5t0 k)=false then(false,2) else if k=15/\v=4 then(false,8) else(!q6gd v k,0)
def q6u6(kind:Int)(l:List UInt8):(Nat×List Pr)×Nat:=
 match l with
 |[]=>((0,[]),0)
 |b::t=>if t=[] then((b.toNat,[]),0) else((b.toNat,(qflw kind t).1),(qflw kind t).2.2)
def endK(kind:Int)(l:List UInt8):Nat:=
 if (q6u6 kind l).2≠0 then(q6u6 kind l).2 else if (q4py (q6u6 kind l).1.1 (q6u6 kind l).1.2 kind).length<l.length then 5 else 0
theorem qe40(k c:Int)(l:List Pr)(h0:¬(c=0/\l=[])):qzno 5 k c l=UInt8.ofNat c.toNat::(if l≠[] then(q5aq k l).1 else []):=by
 unfold qzno;refine if_pos ⟨rfl,?_⟩;by_cases h:c=0
 ·exact .inr fun e=>h0 ⟨h,e⟩
 ·exact .inl h
theorem qsg6(kind:Int)(l:List UInt8):(q6u6 kind l).1=((Cs.mk l 0).rest 5 kind).1/\
 ∀f,(qveh ((Cs.mk l 0).rest 5 kind).2 f).e=if endK kind l≠0 then endK kind l else f:=by
 unfold endK;cases l with
 |nil=>refine⟨rfl,fun f=>?_⟩;rw[qhjx];simp[Cs.rest,q6u6]
 |cons b t=>
  have hb0:=b.toNat_lt;have hb:UInt8.ofNat ((b.toNat:Nat):Int).toNat=b:=by simp
  have hr:(Cs.mk (b::t) 0).rest 5 kind=((b.toNat,(if t=[] then([],Cs.mk t 0) else(Cs.mk t 0).props 5 kind).1),if (if t=[] then([],Cs.mk t 0) else(Cs.mk t 0).props 5 kind).2.e=0/\(if t=[] then([],Cs.mk t 0) else(Cs.mk t 0).props 5 kind).2.r=[]/\qzno 5 kind b.toNat (if t=[] then([],Cs.mk t 0) else(Cs.mk t 0).props 5 kind).1≠b::t then(if t=[] then([],Cs.mk t 0) else(Cs.mk t 0).props 5 kind).2.fail 5 else(if t=[] then([],Cs.mk t 0) else(Cs.mk t 0).props 5 kind).2):=by unfold Cs.rest;rw[if_neg (by simp)];simp only[Cs.num_one]
  rw[hr];unfold q6u6;by_cases ht:t=[]
  ·subst ht;simp only[if_true];refine⟨trivial,fun f=>?_⟩;rw[qhjx];have e:q4py (b.toNat:Nat) [] kind=qzno 5 kind (b.toNat:Nat) []:=by
    unfold q4py;rw[if_neg (by
     rintro(h|h|h)
     ·omega
     ·omega
     ·exact h rfl)]
   rw[e];by_cases hz:b.toNat=0
   ·simp[qzno,hz,Cs.fail]
   ·simp[qzno,hz]
  ·simp only[if_neg ht];obtain⟨L,k,F,hq⟩:∃L k F,qflw kind t=(L,k,F):=⟨_,_,_,rfl⟩
   have hp:(Cs.mk t 0).props 5 kind=(L,⟨t.drop k,F⟩):=by simp[Cs.props,hq]
   rw[hp,hq];refine⟨rfl,fun f=>?_⟩;rw[qhjx];by_cases hF:F=0
   ·subst hF;obtain⟨hv,hk,hbk⟩:=qugf hq;have e:q4py (b.toNat:Nat) L kind=qzno 5 kind (b.toNat:Nat) L:=by
     unfold q4py;rw[if_neg (by
      rintro(h|h|h)
      ·omega
      ·omega
      ·exact h hv)]
    simp only[e];have hn:t.length≠0:=fun e=>ht (List.length_eq_zero_iff.1 e);by_cases hL:L=[]
    ·subst hL;have hsl:(qzno 5 kind ((b.toNat:Nat):Int) []).length<t.length+1:=by unfold qzno;split<;>simp<;>omega
     have hne:qzno 5 kind ((b.toNat:Nat):Int) []≠b::t:=fun e=>by rw[e] at hsl;simp at hsl
     by_cases hd:t.drop k=[]
     ·simp[hd,hne,hsl,Cs.fail]
     ·simp[hd,hsl]
    ·have hs:qzno 5 kind ((b.toNat:Nat):Int) L=b::t.take k:=by rw[qe40 _ _ _ (fun h=>hL h.2),if_pos hL,hb,hbk]
     rw[hs];by_cases hd:t.drop k=[]
     ·have htk:t.take k=t:=List.take_of_length_le (List.drop_eq_nil_iff.1 hd);simp[hd,htk]
     ·have hlt:k<t.length:=by
       rcases Nat.lt_or_ge k t.length with h|h
       ·exact h
       ·exact absurd (List.drop_eq_nil_iff.2 h) hd
      have hm:min k t.length<t.length:=by omega
      simp[hd,hm]
   ·simp[hF]
theorem q0pt(v kind:Int)(l:List UInt8)(hp:q6gd v kind=false)(h5:v=5):(q9kh v kind ⟨l,0⟩).1=pkT kind (q6u6 kind l).1.1 (q6u6 kind l).1.2:=by
 subst h5;unfold q9kh;rw[hp,if_neg (by decide),(qsg6 kind l).1]
 rfl
theorem q54j(v kind:Int)(l:List UInt8):qf4x v kind l=
 if (qyjk v kind).2≠0 then(Pk.zero,(qyjk v kind).2)
 else if (qyjk v kind).1=false/\l≠[] then(Pk.zero,5)
 else
  let x:=pkT kind (q6u6 kind l).1.1 (q6u6 kind l).1.2
  let e:=if endK kind l≠0 then endK kind l else q1ra v x
  if e≠0 then(Pk.zero,e) else(x,0):=by
 unfold qf4x qyjk;by_cases h1:(versC v&&q5t0 kind)=false
 ·rw[if_pos h1,if_pos h1];rfl
 rw[if_neg h1,if_neg h1];by_cases h2:kind=15/\v=4
 ·rw[if_pos h2,if_pos h2];rfl
 rw[if_neg h2,if_neg h2];simp only[ne_eq,not_true_eq_false,if_false];rw[Bool.not_eq_false,Bool.and_eq_true] at h1;simp only[versC,q5t0,Bool.or_eq_true,Bool.and_eq_true,beq_iff_eq,decide_eq_true_eq] at h1;cases hp:q6gd v kind with
 |false=>
  have h5:=qm9l h1.2 h1.1 h2 hp;have e:=qsg6 kind l;have e2:(q9kh v kind ⟨l,0⟩).2=((Cs.mk l 0).rest 5 kind).2:=by unfold q9kh;rw[hp,if_neg (by decide),h5]
  rw[q0pt v kind l hp h5,e2];simp only[e.2];simp
 |true=>
  have e1:q9kh v kind ⟨l,0⟩=({Pk.zero with kind:=kind},⟨l,0⟩):=by unfold q9kh;rw[hp,if_pos rfl]
  rw[e1];simp only[qhjx];cases l with
  |nil=>
   have:pkT kind (q6u6 kind []).1.1 (q6u6 kind []).1.2={Pk.zero with kind:=kind}:=rfl
   have e0:endK kind []=0:=by
    have:=(qsg6 kind []).2 0
    rw[qhjx] at this;by_cases h:endK kind []=0
    ·exact h
    ·rw[if_pos h] at this;simp[Cs.rest] at this;exact this
   simp[this,e0]
  |cons b t=>simp
end Go.Proofs.YtombgnfedafkjaaGreatDoor
namespace Go.Proofs.YtombgnfedafkjaaGreatDoor
open Lib(hid)
open Proofs.Tryz
open Go.Maps (Keyed)
open Go.RowKit
def hasK:List (Int×Value)->Int->Bool
 |[],_=>false
 |p::l,i=>if i=p.1 then true else hasK l i
def qwau(P:Program)(k:TypeId)(w:World)(b:Nat)(z:Value)(l:List (Int×Value)):Prop:=
 ∃D:DataW Value,w.ownsMap P k qaha b l.length D/\(∀i,D.atKey (.int .i64 i) (.held z)=.held (q1n3 z l i))/\∀i,Maps.has D (.int .i64 i)=hasK l i
section
variable{P:Program}{k e t:TypeId}{w w':World}{b:Nat}{z:Value}{l:List (Int×Value)}
theorem qwau.of_block(h:qwau P k w b z l)(hb:w'.heap[b]?=w.heap[b]?):qwau P k w' b z l:=by obtain⟨D,⟨es,c,h1,h2⟩,h3⟩:=h;exact⟨D,⟨es,c,hb.trans h1,h2⟩,h3⟩
theorem qwau.made(w:World)(P:Program)(k:TypeId)(z:Value):qwau P k (w.alloc (.map #[] 0)) w.heap.size z []:=
 ⟨_,World.ownsMap_made _ _ _ _,fun _=>rfl,fun _=>rfl⟩
theorem qwau.look(h:qwau P k w b z l)(hk:P.underlying k=some (.int .i64))(ht:P.underlying t=some (.map k e))(hz:(zeroValue e).run P w=.ok z w){i:Int}(hi:(Lit.int .i64 i).wf=true) :
 (Instr.lookup t (.map (some b)) (.int .i64 i) true).run P w=.ok (.tuple #[q1n3 z l i,.bool (hasK l i)]) w:=by
 obtain⟨D,h1,h2,h3⟩:=h;obtain⟨v,ps,hrun,hv⟩:=h1.look_ok (Maps.int_keyed hk) ht hz (show qaha z=some (.held z,[]) from rfl) (Maps.keyOf_int_mk hk hi);rw[h2] at hv
 have:v=q1n3 z l i:=by unfold qaha at hv;simp only[Option.some.injEq,Prod.mk.injEq,DataW.held.injEq] at hv;exact hv.1
 rw[hrun,this,h3]
theorem qwau.put(h:qwau P k w b z l)(hk:P.underlying k=some (.int .i64))(ht:P.underlying t=some (.map k e))(hn:l.length<maxLen){i:Int}(hi:(Lit.int .i64 i).wf=true)(v:Value) :
 ∃w',(Instr.mapUpdate t (.map (some b)) (.int .i64 i) v).run P w=.ok () w'/\qwau P k w' b z ((i,v)::l)/\w.grownBy w' (some b):=by
 obtain⟨D,h1,h2,h4⟩:=h;have hD:Maps.IsMap D:=by obtain⟨es,c,_,_,_,e⟩:=h1;exact⟨_,e⟩
 obtain⟨w',r1,r2,r3⟩:=h1.update (Maps.int_keyed hk) ht hn (Maps.keyOf_int_mk hk hi) (show qaha v=some (.held v,[]) from rfl);refine⟨w',r1,⟨_,r2,fun j=>?_,fun j=>?_⟩,r3⟩
 ·show _=DataW.held (if j=i then v else q1n3 z l j);by_cases e:j=i
  ·subst e;rw[if_pos rfl,Maps.atKey_put_same hD (show WideAt.IsKeyLit (.int .i64 j) from trivial)]
  ·rw[if_neg e,Maps.atKey_put_other (fun x=>e (by cases x;rfl)),h2]
 ·show _=if j=i then true else hasK l j;by_cases e:j=i
  ·subst e;rw[if_pos rfl,Maps.has_put_same hD (show WideAt.IsKeyLit (.int .i64 j) from trivial)]
  ·rw[if_neg e,Maps.has_put_other (fun x=>e (by cases x;rfl)),h4]
def qpdk(P:Program)(k:TypeId)(w0 w:World)(b:Nat)(z:Value)(l:List (Int×Value)):Prop:=qwau P k w b z l/\Below w0.heap.size w0 w/\w0.heap.size<=b
theorem q6d2{ops:Array Oper}{rest:List Oper}{o:Oper}{a:Act}{Q:Exit->Act->World->Prop}{w0:World}
 (hg:o.guard=none) (m x v:Operand) (t:TypeId) (hop:o.op=Op.insert t m x v) (k e:TypeId) (hk:P.underlying k=some (.int .i64)) (ht:P.underlying t=some (.map k e))
 (b:Nat) (z:Value) (l:List (Int×Value)) (hm:a.eval m=.map (some b)) (h:qpdk P k w0 w b z l) (hn:l.length<maxLen) (i:Int) (val:Value) (hx:a.eval x=.int .i64 i) (hv:a.eval v=val) (hi:(Lit.int .i64 i).wf=true)
 (hK:∀w',qpdk P k w0 w' b z ((i,val)::l)->wpList P ops Q rest (a.put o.dst undef) w') :
 wpList P ops Q (o::rest) a w:=by
 refine wpList_plain hg fun K' hK'=>?_;obtain⟨h1,h2,h3⟩:=h;obtain⟨w',hrun,r1,r2⟩:=h1.put hk ht hn hi val;unfold Oper.wp;simp[execOp,hop,hm,hx,hv,hrun,Result.andThen];exact hK' _ _ (hK w' ⟨r1,h2.grown r2 h2.size (fun j hj=>by cases hj;exact h3),h3⟩)
end
end Go.Proofs.YtombgnfedafkjaaGreatDoor
namespace Go.Proofs.YtombgnfedafkjaaGreatDoor
open Lib(hid)
open Proofs.Tryz
open Go.RowKit
theorem qgtk(A B:Option Addr)(na nb c d:Nat)(l m:List Pr)(w:World)(hA:PL w A l)(hB:PL w B m)(hla:l.length=na)(hlb:m.length=nb)(hN:na<=70000)(hM:nb<=70000) :
 Calls prog 29 #[.slice A na c,.slice B nb d] w fun e w'=>e=.returned (.bool (decide (l=m)))/\∃k,w'=w.drewN k:=by
 by_cases hn:na=nb
 ·subst hn;obtain⟨D,hD⟩:∃D,decide (l=m)=D:=⟨_,rfl⟩
  rw[hD];have HD:=hid hD;have HA:=hid hA;have HB:=hid hB;have HLA:=hid hla;have HLB:=hid hlb;have q0:(na:Int)<=70000:=by omega
  clear hA hB hla hlb hN hM hD;go_in;go_wp2_with fail
  go_loopg [5] na (fun gk i wr=>∃k x:Nat,k<=na/\gk=na-k/\i=.int .i64 (k:Int)/\wr=w.drewN x/\∀j p q,j<k->l[j]?=some p->m[j]?=some q->p=q)
  case atStart=>exact⟨0,0,Nat.zero_le _,rfl,rfl,rfl,fun j p q h=>by omega⟩
  case round=>
   obtain⟨k,x,hk,rfl,rfl,rfl,hS⟩:=hrel;have HS:=hid hS;by_cases hlt:k<na
   ·have hkl:k<l.length:=by rw[HLA.out];exact hlt
    have hkm:k<m.length:=by rw[HLB.out];exact hlt
    obtain⟨p,hp⟩:∃p,l[k]?=some p:=⟨_,List.getElem?_eq_getElem hkl⟩
    obtain⟨q,hq⟩:∃q,m[k]?=some q:=⟨_,List.getElem?_eq_getElem hkm⟩
    obtain⟨ga,ia,rfl,_,a0,a1,a2,a3⟩:=HA.out.at hp;obtain⟨gb,ib,rfl,_,b0,b1,b2,b3⟩:=HB.out.at hq;have HP:=hid hp;have HQ:=hid hq;have HL:=hid hlt;have g1:(k:Int)<(na:Int):=by omega
    have hno:p≠q->D=false:=fun h=>by rw[<-HD.out];exact decide_eq_false fun e=>h (by subst e;exact Option.some.inj (HP.out.symm.trans HQ.out))
    have HNO:=hid hno;clear hS hkl hkm hp hq hlt hk hno;rcases qzlf p q with h|h|⟨h1,h2⟩|⟨h1,h2,h3⟩|⟨h1,h2,h3,h4⟩
    ·subst h;generalize p.id=x0 at a0 b0;generalize ((p.n:Nat):Int)=x1 at a1 b1;generalize bs p.text=x2 at a2 b2;generalize bs p.value=x3 at a3 b3;go_wp2_with fail;go_quiet (fail);go_wp2_with fail
     go_roundg (na-(k+1))
     case measure=>have:=HL.out;omega
     case rel=>
      refine⟨k+1,_,by have:=HL.out;omega,rfl,by go_num,rfl,fun j u v hj hu hv=>?_⟩;by_cases hjk:j=k
      ·subst hjk;exact Option.some.inj ((hu.symm.trans HP.out).trans (HQ.out.symm.trans hv))
      ·exact HS.out j u v (by omega) hu hv
    ·have hD:=HNO.out (fun e=>by rw[e] at h;simp at h);subst hD;generalize p.id=x0 at *;generalize ((p.n:Nat):Int)=x1 at *;generalize bs p.text=x2 at *;generalize bs p.value=x3 at *;generalize q.id=y0 at *;generalize ((q.n:Nat):Int)=y1 at *;generalize bs q.text=y2 at *;generalize bs q.value=y3 at *;go_wp2_with fail;go_quiet (fail);go_wp2;go_ret;exact⟨rfl,_,qgiq _ _ _⟩
    ·have hD:=HNO.out (fun e=>by rw[e] at h2;simp at h2);subst hD;rw[h1] at a0;clear h1;generalize p.id=x0 at *;generalize ((p.n:Nat):Int)=x1 at *;generalize bs p.text=x2 at *;generalize bs p.value=x3 at *;generalize q.id=y0 at *;generalize ((q.n:Nat):Int)=y1 at *;generalize bs q.text=y2 at *;generalize bs q.value=y3 at *;go_wp2_with fail;go_quiet (fail);go_wp2;go_ret;exact⟨rfl,_,qgiq _ _ _⟩
    ·have hD:=HNO.out (fun e=>by rw[e] at h3;simp at h3);subst hD;rw[h1] at a0;rw[h2] at a1;clear h1 h2;generalize p.id=x0 at *;generalize ((p.n:Nat):Int)=x1 at *;generalize bs p.text=x2 at *;generalize bs p.value=x3 at *;generalize q.id=y0 at *;generalize ((q.n:Nat):Int)=y1 at *;generalize bs q.text=y2 at *;generalize bs q.value=y3 at *;go_wp2_with fail;go_quiet (fail);go_wp2;go_ret;exact⟨rfl,_,qgiq _ _ _⟩
    ·have hD:=HNO.out (fun e=>by rw[e] at h4;simp at h4);subst hD;rw[h1] at a0;rw[h2] at a1;rw[h3] at a2;clear h1 h2 h3;generalize p.id=x0 at *;generalize ((p.n:Nat):Int)=x1 at *;generalize bs p.text=x2 at *;generalize bs p.value=x3 at *;generalize q.id=y0 at *;generalize ((q.n:Nat):Int)=y1 at *;generalize bs q.text=y2 at *;generalize bs q.value=y3 at *;go_wp2_with fail;go_quiet (fail);go_wp2;go_ret;exact⟨rfl,_,qgiq _ _ _⟩
   ·obtain rfl:k=na:=by omega
    have hD:D=true:=by rw[<-HD.out];exact decide_eq_true (qs8g HLA.out HLB.out hS)
    subst hD;clear hS hlt hk;go_wp2;go_ret;exact⟨rfl,_,rfl⟩
 ·have hD:decide (l=m)=false:=decide_eq_false fun e=>hn (by rw[<-hla,<-hlb,e]);have q0:((na:Int) != (nb:Int))=true:=by rw[bne_iff_ne];omega
  rw[hD];clear hA hB hla hlb hN hM hD hn;go_in;go_wp2;go_ret;exact⟨rfl,0,rfl⟩
theorem qfzm(A B:Option Addr)(na nb c d:Nat)(l m:List Int)(w:World)(hA:CL w A (ics l))(hB:CL w B (ics m))(hla:l.length=na)(hlb:m.length=nb)(hN:na<=70000)(hM:nb<=70000) :
 Calls prog 27 #[.slice A na c,.slice B nb d] w fun e w'=>e=.returned (.bool (decide (l=m)))/\∃k,w'=w.drewN k:=by
 by_cases hn:na=nb
 ·subst hn;obtain⟨D,hD⟩:∃D,decide (l=m)=D:=⟨_,rfl⟩
  rw[hD];have HD:=hid hD;have HA:=hid hA;have HB:=hid hB;have HLA:=hid hla;have HLB:=hid hlb;have q0:(na:Int)<=70000:=by omega
  clear hA hB hla hlb hN hM hD;go_in;go_wp2_with fail
  go_loopg [5] na (fun gk i wr=>∃k x:Nat,k<=na/\gk=na-k/\i=.int .i64 (k:Int)/\wr=w.drewN x/\∀j p q,j<k->l[j]?=some p->m[j]?=some q->p=q)
  case atStart=>exact⟨0,0,Nat.zero_le _,rfl,rfl,rfl,fun j p q h=>by omega⟩
  case round=>
   obtain⟨k,x,hk,rfl,rfl,rfl,hS⟩:=hrel;have HS:=hid hS;by_cases hlt:k<na
   ·have hkl:k<l.length:=by rw[HLA.out];exact hlt
    have hkm:k<m.length:=by rw[HLB.out];exact hlt
    obtain⟨p,hp⟩:∃p,l[k]?=some p:=⟨_,List.getElem?_eq_getElem hkl⟩
    obtain⟨q,hq⟩:∃q,m[k]?=some q:=⟨_,List.getElem?_eq_getElem hkm⟩
    obtain⟨ga,ia,rfl,_,a0⟩:=HA.out.int hp;obtain⟨gb,ib,rfl,_,b0⟩:=HB.out.int hq;have HP:=hid hp;have HQ:=hid hq;have HL:=hid hlt;have g1:(k:Int)<(na:Int):=by omega
    have hno:p≠q->D=false:=fun h=>by rw[<-HD.out];exact decide_eq_false fun e=>h (by subst e;exact Option.some.inj (HP.out.symm.trans HQ.out))
    have HNO:=hid hno;clear hS hkl hkm hp hq hlt hk hno;rcases qd1x p q with h|h
    ·subst h;go_wp2_with fail;go_quiet (fail);go_wp2_with fail
     go_roundg (na-(k+1))
     case measure=>have:=HL.out;omega
     case rel=>
      refine⟨k+1,_,by have:=HL.out;omega,rfl,by go_num,rfl,fun j u v hj hu hv=>?_⟩;by_cases hjk:j=k
      ·subst hjk;exact Option.some.inj ((hu.symm.trans HP.out).trans (HQ.out.symm.trans hv))
      ·exact HS.out j u v (by omega) hu hv
    ·have hD:=HNO.out (fun e=>by rw[e] at h;simp at h);subst hD;go_wp2_with fail;go_quiet (fail);go_wp2;go_ret;exact⟨rfl,_,qgiq _ _ _⟩
   ·obtain rfl:k=na:=by omega
    have hD:D=true:=by rw[<-HD.out];exact decide_eq_true (qs8g HLA.out HLB.out hS)
    subst hD;clear hS hlt hk;go_wp2;go_ret;exact⟨rfl,_,rfl⟩
 ·have hD:decide (l=m)=false:=decide_eq_false fun e=>hn (by rw[<-hla,<-hlb,e]);have q0:((na:Int) != (nb:Int))=true:=by rw[bne_iff_ne];omega
  rw[hD];clear hA hB hla hlb hN hM hD hn;go_in;go_wp2;go_ret;exact⟨rfl,0,rfl⟩
theorem qoah(A B:Option Addr)(na nb c d:Nat)(l m:List Fi)(w:World)(hA:CL w A (fcs l))(hB:CL w B (fcs m))(hla:l.length=na)(hlb:m.length=nb)(hN:na<=70000)(hM:nb<=70000) :
 Calls prog 28 #[.slice A na c,.slice B nb d] w fun e w'=>e=.returned (.bool (decide (l=m)))/\∃k,w'=w.drewN k:=by
 by_cases hn:na=nb
 ·subst hn;obtain⟨D,hD⟩:∃D,decide (l=m)=D:=⟨_,rfl⟩
  rw[hD];have HD:=hid hD;have HA:=hid hA;have HB:=hid hB;have HLA:=hid hla;have HLB:=hid hlb;have q0:(na:Int)<=70000:=by omega
  clear hA hB hla hlb hN hM hD;go_in;go_wp2_with fail
  go_loopg [5] na (fun gk i wr=>∃k x:Nat,k<=na/\gk=na-k/\i=.int .i64 (k:Int)/\wr=w.drewN x/\∀j p q,j<k->l[j]?=some p->m[j]?=some q->p=q)
  case atStart=>exact⟨0,0,Nat.zero_le _,rfl,rfl,rfl,fun j p q h=>by omega⟩
  case round=>
   obtain⟨k,x,hk,rfl,rfl,rfl,hS⟩:=hrel;have HS:=hid hS;by_cases hlt:k<na
   ·have hkl:k<l.length:=by rw[HLA.out];exact hlt
    have hkm:k<m.length:=by rw[HLB.out];exact hlt
    obtain⟨p,hp⟩:∃p,l[k]?=some p:=⟨_,List.getElem?_eq_getElem hkl⟩
    obtain⟨q,hq⟩:∃q,m[k]?=some q:=⟨_,List.getElem?_eq_getElem hkm⟩
    obtain⟨ga,ia,rfl,_,a0,a1,a2,a3,a4⟩:=HA.out.fi hp;obtain⟨gb,ib,rfl,_,b0,b1,b2,b3,b4⟩:=HB.out.fi hq;have HP:=hid hp;have HQ:=hid hq;have HL:=hid hlt;have g1:(k:Int)<(na:Int):=by omega
    have hno:p≠q->D=false:=fun h=>by rw[<-HD.out];exact decide_eq_false fun e=>h (by subst e;exact Option.some.inj (HP.out.symm.trans HQ.out))
    have HNO:=hid hno;clear hS hkl hkm hp hq hlt hk hno;rcases qpuj p q with h|h|⟨h1,h2⟩|⟨h1,h2,h3⟩|⟨h1,h2,h3,h4⟩|⟨h1,h2,h3,h4,h5⟩
    ·subst h;generalize bs p.topic=x0 at a0 b0;generalize p.qos=x1 at a1 b1;generalize p.noLocal=x2 at a2 b2;generalize p.asPub=x3 at a3 b3;generalize p.handling=x4 at a4 b4;go_wp2_with fail;go_quiet (fail);go_wp2_with fail
     go_roundg (na-(k+1))
     case measure=>have:=HL.out;omega
     case rel=>
      refine⟨k+1,_,by have:=HL.out;omega,rfl,by go_num,rfl,fun j u v hj hu hv=>?_⟩;by_cases hjk:j=k
      ·subst hjk;exact Option.some.inj ((hu.symm.trans HP.out).trans (HQ.out.symm.trans hv))
      ·exact HS.out j u v (by omega) hu hv
    ·have hD:=HNO.out (fun e=>by rw[e] at h;simp at h);subst hD;generalize bs p.topic=x0 at *;generalize p.qos=x1 at *;generalize p.noLocal=x2 at *;generalize p.asPub=x3 at *;generalize p.handling=x4 at *;generalize bs q.topic=y0 at *;generalize q.qos=y1 at *;generalize q.noLocal=y2 at *;generalize q.asPub=y3 at *;generalize q.handling=y4 at *;go_wp2_with fail;go_quiet (fail);go_wp2;go_ret;exact⟨rfl,_,qgiq _ _ _⟩
    ·have hD:=HNO.out (fun e=>by rw[e] at h2;simp at h2);subst hD;rw[h1] at a0;clear h1;generalize bs p.topic=x0 at *;generalize p.qos=x1 at *;generalize p.noLocal=x2 at *;generalize p.asPub=x3 at *;generalize p.handling=x4 at *;generalize bs q.topic=y0 at *;generalize q.qos=y1 at *;generalize q.noLocal=y2 at *;generalize q.asPub=y3 at *;generalize q.handling=y4 at *;go_wp2_with fail;go_quiet (fail);go_wp2;go_ret;exact⟨rfl,_,qgiq _ _ _⟩
    ·have hD:=HNO.out (fun e=>by rw[e] at h3;simp at h3);subst hD;rw[h1] at a0;rw[h2] at a1;clear h1 h2;generalize bs p.topic=x0 at *;generalize p.qos=x1 at *;generalize p.noLocal=x2 at *;generalize p.asPub=x3 at *;generalize p.handling=x4 at *;generalize bs q.topic=y0 at *;generalize q.qos=y1 at *;generalize q.noLocal=y2 at *;generalize q.asPub=y3 at *;generalize q.handling=y4 at *;go_wp2_with fail;go_quiet (fail);go_wp2;go_ret;exact⟨rfl,_,qgiq _ _ _⟩
    ·have hD:=HNO.out (fun e=>by rw[e] at h4;simp at h4);subst hD;rw[h1] at a0;rw[h2] at a1;rw[h3] at a2;clear h1 h2 h3;generalize bs p.topic=x0 at *;generalize p.qos=x1 at *;generalize p.noLocal=x2 at *;generalize p.asPub=x3 at *;generalize p.handling=x4 at *;generalize bs q.topic=y0 at *;generalize q.qos=y1 at *;generalize q.noLocal=y2 at *;generalize q.asPub=y3 at *;generalize q.handling=y4 at *;go_wp2_with fail;go_quiet (fail);go_wp2;go_ret;exact⟨rfl,_,qgiq _ _ _⟩
    ·have hD:=HNO.out (fun e=>by rw[e] at h5;simp at h5);subst hD;rw[h1] at a0;rw[h2] at a1;rw[h3] at a2;rw[h4] at a3;clear h1 h2 h3 h4;generalize bs p.topic=x0 at *;generalize p.qos=x1 at *;generalize p.noLocal=x2 at *;generalize p.asPub=x3 at *;generalize p.handling=x4 at *;generalize bs q.topic=y0 at *;generalize q.qos=y1 at *;generalize q.noLocal=y2 at *;generalize q.asPub=y3 at *;generalize q.handling=y4 at *;go_wp2_with fail;go_quiet (fail);go_wp2;go_ret;exact⟨rfl,_,qgiq _ _ _⟩
   ·obtain rfl:k=na:=by omega
    have hD:D=true:=by rw[<-HD.out];exact decide_eq_true (qs8g HLA.out HLB.out hS)
    subst hD;clear hS hlt hk;go_wp2;go_ret;exact⟨rfl,_,rfl⟩
 ·have hD:decide (l=m)=false:=decide_eq_false fun e=>hn (by rw[<-hla,<-hlb,e]);have q0:((na:Int) != (nb:Int))=true:=by rw[bne_iff_ne];omega
  rw[hD];clear hA hB hla hlb hN hM hD hn;go_in;go_wp2;go_ret;exact⟨rfl,0,rfl⟩
theorem q08q(t u:ByteArray)(q:Int)(r:Bool)(A B:Option Addr)(n c d:Nat)(l:List Pr)(w:World)(hA:PL w A l)(hB:PL w B l)(hn:l.length=n)(hl:n<=70000) :
 Calls prog 26 #[.agg #[.string t,.string u,.int .i64 q,.bool r,.slice A n c],.agg #[.string t,.string u,.int .i64 q,.bool r,.slice B n d]] w fun e w'=>e=.returned (.bool true)/\Below w.heap.size w w':=by
 have HB:=hid (fun o o'=>qxh2 (qybm (w:=w) o) (qybm o'));have EQ:=hid (fun o o'=>qgtk A B n n c d l l ((w.alloc o).alloc o') (hA.below (qxh2 (qybm _) (qybm _))) (hB.below (qxh2 (qybm _) (qybm _))) hn hn hl hl);simp only[decide_true] at EQ;clear hA hB hn hl;go_in;go_wp2_with fail;refine(EQ.out _ _).mono ?_;rintro e w1 ⟨rfl,m,rfl⟩;go_wp2;go_ret;exact⟨rfl,qnpu (HB.out _ _) m⟩
theorem qbsf(p:Pk)(a b:Ad)(w:World)(hp:PkAt w p a)(hq:PkAt w p b)(h1:p.codes.length<=70000)(h2:p.filters.length<=70000)(h3:p.props.length<=70000)(h4:p.wProps.length<=70000) :
 Calls prog 15 #[pkV p a,pkV p b] w fun e w'=>e=.returned (.bool true)/\Below w.heap.size w w':=by
 have hbx:Below w.heap.size w ((w.alloc (.cells (pkC p a) 32)).alloc (.cells (pkC p b) 32)):=qxh2 (qybm _) (qybm _);have HB:=hid hbx;have WL:=fun W (hb:Below w.heap.size w W)=>q08q (bs p.wTopic) (bs p.wPayload) p.wQos p.wRetain a.w b.w p.wProps.length a.wc b.wc p.wProps W (hp.w.below hb) (hq.w.below hb) rfl h4;have CO:=fun W (hb:Below w.heap.size w W)=>qfzm a.cs b.cs _ _ a.cc b.cc p.codes p.codes W (hp.cs.below hb) (hq.cs.below hb) rfl rfl h1 h1;have FI:=fun W (hb:Below w.heap.size w W)=>qoah a.fs b.fs _ _ a.fc b.fc p.filters p.filters W (hp.fs.below hb) (hq.fs.below hb) rfl rfl h2 h2;have PR:=fun W (hb:Below w.heap.size w W)=>qgtk a.ps b.ps _ _ a.pc b.pc p.props p.props W (hp.ps.below hb) (hq.ps.below hb) rfl rfl h3 h3;simp only[decide_true] at CO FI PR;have GA:=hid (heap_alloc2_old w (.cells (pkC p a) 32) (.cells (pkC p b) 32));have GB:=hid (heap_alloc2_new w (.cells (pkC p a) 32) (.cells (pkC p b) 32));clear hbx hp hq h1 h2 h3 h4;unfold pkV;have c0:(pkC p a)[0]?=some (.int .i64 p.kind):=rfl;have c1:(pkC p a)[1]?=some (.bool p.dup):=rfl;have c2:(pkC p a)[2]?=some (.bool p.retain):=rfl;have c3:(pkC p a)[3]?=some (.int .i64 p.qos):=rfl;have c4:(pkC p a)[4]?=some (.int .i64 p.id):=rfl;have c5:(pkC p a)[5]?=some (.string (bs p.topic)):=rfl;have c6:(pkC p a)[6]?=some (.string (bs p.payload)):=rfl;have c7:(pkC p a)[7]?=some (.bool p.clean):=rfl;have c8:(pkC p a)[8]?=some (.int .i64 p.keep):=rfl;have c9:(pkC p a)[9]?=some (.string (bs p.client)):=rfl;have c10:(pkC p a)[10]?=some (.bool p.hasUser):=rfl;have c11:(pkC p a)[11]?=some (.string (bs p.user)):=rfl;have c12:(pkC p a)[12]?=some (.bool p.hasPass):=rfl;have c13:(pkC p a)[13]?=some (.string (bs p.pass)):=rfl;have c14:(pkC p a)[14]?=some (.bool p.hasWill):=rfl;have c15:(pkC p a)[15]?=some (.string (bs p.wTopic)):=rfl;have c16:(pkC p a)[16]?=some (.string (bs p.wPayload)):=rfl;have c17:(pkC p a)[17]?=some (.int .i64 p.wQos):=rfl;have c18:(pkC p a)[18]?=some (.bool p.wRetain):=rfl;have c19:(pkC p a)[19]?=some (.slice a.w p.wProps.length a.wc):=rfl;have c20:(pkC p a)[20]?=some (.bool p.session):=rfl;have c21:(pkC p a)[21]?=some (.int .i64 p.code):=rfl;have c22:(pkC p a)[22]?=some (.slice a.cs p.codes.length a.cc):=rfl;have c23:(pkC p a)[23]?=some (.slice a.fs p.filters.length a.fc):=rfl;have c24:(pkC p a)[24]?=some (.slice a.ps p.props.length a.pc):=rfl;have e0:(pkC p b)[0]?=some (.int .i64 p.kind):=rfl;have e1:(pkC p b)[1]?=some (.bool p.dup):=rfl;have e2:(pkC p b)[2]?=some (.bool p.retain):=rfl;have e3:(pkC p b)[3]?=some (.int .i64 p.qos):=rfl;have e4:(pkC p b)[4]?=some (.int .i64 p.id):=rfl;have e5:(pkC p b)[5]?=some (.string (bs p.topic)):=rfl;have e6:(pkC p b)[6]?=some (.string (bs p.payload)):=rfl;have e7:(pkC p b)[7]?=some (.bool p.clean):=rfl;have e8:(pkC p b)[8]?=some (.int .i64 p.keep):=rfl;have e9:(pkC p b)[9]?=some (.string (bs p.client)):=rfl;have e10:(pkC p b)[10]?=some (.bool p.hasUser):=rfl;have e11:(pkC p b)[11]?=some (.string (bs p.user)):=rfl;have e12:(pkC p b)[12]?=some (.bool p.hasPass):=rfl;have e13:(pkC p b)[13]?=some (.string (bs p.pass)):=rfl;have e14:(pkC p b)[14]?=some (.bool p.hasWill):=rfl;have e15:(pkC p b)[15]?=some (.string (bs p.wTopic)):=rfl;have e16:(pkC p b)[16]?=some (.string (bs p.wPayload)):=rfl;have e17:(pkC p b)[17]?=some (.int .i64 p.wQos):=rfl;have e18:(pkC p b)[18]?=some (.bool p.wRetain):=rfl;have e19:(pkC p b)[19]?=some (.slice b.w p.wProps.length b.wc):=rfl;have e20:(pkC p b)[20]?=some (.bool p.session):=rfl;have e21:(pkC p b)[21]?=some (.int .i64 p.code):=rfl;have e22:(pkC p b)[22]?=some (.slice b.cs p.codes.length b.cc):=rfl;have e23:(pkC p b)[23]?=some (.slice b.fs p.filters.length b.fc):=rfl;have e24:(pkC p b)[24]?=some (.slice b.ps p.props.length b.pc):=rfl;generalize pkC p a=C at *;generalize pkC p b=E at *;generalize p.kind=v0 at *;generalize p.dup=v1 at *;generalize p.retain=v2 at *;generalize p.qos=v3 at *;generalize p.id=v4 at *;generalize bs p.topic=v5 at *;generalize bs p.payload=v6 at *;generalize p.clean=v7 at *;generalize p.keep=v8 at *;generalize bs p.client=v9 at *;generalize p.hasUser=v10 at *;generalize bs p.user=v11 at *;generalize p.hasPass=v12 at *;generalize bs p.pass=v13 at *;generalize p.hasWill=v14 at *;generalize bs p.wTopic=v15 at *;generalize bs p.wPayload=v16 at *;generalize p.wQos=v17 at *;generalize p.wRetain=v18 at *;generalize p.session=v20 at *;generalize p.code=v21 at *;generalize p.wProps.length=n19 at *;generalize p.codes.length=n22 at *;generalize p.filters.length=n23 at *;generalize p.props.length=n24 at *;have WL:=hid WL;have CO:=hid CO;have FI:=hid FI;have PR:=hid PR;go_in;go_wp2_with fail;refine(WL.out _ HB.out).mono ?_;rintro e W1 ⟨rfl,hb⟩;have B1:=hid (qxh2 HB.out hb);have GA1:=hid ((hb.block _ (lt_of_block GA.out)).trans GA.out);have GB1:=hid ((hb.block _ (lt_of_block GB.out)).trans GB.out);clear hb;have c0':W1.cell? ⟨w.heap.size,0,none⟩=_:=(cell_of_row _ _ 0 _ _ _ GA1.out).trans c0;have c1':W1.cell? ⟨w.heap.size,1,none⟩=_:=(cell_of_row _ _ 1 _ _ _ GA1.out).trans c1;have c2':W1.cell? ⟨w.heap.size,2,none⟩=_:=(cell_of_row _ _ 2 _ _ _ GA1.out).trans c2;have c3':W1.cell? ⟨w.heap.size,3,none⟩=_:=(cell_of_row _ _ 3 _ _ _ GA1.out).trans c3;have c4':W1.cell? ⟨w.heap.size,4,none⟩=_:=(cell_of_row _ _ 4 _ _ _ GA1.out).trans c4;have c5':W1.cell? ⟨w.heap.size,5,none⟩=_:=(cell_of_row _ _ 5 _ _ _ GA1.out).trans c5;have c6':W1.cell? ⟨w.heap.size,6,none⟩=_:=(cell_of_row _ _ 6 _ _ _ GA1.out).trans c6;have c7':W1.cell? ⟨w.heap.size,7,none⟩=_:=(cell_of_row _ _ 7 _ _ _ GA1.out).trans c7;have c8':W1.cell? ⟨w.heap.size,8,none⟩=_:=(cell_of_row _ _ 8 _ _ _ GA1.out).trans c8;have c9':W1.cell? ⟨w.heap.size,9,none⟩=_:=(cell_of_row _ _ 9 _ _ _ GA1.out).trans c9;have c10':W1.cell? ⟨w.heap.size,10,none⟩=_:=(cell_of_row _ _ 10 _ _ _ GA1.out).trans c10;have c11':W1.cell? ⟨w.heap.size,11,none⟩=_:=(cell_of_row _ _ 11 _ _ _ GA1.out).trans c11;have c12':W1.cell? ⟨w.heap.size,12,none⟩=_:=(cell_of_row _ _ 12 _ _ _ GA1.out).trans c12;have c13':W1.cell? ⟨w.heap.size,13,none⟩=_:=(cell_of_row _ _ 13 _ _ _ GA1.out).trans c13;have c14':W1.cell? ⟨w.heap.size,14,none⟩=_:=(cell_of_row _ _ 14 _ _ _ GA1.out).trans c14;have c15':W1.cell? ⟨w.heap.size,15,none⟩=_:=(cell_of_row _ _ 15 _ _ _ GA1.out).trans c15;have c16':W1.cell? ⟨w.heap.size,16,none⟩=_:=(cell_of_row _ _ 16 _ _ _ GA1.out).trans c16;have c17':W1.cell? ⟨w.heap.size,17,none⟩=_:=(cell_of_row _ _ 17 _ _ _ GA1.out).trans c17;have c18':W1.cell? ⟨w.heap.size,18,none⟩=_:=(cell_of_row _ _ 18 _ _ _ GA1.out).trans c18;have c19':W1.cell? ⟨w.heap.size,19,none⟩=_:=(cell_of_row _ _ 19 _ _ _ GA1.out).trans c19;have c20':W1.cell? ⟨w.heap.size,20,none⟩=_:=(cell_of_row _ _ 20 _ _ _ GA1.out).trans c20;have c21':W1.cell? ⟨w.heap.size,21,none⟩=_:=(cell_of_row _ _ 21 _ _ _ GA1.out).trans c21;have c22':W1.cell? ⟨w.heap.size,22,none⟩=_:=(cell_of_row _ _ 22 _ _ _ GA1.out).trans c22;have c23':W1.cell? ⟨w.heap.size,23,none⟩=_:=(cell_of_row _ _ 23 _ _ _ GA1.out).trans c23;have c24':W1.cell? ⟨w.heap.size,24,none⟩=_:=(cell_of_row _ _ 24 _ _ _ GA1.out).trans c24;have e0':W1.cell? ⟨w.heap.size+1,0,none⟩=_:=(cell_of_row _ _ 0 _ _ _ GB1.out).trans e0;have e1':W1.cell? ⟨w.heap.size+1,1,none⟩=_:=(cell_of_row _ _ 1 _ _ _ GB1.out).trans e1;have e2':W1.cell? ⟨w.heap.size+1,2,none⟩=_:=(cell_of_row _ _ 2 _ _ _ GB1.out).trans e2;have e3':W1.cell? ⟨w.heap.size+1,3,none⟩=_:=(cell_of_row _ _ 3 _ _ _ GB1.out).trans e3;have e4':W1.cell? ⟨w.heap.size+1,4,none⟩=_:=(cell_of_row _ _ 4 _ _ _ GB1.out).trans e4;have e5':W1.cell? ⟨w.heap.size+1,5,none⟩=_:=(cell_of_row _ _ 5 _ _ _ GB1.out).trans e5;have e6':W1.cell? ⟨w.heap.size+1,6,none⟩=_:=(cell_of_row _ _ 6 _ _ _ GB1.out).trans e6;have e7':W1.cell? ⟨w.heap.size+1,7,none⟩=_:=(cell_of_row _ _ 7 _ _ _ GB1.out).trans e7;have e8':W1.cell? ⟨w.heap.size+1,8,none⟩=_:=(cell_of_row _ _ 8 _ _ _ GB1.out).trans e8;have e9':W1.cell? ⟨w.heap.size+1,9,none⟩=_:=(cell_of_row _ _ 9 _ _ _ GB1.out).trans e9;have e10':W1.cell? ⟨w.heap.size+1,10,none⟩=_:=(cell_of_row _ _ 10 _ _ _ GB1.out).trans e10;have e11':W1.cell? ⟨w.heap.size+1,11,none⟩=_:=(cell_of_row _ _ 11 _ _ _ GB1.out).trans e11;have e12':W1.cell? ⟨w.heap.size+1,12,none⟩=_:=(cell_of_row _ _ 12 _ _ _ GB1.out).trans e12;have e13':W1.cell? ⟨w.heap.size+1,13,none⟩=_:=(cell_of_row _ _ 13 _ _ _ GB1.out).trans e13;have e14':W1.cell? ⟨w.heap.size+1,14,none⟩=_:=(cell_of_row _ _ 14 _ _ _ GB1.out).trans e14;have e15':W1.cell? ⟨w.heap.size+1,15,none⟩=_:=(cell_of_row _ _ 15 _ _ _ GB1.out).trans e15;have e16':W1.cell? ⟨w.heap.size+1,16,none⟩=_:=(cell_of_row _ _ 16 _ _ _ GB1.out).trans e16;have e17':W1.cell? ⟨w.heap.size+1,17,none⟩=_:=(cell_of_row _ _ 17 _ _ _ GB1.out).trans e17;have e18':W1.cell? ⟨w.heap.size+1,18,none⟩=_:=(cell_of_row _ _ 18 _ _ _ GB1.out).trans e18;have e19':W1.cell? ⟨w.heap.size+1,19,none⟩=_:=(cell_of_row _ _ 19 _ _ _ GB1.out).trans e19;have e20':W1.cell? ⟨w.heap.size+1,20,none⟩=_:=(cell_of_row _ _ 20 _ _ _ GB1.out).trans e20;have e21':W1.cell? ⟨w.heap.size+1,21,none⟩=_:=(cell_of_row _ _ 21 _ _ _ GB1.out).trans e21;have e22':W1.cell? ⟨w.heap.size+1,22,none⟩=_:=(cell_of_row _ _ 22 _ _ _ GB1.out).trans e22;have e23':W1.cell? ⟨w.heap.size+1,23,none⟩=_:=(cell_of_row _ _ 23 _ _ _ GB1.out).trans e23;have e24':W1.cell? ⟨w.heap.size+1,24,none⟩=_:=(cell_of_row _ _ 24 _ _ _ GB1.out).trans e24;clear c0 c1 c2 c3 c4 c5 c6 c7 c8 c9 c10 c11 c12 c13 c14 c15 c16 c17 c18 c19 c20 c21 c22 c23 c24 e0 e1 e2 e3 e4 e5 e6 e7 e8 e9 e10 e11 e12 e13 e14 e15 e16 e17 e18 e19 e20 e21 e22 e23 e24;go_wp2_with fail;refine(CO.out _ B1.out).mono ?_;rintro e W2 ⟨rfl,m,rfl⟩;go_wp2_with fail;refine(FI.out _ (qnpu B1.out m)).mono ?_;rintro e W3 ⟨rfl,m2,rfl⟩;go_wp2_with fail;refine(PR.out _ (qnpu B1.out (m+m2))).mono ?_;rintro e W4 ⟨rfl,m3,rfl⟩;go_wp2;go_ret;exact⟨rfl,qnpu B1.out _⟩
theorem q5nr:(prog.info? 32).map (·.size)=some 25:=by kernel_rfl
def pkZ:Array Value:=#[.int .i64 0,.bool false,.bool false,.int .i64 0,.int .i64 0,.string ⟨#[]⟩,.string ⟨#[]⟩,.bool false,.int .i64 0,.string ⟨#[]⟩,.bool false,.string ⟨#[]⟩,.bool false,.string ⟨#[]⟩,.bool false,.string ⟨#[]⟩,.string ⟨#[]⟩,.int .i64 0,.bool false,.slice none 0 0,.bool false,.int .i64 0,.slice none 0 0,.slice none 0 0,.slice none 0 0]
theorem qrai(W:World):(zeroValue 32).run prog W=.ok (.agg pkZ) W:=by kernel_rfl
theorem qbwp:pkZ.size=25:=rfl
def pkD(k:Int)(d r:Bool)(q:Int):Array Value:=#[.int .i64 k,.bool d,.bool r,.int .i64 q,.int .i64 0,.string ⟨#[]⟩,.string ⟨#[]⟩,.bool false,.int .i64 0,.string ⟨#[]⟩,.bool false,.string ⟨#[]⟩,.bool false,.string ⟨#[]⟩,.bool false,.string ⟨#[]⟩,.string ⟨#[]⟩,.int .i64 0,.bool false,.slice none 0 0,.bool false,.int .i64 0,.slice none 0 0,.slice none 0 0,.slice none 0 0]
theorem qqq1(k:Int)(d r:Bool)(q:Int):(pkD k d r q).all (·.oneCell')=true:=by simp[pkD,Value.oneCell']
def adZ:Ad:=⟨none,0,none,0,none,0,none,0⟩
theorem qa3p(W:World):PkAt W Pk.zero adZ:=⟨fun e=>absurd rfl e,fun e=>absurd rfl e,fun e=>absurd rfl e,fun e=>absurd rfl e⟩
theorem qe1o:PkCap Pk.zero adZ:=⟨Nat.zero_le _,Nat.zero_le _,by decide⟩
theorem qx9v(p:Pk)(W:World)(h:p.wProps=[]/\p.codes=[]/\p.filters=[]/\p.props=[]):PkAt W p adZ:=
 ⟨by rw[h.1];exact fun e=>absurd rfl e,by rw[h.2.1];exact fun e=>absurd rfl e,by rw[h.2.2.1];exact fun e=>absurd rfl e,by rw[h.2.2.2];exact fun e=>absurd rfl e⟩
def FrA(w:World)(p:Pk)(a:Ad):Prop:=
 ∀g i,(p.wProps≠[]/\a.w=some ⟨g,i,none⟩\/p.codes≠[]/\a.cs=some ⟨g,i,none⟩\/p.filters≠[]/\a.fs=some ⟨g,i,none⟩\/a.ps=some ⟨g,i,none⟩)->w.heap.size<=g
theorem FrA.mono{w W:World}{p:Pk}{a:Ad}(h:FrA W p a)(hw:w.heap.size<=W.heap.size):FrA w p a:=fun g i e=>Nat.le_trans hw (h g i e)
theorem q16x(w:World):FrA w Pk.zero adZ:=by
 rintro g i (⟨h,-⟩|⟨h,-⟩|⟨h,-⟩|h)
 ·exact absurd rfl h
 ·exact absurd rfl h
 ·exact absurd rfl h
 ·cases h
theorem qq13{w:World}{p:Pk}{a:Ad}(h1:p.wProps=[])(h2:p.codes=[])(h3:p.filters=[])(h:∀g i,a.ps=some ⟨g,i,none⟩->w.heap.size<=g):FrA w p a:=by
 rintro g i (⟨e,-⟩|⟨e,-⟩|⟨e,-⟩|e)
 ·exact absurd h1 e
 ·exact absurd h2 e
 ·exact absurd h3 e
 ·exact h g i e
theorem FrA.row{w W:World}{p:Pk}{a:Ad}(h:FrA w p a){b:Nat}(hb:b<w.heap.size)(hp:PkAt W p a)(D:Array Value):PkAt (W.setRow b D) p a:=by
 have o:∀g,w.heap.size<=g->(W.setRow b D).heap[g]?=W.heap[g]? := fun g hg=>setRow_other W b g D (by omega);have z:W.heap.size<=(W.setRow b D).heap.size:=by simp[World.setRow]
 refine⟨fun hn=>hp.w.kept z (fun g i e _=>o g (h g i (.inl ⟨hn,e⟩))) hn,fun hn=>hp.cs.kept z (fun g i e _=>o g (h g i (.inr (.inl ⟨?_,e⟩)))) hn,fun hn=>hp.fs.kept z (fun g i e _=>o g (h g i (.inr (.inr (.inl ⟨?_,e⟩))))) hn,hp.ps.kept z (fun g i e _=>o g (h g i (.inr (.inr (.inr e)))))⟩
 ·intro e;rw[e] at hn;exact hn rfl
 ·intro e;rw[e] at hn;exact hn rfl
def FitM(p:Pk):Prop:=PkOk p/\q21o p
def CapM(p:Pk)(a:Ad):Prop:=p.props.length<=a.pc/\(p.kind<=2->PkCap p a)
def qvrc(w:World)(R:Pk×Nat×Nat)(e:Ending)(W:World):Prop:=
 ∃a:Ad,e=.returned (.tuple #[.agg (pkC R.1 a),.int .i64 (R.2.1:Nat),.int .i64 (R.2.2:Nat)])/\PkAt W R.1 a/\CapM R.1 a/\FitM R.1/\Below w.heap.size w W/\(R.2.2≠0->a=adZ)
theorem qm1s(b:UInt8):bits .and .u8 (b.toNat:Int) 128=if 128<=b.toNat then 128 else 0:=by
 have all:∀x:Fin 256,bits .and .u8 (x.val:Int) 128=if 128<=x.val then 128 else 0:=by decide+kernel
 exact all ⟨b.toNat,b.toNat_lt⟩
theorem qbg0(b:UInt8):bits .and .u8 (b.toNat:Int) 127=((b.toNat%128:Nat):Int):=by
 have all:∀x:Fin 256,bits .and .u8 (x.val:Int) 127=((x.val%128:Nat):Int):=by decide+kernel
 exact all ⟨b.toNat,b.toNat_lt⟩
theorem qoki(x:Nat)(h:x<128):bits .or .u8 (x:Int) 128=((x+128:Nat):Int):=by
 have all:∀x:Fin 128,bits .or .u8 (x.val:Int) 128=((x.val+128:Nat):Int):=by decide+kernel
 exact all ⟨x,h⟩
theorem quym(x:Int)(w:World)(h0:0<=x)(h1:x<=268435455) :
 Calls prog 125 #[.int .u64 x] w fun e w'=>e=.returned (.int .i64 (Lib.bitLen x.toNat))/\w=w':=by
 have h32:x<4294967296:=by omega
 by_cases c1:x<256
 ·have l:=Lib.bitLen_le8' x h0 (by omega);have g0:x<=255:=by omega
  go_in;go_wp2;go_ret;refine⟨congrArg Ending.returned (congrArg (Value.int IntKind.i64) ?_),rfl⟩;rw[Lib.len8_of x h0 g0];unfold wrap64;omega
 by_cases c2:x<65536
 ·have l:=Lib.bitLen_le8' (x / 256) (by omega) (by omega);have s:=Lib.bitLen_shift8 x.toNat (by omega) (by omega);have g0:0<=x / 256:=by omega
  have g1:x / 256<=255:=by omega
  have e:(x / 256).toNat=x.toNat / 256:=by omega
  rw[e] at l;have E:=hid e;have S:=hid s;clear e s;go_in;go_wp2;go_ret;refine⟨congrArg Ending.returned (congrArg (Value.int IntKind.i64) ?_),rfl⟩;rw[Lib.len8_of (x / 256) g0 g1,E.out,S.out];unfold wrap64;omega
 by_cases c3:x<16777216
 ·have l:=Lib.bitLen_le8' (x / 65536) (by omega) (by omega);have s:=Lib.bitLen_shift16 x.toNat (by omega) (by omega);have g0:0<=x / 65536:=by omega
  have g1:x / 65536<=255:=by omega
  have e:(x / 65536).toNat=x.toNat / 65536:=by omega
  rw[e] at l;have E:=hid e;have S:=hid s;clear e s;go_in;go_wp2;go_ret;refine⟨congrArg Ending.returned (congrArg (Value.int IntKind.i64) ?_),rfl⟩;rw[Lib.len8_of (x / 65536) g0 g1,E.out,S.out];unfold wrap64;omega
 ·have l:=Lib.bitLen_le8' (x / 65536 / 256) (by omega) (by omega);have s:=Lib.bitLen_shift24 x.toNat (by omega) (by omega);have g0:0<=x / 65536 / 256:=by omega
  have g1:x / 65536 / 256<=255:=by omega
  have e:(x / 65536 / 256).toNat=x.toNat / 16777216:=by omega
  rw[e] at l;have E:=hid e;have S:=hid s;clear e s;go_in;go_wp2;go_ret;refine⟨congrArg Ending.returned (congrArg (Value.int IntKind.i64) ?_),rfl⟩;rw[Lib.len8_of (x / 65536 / 256) g0 g1,E.out,S.out];unfold wrap64;omega
theorem q5on(x:Int)(w:World)(h0:0<=x)(h1:x<=268435455) :
 Calls prog 80 #[.int .u64 x] w fun e w'=>e=.returned (.int .i64 (Lib.bitLen x.toNat))/\w=w':=by
 go_in;go_wp2_with (go_at_call 125;refine(quym x _ h0 h1).mono ?_;rintro e w' ⟨rfl,rfl⟩);go_ret;exact⟨rfl,rfl⟩
theorem qbdl(n:Nat)(h:n<=268435455):(max 1 (Lib.bitLen n)+6) / 7=sz n:=by
 have low:∀k,k<=63->2^k<=n->k<Lib.bitLen n:=fun k hk hn=>by
  have hpos:n / 2^k≠0:=by have:=Nat.div_pos hn (Nat.two_pow_pos k);omega
  have h64:n<2^64:=by
   have:(268435455:Nat)<2^64:=by decide
   omega
  rw[Lib.bitLen_shift k n hn h64,Lib.bitLen_half _ hpos (Nat.lt_of_le_of_lt (Nat.div_le_self _ _) h64)];omega
 rcases qnl4 n h with ⟨e,h1⟩|⟨e,h1,h2⟩|⟨e,h1,h2⟩|⟨e,h1⟩<;>rw[e]
 ·have:=Lib.bitLen_le n 7 (by decide) h1
  omega
 ·have:=Lib.bitLen_le n 14 (by decide) h2
  have:=low 7 (by decide) h1
  omega
 ·have:=Lib.bitLen_le n 21 (by decide) h2
  have:=low 14 (by decide) h1
  omega
 ·have:=Lib.bitLen_le n 28 (by decide) (by omega)
  have:=low 21 (by decide) h1
  omega
theorem ql84(n:Nat)(h:n<=268435455):(max 1 (Lib.bitLen n:Int)+7-1) / 7=sz n:=by
 rw[<-qbdl n h];generalize Lib.bitLen n=b;rcases Nat.le_total 1 b with h|h
 ·rw[Nat.max_eq_right h,Int.max_eq_right (by omega)];omega
 ·rw[Nat.max_eq_left h,Int.max_eq_left (by omega)];omega
theorem qk0d(n:Int)(w:World) :
 Calls prog 63 #[.int .i64 n] w fun e w'=>e=.returned (.int .i64 (sz n))/\w=w':=by
 by_cases h1:n<0
 ·rw[qbck.2 (.inl h1)];go_in;go_wp2;go_ret;exact⟨rfl,rfl⟩
 by_cases h2:268435455<n
 ·rw[qbck.2 (.inr h2)];go_in;go_wp2;go_ret;exact⟨rfl,rfl⟩
 ·obtain⟨k,rfl⟩:=Int.eq_ofNat_of_zero_le (show 0<=n by omega);have e:=ql84 k (by omega);have b:=Lib.bitLen_le k 28 (by decide) (by omega);have E:=hid e;clear e;go_in;go_wp2_with (go_at_call 80;refine(q5on k _ (by omega) (by omega)).mono ?_;rintro e w' ⟨rfl,rfl⟩);go_ret;exact⟨congrArg Ending.returned (congrArg (Value.int IntKind.i64) E.out),rfl⟩
theorem qnz1(b:UInt8)(n:Nat)(w:World) :
 Calls prog 82 #[.int .u8 b.toNat,.int .i64 n] w fun e w'=>e=.returned (.int .i64 (nxt b n))/\w=w':=by
 have hb:=b.toNat_lt;have ha:=qm1s b;by_cases h1:128<=b.toNat
 ·rw[if_pos h1] at ha;by_cases h2:n=4
  ·subst h2;have e:nxt b 4=2:=qt6b.2 (.inl ⟨h1,rfl⟩);rw[e];clear e;go_in;go_wp2;go_ret;exact⟨rfl,rfl⟩
  ·have e:nxt b n=0:=qv8z.2 ⟨h1,h2⟩;rw[e];clear e;have h3:((n:Int)==4)=false:=by simp;omega
   go_in;go_wp2;go_ret;exact⟨rfl,rfl⟩
 ·rw[if_neg h1] at ha;by_cases h2:b.toNat=0
  ·by_cases h3:1<n
   ·have e:nxt b n=2:=qt6b.2 (.inr ⟨h2,h3⟩);rw[e];clear e;rw[h2] at ha;rw[h2];have h4:decide ((1:Int)<(n:Int))=true:=by simp;omega
    go_in;go_wp2;go_ret;exact⟨rfl,rfl⟩
   ·have e:nxt b n=1:=qicf.2 ⟨by omega,.inr (by omega)⟩;rw[e];clear e;rw[h2] at ha;rw[h2];have h4:decide ((1:Int)<(n:Int))=false:=by simp;omega
    go_in;go_wp2;go_ret;exact⟨rfl,rfl⟩
  ·have e:nxt b n=1:=qicf.2 ⟨by omega,.inl (by omega)⟩;rw[e];clear e;have h4:((b.toNat:Int)==0)=false:=by simp;omega
   go_in;go_wp2;go_ret;exact⟨rfl,rfl⟩
end Go.Proofs.YtombgnfedafkjaaGreatDoor
