/- The load of a struct that is an element of a row: its cells qk87 a letter. No program. Condition: none. -/
import Derived.Lib.Walk
import Derived.Lib.Tables
import Derived.Test.YtefmhbioggcfaaaGreatDoorK12
namespace Go.Proofs.YtefmhbioggcfaaaGreatDoor
open Go.RowKit
section
variable{P:Program}
theorem qesj(w:World)(A:Addr)(ty:TypeId)(cs:Array Value)(d:TypeDesc)(hc:∀(j:Nat) (v:Value),cs[j]?=some v->w.cell? (A.add j)=some v)
 (hu:P.underlying ty=some d) (hd:(match d with|.struct _|.array _ _=>true|_=>false)=true) (hi:(P.info? ty).map (·.size)=some cs.size) :
 (loadVar ty A).run P w=.ok (.agg cs) w:=by
 have hl:(loadCells A cs.toList.length).run P w=.ok cs.toList.toArray w:=
  run_loadCells_list (P:=P) w A cs.toList (fun j v hv=>hc j v (by simpa using hv))
 cases hq:P.info? ty with
 |none=>simp[hq] at hi
 |some i=>
  have hs:i.size=cs.size:=by simpa [hq] using hi
  have hagg:(isAgg ty).run P w=.ok true w:=by unfold isAgg;rw[Sem.run_bind,run_underlying hu w];cases d<;>simp_all
  simp only[Array.length_toList,Array.toArray_toList] at hl;simp[loadVar,Sem.run_bind,hagg,sizeOf,typeInfo,hq,hs,hl]
variable{ops:Array Oper}{rest:List Oper}{o:Oper}{a:Act}{w:World}{Q:Exit->Act->World->Prop}
theorem qcje{K:Act->World->Prop}(ty:TypeId)(x:Operand)(ho:o.op=.load ty x)(A:Addr)(hx:a.eval x=.pointer (some A))(cs:Array Value)(d:TypeDesc)(hc:∀(j:Nat) (v:Value),cs[j]?=some v->w.cell? (A.add j)=some v)
 (hu:P.underlying ty=some d) (hd:(match d with|.struct _|.array _ _=>true|_=>false)=true) (hi:(P.info? ty).map (·.size)=some cs.size)
 (h:K (a.put o.dst (.agg cs)) w):o.wp P a w K Q:=by
 unfold Oper.wp execOp;simp only[ho,hx,Instr.loadAt,Instr.sureAddr,Sem.run_bind,Sem.run_pure,Result.andThen_ok,qesj w A ty cs d hc hu hd hi];exact h
theorem ql0m(hw:Region.wanted o (yielded ops a.tmps)=true)(ty:TypeId)(x:Operand)(ho:o.op=.load ty x)(A:Addr)(hx:a.eval x=.pointer (some A))(cs:Array Value)(d:TypeDesc)(hc:∀(j:Nat) (v:Value),cs[j]?=some v->w.cell? (A.add j)=some v)
 (hu:P.underlying ty=some d) (hd:(match d with|.struct _|.array _ _=>true|_=>false)=true) (hi:(P.info? ty).map (·.size)=some cs.size)
 (h:wpList P ops Q rest (a.put o.dst (.agg cs)) w):wpList P ops Q (o::rest) a w:=by
 unfold wpList;rw[if_pos hw];exact .inl (qcje ty x ho A hx cs d hc hu hd hi h)
end
end Go.Proofs.YtefmhbioggcfaaaGreatDoor
namespace Go.Proofs.YtefmhbioggcfaaaGreatDoor
theorem qu4s{v:Int}{p:Pk}(h:q8s2 v p=0):(rawM v p).length<=268435460:=by
 obtain⟨_,_,_,h4⟩:=q31v h;have h5:sz (q9sw v p).length<=4:=by
  unfold sz
  repeat' split
  all_goals omega
 rw[qbl2];unfold rawH;rw[List.length_cons,q8sw];omega
end Go.Proofs.YtefmhbioggcfaaaGreatDoor
