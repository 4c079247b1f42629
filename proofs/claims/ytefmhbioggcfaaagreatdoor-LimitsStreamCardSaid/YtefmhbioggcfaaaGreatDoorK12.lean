/- The load of a struct that is an element of a row: its cells qk87 a letter. No program. Condition: none. -/
import Derived.Lib.Hide
import Derived.WalkKit
import Derived.Lib.Walk
import Derived.Lib.Tables
namespace Go.Proofs.YtefmhbioggcfaaaGreatDoor
open Go.RowKit
section
variable{P:Program}
theorem qesj(w:World)(A:Addr)(ty:TypeId)(cs:Array Value)(d:TypeDesc)(hc:∀(j:Nat) (v:Value),cs[j]?=some v->w.cell? (A.add j)=some v)
 (hu:P.underlying ty=some d) (hd:(match d with|.struct _|.array _ _=>true|_=>false)=true) (hi:(P.info? ty).map (·.size)=some cs.size) :
 (loadVar ty A).run P w=.ok (.agg cs) w:=by
 have hl:(loadCells A cs.toList.length).run P w=.ok cs.toList.toArray w:=
  run_loadCells_list (P:=P) w A cs.toList (fun j v hv=>hc j v (by simpa using hv))
 cases hq:P.info? ty with
 |none=>simp[hq] at hi
 |some i=>
  have hs:i.size=cs.size:=by simpa [hq] using hi
  have hagg:(isAgg ty).run P w=.ok true w:=by unfold isAgg;rw[Sem.run_bind,run_underlying hu w];cases d<;>simp_all
  simp only[Array.length_toList,Array.toArray_toList] at hl;simp[loadVar,Sem.run_bind,hagg,sizeOf,typeInfo,hq,hs,hl]
variable{ops:Array Oper}{rest:List Oper}{o:Oper}{a:Act}{w:World}{Q:Exit->Act->World->Prop}
end
end Go.Proofs.YtefmhbioggcfaaaGreatDoor
