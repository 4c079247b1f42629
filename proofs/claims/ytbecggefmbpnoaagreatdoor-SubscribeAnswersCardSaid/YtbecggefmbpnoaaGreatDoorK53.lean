/- A list of strings that came in: what it holds. Condition: none but what memory can hold. -/
import Derived.Test.YtbecggefmbpnoaaGreatDoorK01
import Derived.Test.YtbecggefmbpnoaaGreatDoorK15
import Derived.Test.YtbecggefmbpnoaaGreatDoorK08
set_option maxRecDepth 100000
namespace Go.Proofs.YtbecggefmbpnoaaGreatDoor
open Go.ChangeShapes Go.WideShapes Go.ChangeAt Go.RowKit
theorem q605{H:Type}{enc:TypeId×Value→H}{W:World}{base b0:Nat}{sp:Nat→Bool}{held:Bool}{r:Reach}{v:Value}{d:DataW H}{ps:List MemPlace}
 (hval:Value.okWide Tryz.prog W r b0 52 v) (h:DataW.Trod enc Tryz.prog W base sp held 52 v d ps) (hs:∀n∈d.weights Tryz.prog 52,n≤140737488351232) :
 ∃(A:Option Addr) (n c:Nat) (l:List (List UInt8)),v = .slice A n c∧l.length=n∧SR W A l∧∀x∈l,x.length≤140737488351232:=by
 obtain⟨A,len,cap,rfl⟩:=okWide_slice Tryz.underlying52 hval
 obtain⟨fuel,hf⟩:=h
 rcases Go.Deep.open_slice Tryz.underlying52 hf with ⟨hcs,_⟩ | ⟨a,len',cap',m,n,D,Pl,hcs,_,hl,hm,hmm,hx,hi⟩
 ·simp[Value.cells] at hcs
  obtain⟨rfl,rfl,rfl⟩:=hcs
  exact⟨none,0,0,[],rfl,rfl,SR.nil,fun x hx=>by cases hx⟩
 simp[Value.cells] at hcs
 obtain⟨rfl,rfl,rfl⟩:=hcs
 have hC:Tryz.prog.cellsOf 9=1:=by kernel_rfl
 have hd:d = .slice ((List.range len).map D) ((List.range (m - len)).map fun j=>D (len+j)):=congrArg Prod.fst hx
 have all:∀j,j < len→∃s:ByteArray,W.cell? (a.add j)=some (.string s)∧s.data.toList.length≤140737488351232:=fun j hj=>by
  have hjm:j < m:=by rw[hmm];split<;>omega
  obtain⟨cs',hcl,ht'⟩:=hi j hjm
  obtain⟨_,hcl2,hat⟩:=World.cells?_some hcl
  rw[hC] at hcl2 hat
  have h1:=hat 0 (by decide)
  obtain⟨u,rfl⟩:∃u,cs'=[u]:=by
   match cs',hcl2 with
   | [u],_=>exact⟨u,rfl⟩
  obtain⟨s',e6,e7,_⟩:=DataW.trod_string Tryz.underlying9 ht'
  simp at e6;subst e6
  refine⟨s',?_,?_⟩
  ·have e0:(a.add (j*1)).add 0=a.add j:=by rw[Nat.mul_one];simp[Addr.add]
   rw[e0] at h1
   exact h1
  ·refine hs _ ?_
   have e8:D j = .lit (.string s'.data.toList):=congrArg Prod.fst e7
   rw[hd,DataW.weights,Tryz.underlying52]
   refine List.mem_cons_of_mem _ (List.mem_append_left _ (qokk (List.mem_map.2 ⟨j,List.mem_range.2 hj,rfl⟩) ?_))
   rw[e8,DataW.weights];exact List.mem_singleton.2 rfl
 by_cases hn:len=0
 ·subst hn
  exact⟨some a,0,cap,[],rfl,rfl,SR.nil,fun x hx=>by cases hx⟩
 obtain⟨g,i,spot⟩:=a
 have hspot:spot=none:=by
  obtain⟨s,hu,_⟩:=all 0 (by omega)
  have e0:(⟨g,i,spot⟩:Addr).add 0=⟨g,i,spot⟩:=by simp[Addr.add]
  rw[e0] at hu
  cases spot with
  | none=>rfl
  | some x=>
   unfold World.cell? at hu
   split at hu<;>simp at hu
 subst hspot
 refine⟨_,len,cap,(List.range len).map fun j=>qf5h W ⟨g,i+j,none⟩,rfl,by simp,fun _=>⟨g,i,rfl,?_,fun j hj=>?_⟩,fun x hx=>?_⟩
 ·obtain⟨s,hu,_⟩:=all 0 (by omega)
  have:=World.block_lt_of_cell? W _ hu
  rwa [qnbo] at this
 ·have hj:j < len:=by simpa using hj
  obtain⟨s,hu,_⟩:=all j hj
  rw[Addr.add_lit] at hu
  rw[qfs9 hu]
  simp[List.getD,hj]
 ·obtain⟨j,hj,rfl⟩:=List.mem_map.1 hx
  have hj:j < len:=by simpa using hj
  obtain⟨s,hu,hb⟩:=all j hj
  rw[Addr.add_lit] at hu
  rw[qias hu]
  simpa using hb
end Go.Proofs.YtbecggefmbpnoaaGreatDoor
