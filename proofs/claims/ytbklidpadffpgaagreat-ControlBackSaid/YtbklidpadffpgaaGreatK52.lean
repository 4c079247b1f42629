/- A list of properties that came in, and a property: what they hold. No condition. -/
import Derived.Test.YtbklidpadffpgaaGreatK01
import Derived.Test.YtbklidpadffpgaaGreatK02
import Derived.Test.YtbklidpadffpgaaGreatK05
set_option maxRecDepth 100000
namespace Go.Proofs.YtbklidpadffpgaaGreat
open Go.ChangeShapes Go.WideShapes Go.ChangeAt Go.RowKit
def qf5h(W:World)(p:Addr):List UInt8:=match W.cell? p with
 | some (.string s)=>s.data.toList
 | _=>[]
theorem qfs9{W:World}{p:Addr}{s:ByteArray}(h:W.cell? p=some (.string s)):W.cell? p=some (.string (bs (qf5h W p))):=by
 unfold qf5h;rw[h];rfl
theorem qias{W:World}{p:Addr}{s:ByteArray}(h:W.cell? p=some (.string s)):(qf5h W p).length=s.size:=by
 unfold qf5h;rw[h];exact(show s.size=s.data.toList.length by simp).symm
theorem q3td{n:Int}(h:(Lit.int .u32 n).wf=true):0≤n∧n < 4294967296:=by
 have h1:IntKind.u32.min≤n∧n≤IntKind.u32.max:=by simpa only[Lit.wf,Bool.and_eq_true,decide_eq_true_eq] using h
 have e0:IntKind.u32.min=0:=by decide
 have e1:IntKind.u32.max=4294967295:=by decide
 omega
def prAt(W:World)(g o:Nat):Pr:=⟨qjis W ⟨g,o,none⟩,(qjis W ⟨g,o+1,none⟩).toNat,qf5h W ⟨g,o+2,none⟩,qf5h W ⟨g,o+3,none⟩⟩
theorem qokk{H:Type}{P:Program}{e:TypeId}{n:Nat}:∀{l:List (DataW H)} {d:DataW H},d∈l→n∈d.weights P e→n∈DataW.weightsAll P e l
 | x::l,d,hd,hn=>by
  rw[DataW.weightsAll,List.mem_append]
  rcases List.mem_cons.1 hd with rfl | hd
  ·exact .inl hn
  ·exact .inr (qokk hd hn)
theorem q463{H:Type}{enc:TypeId×Value→H}{W:World}{base:Nat}{sp:Nat→Bool}{held:Bool}{g i len cap:Nat}{d:DataW H}{ps:List MemPlace}
 (h:DataW.Trod enc Tryz.prog W base sp held 26 (.slice (some ⟨g,i,none⟩) len cap) d ps) (hs:∀n∈d.weights Tryz.prog 26,n≤140737488351232)
 {j c:Nat} (hj:j < len) (hc:c=2∨c=3) {s:ByteArray} (hcell:W.cell? ⟨g,i+j*4+c,none⟩=some (.string s)):s.size≤140737488351232:=by
 obtain⟨fuel,hf⟩:=h
 rcases Go.Deep.open_slice Tryz.underlying26 hf with ⟨hcs,_⟩ | ⟨a,len',cap',m,n,D,Pl,hcs,_,hl,hm,hmm,hx,hi⟩
 ·simp[Value.cells] at hcs
 simp[Value.cells] at hcs
 obtain⟨rfl,rfl,rfl⟩:=hcs
 have hjm:j < m:=by rw[hmm];split<;>omega
 obtain⟨cs',hcl,ht'⟩:=hi j hjm
 obtain⟨ys,n',_,hD,hlen,hyl,hfld⟩:=DataW.trod_struct Tryz.underlying25 ht'
 have hC:Tryz.prog.cellsOf 25=4:=by kernel_rfl
 obtain⟨_,hcl2,hat⟩:=World.cells?_some hcl
 rw[hC] at hcl2 hat
 have hc4:c < 4:=by omega
 have h1:=hat c hc4
 rw[Addr.add_lit,Addr.add_lit,hcell] at h1
 have hcc:c < cs'.length:=by omega
 have key:∀f:Field,f.type=9→f.offset=c→(#[]:Array Field)=#[]→DataW.trod enc Tryz.prog W base sp held n' f.type ((cs'.drop f.offset).take (Tryz.prog.cellsOf f.type))=ys[c]? → ∃y,ys[c]? = some y∧y.1 = .lit (.string s.data.toList):=by
  intro f h2 h3 _ h4
  rw[h2,h3,show Tryz.prog.cellsOf 9=1 by kernel_rfl,List.drop_eq_getElem_cons hcc] at h4
  have e5:cs'[c] = .string s:=by
   rw[List.getElem?_eq_getElem hcc] at h1
   exact(Option.some.inj h1).symm
  rw[e5] at h4
  have hyc:c < ys.length:=by rw[hyl];exact hc4
  rw[List.getElem?_eq_getElem hyc] at h4
  obtain⟨s',e6,e7,_⟩:=DataW.trod_string Tryz.underlying9 h4
  simp at e6;subst e6
  exact⟨ys[c],List.getElem?_eq_getElem hyc,by rw[e7]⟩
 have hy:∃y,ys[c]? = some y∧y.1 = .lit (.string s.data.toList):=by
  rcases hc with rfl | rfl
  ·exact key _ rfl rfl rfl (hfld 2 _ rfl)
  ·exact key _ rfl rfl rfl (hfld 3 _ rfl)
 obtain⟨y,hy1,hy2⟩:=hy
 have hDj:s.data.toList.length∈(D j).weights Tryz.prog 25:=by
  have e1:(D j) = .agg (ys.map (·.1)):=congrArg Prod.fst hD
  rw[e1,DataW.weights,Tryz.underlying25]
  refine DataW.weights_mem_each (j:=c) (t:=9) (d := .lit (.string s.data.toList)) ?_ ?_ _ ?_
  ·rcases hc with rfl | rfl<;>rfl
  ·rw[List.getElem?_map,hy1,←hy2];rfl
  ·rw[DataW.weights];exact List.mem_singleton.2 rfl
 have hd:d = .slice ((List.range len).map D) ((List.range (m - len)).map fun j=>D (len+j)):=congrArg Prod.fst hx
 rw[show s.size=s.data.toList.length by simp]
 refine hs _ ?_
 rw[hd,DataW.weights,Tryz.underlying26]
 exact List.mem_cons_of_mem _ (List.mem_append_left _ (qokk (List.mem_map.2 ⟨j,List.mem_range.2 hj,rfl⟩) hDj))
theorem qpef{H:Type}{enc:TypeId×Value→H}{W:World}{base:Nat}{sp:Nat→Bool}{held:Bool}{v:Value}{d:DataW H}{ps:List MemPlace}
 (hval:∃(A:Option Addr) (len cap:Nat),v = .slice A len cap) (h:DataW.Trod enc Tryz.prog W base sp held 26 v d ps) (hs:∀n∈d.weights Tryz.prog 26,n≤140737488351232) :
 ∃(A:Option Addr) (n c:Nat) (l:List Pr),v = .slice A n c∧l.length=n∧n≤c∧c≤maxLen∧PL W A l∧(∀p∈l,PrOk p)∧∀p∈l,p.text.length≤140737488351232∧p.value.length≤140737488351232:=by
 have hval0:=hval
 obtain⟨A,len,cap,rfl⟩:=hval
 have h0:=h
 obtain⟨fuel,hf⟩:=h
 have hcap:(len≤cap∧cap≤maxLen):=by
  rcases Go.Deep.open_slice Tryz.underlying26 hf with ⟨hcs,_⟩ | ⟨a,len',cap',m,n,D,Pl,hcs,_,hl,hm,_⟩
  ·simp[Value.cells] at hcs
   obtain⟨rfl,rfl,rfl⟩:=hcs
   exact⟨Nat.le_refl _,Nat.zero_le _⟩
  ·simp[Value.cells] at hcs
   obtain⟨rfl,rfl,rfl⟩:=hcs
   exact⟨hl,hm⟩
 obtain⟨A',n',c',he,_,hin⟩:=q83e Tryz.underlying26 Tryz.underlying25 (by kernel_rfl) (by kernel_rfl) (by decide) hval0 h0
 simp only[Value.slice.injEq] at he
 obtain⟨rfl,rfl,rfl⟩:=he
 by_cases hn:len=0
 ·subst hn
  exact⟨A,0,cap,[],rfl,rfl,hcap.1,hcap.2,PL.nil,(fun p hp=>by cases hp),fun p hp=>by cases hp⟩
 ·obtain⟨a,rfl,hb,each⟩:=hin (by omega)
  have hC:Tryz.prog.cellsOf 25=4:=by kernel_rfl
  rw[hC] at each
  obtain⟨g,i,spot⟩:=a
  have hspot:spot=none:=by
   obtain⟨u,y,m,hu,_⟩:=each 0 (by omega) 0 _ rfl
   have e0:((⟨g,i,spot⟩:Addr).add (0*4)).add 0=⟨g,i,spot⟩:=by simp[Addr.add]
   rw[e0] at hu
   cases spot with
   | none=>rfl
   | some x=>
    unfold World.cell? at hu
    split at hu<;>simp at hu
  subst hspot
  have ea:∀j k,((⟨g,i,none⟩:Addr).add (j*4)).add k=⟨g,i+j*4+k,none⟩:=fun j k=>by
   rw[Addr.add_lit,Addr.add_lit]
  have all:∀j,j < len→(∃z:Int,W.cell? ⟨g,i+j*4,none⟩=some (.int .i64 z)∧(Lit.int .i64 z).wf=true)∧(∃z:Int,W.cell? ⟨g,i+j*4+1,none⟩=some (.int .u32 z)∧(Lit.int .u32 z).wf=true)∧
   (∃s:ByteArray,W.cell? ⟨g,i+j*4+2,none⟩=some (.string s)∧s.size≤maxLen)∧(∃s:ByteArray,W.cell? ⟨g,i+j*4+3,none⟩=some (.string s)∧s.size≤maxLen):=by
   intro j hj
   refine⟨?_,?_,?_,?_⟩
   ·obtain⟨u,y,m,hu,ht⟩:=each j hj 0 _ rfl
    rw[ea,Nat.add_zero] at hu
    obtain⟨z,e1,_,wz⟩:=DataW.trod_int Tryz.underlying3 ht
    simp at e1;subst e1
    exact⟨z,hu,wz⟩
   ·obtain⟨u,y,m,hu,ht⟩:=each j hj 1 _ rfl
    rw[ea] at hu
    obtain⟨z,e1,_,wz⟩:=DataW.trod_int Tryz.underlying23 ht
    simp at e1;subst e1
    exact⟨z,hu,wz⟩
   ·obtain⟨u,y,m,hu,ht⟩:=each j hj 2 _ rfl
    rw[ea] at hu
    obtain⟨z,e1,_,wz⟩:=DataW.trod_string Tryz.underlying9 ht
    simp at e1;subst e1
    exact⟨z,hu,wz⟩
   ·obtain⟨u,y,m,hu,ht⟩:=each j hj 3 _ rfl
    rw[ea] at hu
    obtain⟨z,e1,_,wz⟩:=DataW.trod_string Tryz.underlying9 ht
    simp at e1;subst e1
    exact⟨z,hu,wz⟩
  refine⟨_,len,cap,(List.range len).map fun j=>prAt W g (i+j*4),rfl,by simp,hcap.1,hcap.2,fun _=>⟨g,i,rfl,hb,fun j p hj=>?_⟩,fun p hp=>?_,fun p hp=>?_⟩
  ·have hjl:j < len:=by
    have:=(List.getElem?_eq_some_iff.1 hj).1
    simpa using this
   obtain⟨⟨z0,k0,w0⟩,⟨z1,k1,w1⟩,⟨s2,k2,w2⟩,⟨s3,k3,w3⟩⟩:=all j hjl
   rw[List.getElem?_map,List.getElem?_range hjl] at hj
   simp only[Option.map_some,Option.some.injEq] at hj
   subst hj
   have r1:=q3td w1
   refine⟨qh31 k0,?_,qfs9 k2,qfs9 k3⟩
   have:=qh31 k1
   rw[this]
   have e2:qjis W ⟨g,i+j*4+1,none⟩=z1:=by
    rw[k1] at this
    simp only[Option.some.injEq,Value.int.injEq,true_and] at this
    exact this.symm
   show some (Value.int .u32 (qjis W ⟨g,i+j*4+1,none⟩))=some (Value.int .u32 (((qjis W ⟨g,i+j*4+1,none⟩).toNat:Nat):Int))
   rw[e2]
   congr 2
   omega
  ·obtain⟨j,hj,rfl⟩:=List.mem_map.1 hp
   have hjl:j < len:=by simpa using hj
   obtain⟨⟨z0,k0,w0⟩,⟨z1,k1,w1⟩,⟨s2,k2,w2⟩,⟨s3,k3,w3⟩⟩:=all j hjl
   have r0:=qwve w0
   have r1:=q3td w1
   have e0:qjis W ⟨g,i+j*4,none⟩=z0:=by
    have:=qh31 k0
    rw[k0] at this
    simp only[Option.some.injEq,Value.int.injEq,true_and] at this
    exact this.symm
   have e1:qjis W ⟨g,i+j*4+1,none⟩=z1:=by
    have:=qh31 k1
    rw[k1] at this
    simp only[Option.some.injEq,Value.int.injEq,true_and] at this
    exact this.symm
   have l2:=qias k2
   have l3:=qias k3
   unfold maxLen at w2 w3
   refine⟨?_,?_,?_,?_,?_⟩
   ·show _≤qjis W ⟨g,i+j*4,none⟩;rw[e0];exact r0.1
   ·show qjis W ⟨g,i+j*4,none⟩≤_;rw[e0];exact r0.2
   ·show(qjis W ⟨g,i+j*4+1,none⟩).toNat < _;rw[e1];omega
   ·show(qf5h W ⟨g,i+j*4+2,none⟩).length≤_;omega
   ·show(qf5h W ⟨g,i+j*4+3,none⟩).length≤_;omega
  ·obtain⟨j,hj,rfl⟩:=List.mem_map.1 hp
   have hjl:j < len:=by simpa using hj
   obtain⟨_,_,⟨s2,k2,_⟩,⟨s3,k3,_⟩⟩:=all j hjl
   refine⟨?_,?_⟩
   ·show(qf5h W ⟨g,i+j*4+2,none⟩).length≤_
    rw[qias k2];exact q463 h0 hs hjl (.inl rfl) k2
   ·show(qf5h W ⟨g,i+j*4+3,none⟩).length≤_
    rw[qias k3];exact q463 h0 hs hjl (.inr rfl) k3
end Go.Proofs.YtbklidpadffpgaaGreat
