/- A list of properties that came in, and a property: what they hold. No condition. -/
import Derived.Test.YtombgnfedafkjaaGreatDoorK01
import Derived.Test.YtombgnfedafkjaaGreatDoorK07
set_option maxRecDepth 100000
set_option maxHeartbeats 4000000
namespace Go.Proofs.YtombgnfedafkjaaGreatDoor
open Proofs.Tryz
open Go.ChangeShapes Go.WideShapes Go.ChangeAt Go.RowKit
def qf5h(W:World)(p:Addr):List UInt8:=match W.cell? p with
 |some (.string s)=>s.data.toList
 |_=>[]
theorem qfs9{W:World}{p:Addr}{s:ByteArray}(h:W.cell? p=some (.string s)):W.cell? p=some (.string (bs (qf5h W p))):=by unfold qf5h;rw[h];rfl
theorem qias{W:World}{p:Addr}{s:ByteArray}(h:W.cell? p=some (.string s)):(qf5h W p).length=s.size:=by unfold qf5h;rw[h];exact(show s.size=s.data.toList.length by simp).symm
theorem q3td{n:Int}(h:(Lit.int .u32 n).wf=true):0<=n/\n<4294967296:=by
 have h1:IntKind.u32.min<=n/\n<=IntKind.u32.max:=by simpa only[Lit.wf,Bool.and_eq_true,decide_eq_true_eq] using h
 have e0:IntKind.u32.min=0:=by decide
 have e1:IntKind.u32.max=4294967295:=by decide
 omega
def prAt(W:World)(g o:Nat):Pr:=⟨qjis W ⟨g,o,none⟩,(qjis W ⟨g,o+1,none⟩).toNat,qf5h W ⟨g,o+2,none⟩,qf5h W ⟨g,o+3,none⟩⟩
theorem qokk{H:Type}{P:Program}{e:TypeId}{n:Nat}:∀{l:List (DataW H)} {d:DataW H},d∈l->n∈d.weights P e->n∈DataW.weightsAll P e l
 |x::l,d,hd,hn=>by
  rw[DataW.weightsAll,List.mem_append];rcases List.mem_cons.1 hd with rfl|hd
  ·exact .inl hn
  ·exact .inr (qokk hd hn)
theorem q463{H:Type}{enc:TypeId×Value->H}{W:World}{base:Nat}{sp:Nat->Bool}{held:Bool}{g i len cap:Nat}{d:DataW H}{ps:List MemPlace}
 (h:DataW.Trod enc prog W base sp held 26 (.slice (some ⟨g,i,none⟩) len cap) d ps) (hs:∀n∈d.weights prog 26,n<=140737488351232)
 {j c:Nat} (hj:j<len) (hc:c=2\/c=3) {s:ByteArray} (hcell:W.cell? ⟨g,i+j*4+c,none⟩=some (.string s)):s.size<=140737488351232:=by
 obtain⟨fuel,hf⟩:=h;rcases Go.Deep.open_slice underlying26 hf with ⟨hcs,_⟩|⟨a,len',cap',m,n,D,Pl,hcs,_,hl,hm,hmm,hx,hi⟩
 ·simp[Value.cells] at hcs
 simp[Value.cells] at hcs;obtain⟨rfl,rfl,rfl⟩:=hcs;have hjm:j<m:=by rw[hmm];split<;>omega
 obtain⟨cs',hcl,ht'⟩:=hi j hjm;obtain⟨ys,n',_,hD,hlen,hyl,hfld⟩:=DataW.trod_struct underlying74 ht';have hC:prog.cellsOf 74=4:=by kernel_rfl
 obtain⟨_,hcl2,hat⟩:=World.cells?_some hcl;rw[hC] at hcl2 hat;have hc4:c<4:=by omega
 have h1:=hat c hc4;rw[Addr.add_lit,Addr.add_lit,hcell] at h1;have hcc:c<cs'.length:=by omega
 have key:∀f:Field,f.type=9->f.offset=c->(#[]:Array Field)=#[]->DataW.trod enc prog W base sp held n' f.type ((cs'.drop f.offset).take (prog.cellsOf f.type))=ys[c]? -> ∃y,ys[c]?=some y/\y.1=.lit (.string s.data.toList):=by
  intro f h2 h3 _ h4;rw[h2,h3,show prog.cellsOf 9=1 by kernel_rfl,List.drop_eq_getElem_cons hcc] at h4;have e5:cs'[c]=.string s:=by rw[List.getElem?_eq_getElem hcc] at h1;exact(Option.some.inj h1).symm
  rw[e5] at h4;have hyc:c<ys.length:=by rw[hyl];exact hc4
  rw[List.getElem?_eq_getElem hyc] at h4;obtain⟨s',e6,e7,_⟩:=DataW.trod_string underlying9 h4;simp at e6;subst e6;exact⟨ys[c],List.getElem?_eq_getElem hyc,by rw[e7]⟩
 have hy:∃y,ys[c]?=some y/\y.1=.lit (.string s.data.toList):=by
  rcases hc with rfl|rfl
  ·exact key _ rfl rfl rfl (hfld 2 _ rfl)
  ·exact key _ rfl rfl rfl (hfld 3 _ rfl)
 obtain⟨y,hy1,hy2⟩:=hy;have hDj:s.data.toList.length∈(D j).weights prog 74:=by
  have e1:(D j)=.agg (ys.map (·.1)):=congrArg Prod.fst hD;rw[e1,DataW.weights,underlying74];refine DataW.weights_mem_each (j:=c) (t:=9) (d := .lit (.string s.data.toList)) ?_ ?_ _ ?_
  ·rcases hc with rfl|rfl<;>rfl
  ·rw[List.getElem?_map,hy1,<-hy2];rfl
  ·rw[DataW.weights];exact List.mem_singleton.2 rfl
 have hd:d=.slice ((List.range len).map D) ((List.range (m-len)).map fun j=>D (len+j)):=congrArg Prod.fst hx;rw[show s.size=s.data.toList.length by simp];refine hs _ ?_;rw[hd,DataW.weights,underlying26];exact List.mem_cons_of_mem _ (List.mem_append_left _ (qokk (List.mem_map.2 ⟨j,List.mem_range.2 hj,rfl⟩) hDj))
theorem qpef{H:Type}{enc:TypeId×Value->H}{W:World}{base:Nat}{sp:Nat->Bool}{held:Bool}{v:Value}{d:DataW H}{ps:List MemPlace}
 (hval:∃(A:Option Addr) (len cap:Nat),v=.slice A len cap) (h:DataW.Trod enc prog W base sp held 26 v d ps) (hs:∀n∈d.weights prog 26,n<=140737488351232) :
 ∃(A:Option Addr) (n c:Nat) (l:List Pr),v=.slice A n c/\l.length=n/\n<=c/\c<=maxLen/\PL W A l/\(∀p∈l,PrOk p)/\∀p∈l,p.text.length<=140737488351232/\p.value.length<=140737488351232:=by
 have hval0:=hval;obtain⟨A,len,cap,rfl⟩:=hval;have h0:=h;obtain⟨fuel,hf⟩:=h;have hcap:(len<=cap/\cap<=maxLen):=by
  rcases Go.Deep.open_slice underlying26 hf with ⟨hcs,_⟩|⟨a,len',cap',m,n,D,Pl,hcs,_,hl,hm,_⟩
  ·simp[Value.cells] at hcs;obtain⟨rfl,rfl,rfl⟩:=hcs;exact⟨Nat.le_refl _,Nat.zero_le _⟩
  ·simp[Value.cells] at hcs;obtain⟨rfl,rfl,rfl⟩:=hcs;exact⟨hl,hm⟩
 obtain⟨A',n',c',he,_,hin⟩:=q83e underlying26 underlying74 (by kernel_rfl) (by kernel_rfl) (by decide) hval0 h0;simp only[Value.slice.injEq] at he;obtain⟨rfl,rfl,rfl⟩:=he;by_cases hn:len=0
 ·subst hn;exact⟨A,0,cap,[],rfl,rfl,hcap.1,hcap.2,PL.nil,(fun p hp=>by cases hp),fun p hp=>by cases hp⟩
 ·obtain⟨a,rfl,hb,each⟩:=hin (by omega);have hC:prog.cellsOf 74=4:=by kernel_rfl
  rw[hC] at each;obtain⟨g,i,spot⟩:=a;have hspot:spot=none:=by
   obtain⟨u,y,m,hu,_⟩:=each 0 (by omega) 0 _ rfl;have e0:((⟨g,i,spot⟩:Addr).add (0*4)).add 0=⟨g,i,spot⟩:=by simp[Addr.add]
   rw[e0] at hu;cases spot with
   |none=>rfl
   |some x=>unfold World.cell? at hu;split at hu<;>simp at hu
  subst hspot;have ea:∀j k,((⟨g,i,none⟩:Addr).add (j*4)).add k=⟨g,i+j*4+k,none⟩:=fun j k=>by rw[Addr.add_lit,Addr.add_lit]
  have all:∀j,j<len->(∃z:Int,W.cell? ⟨g,i+j*4,none⟩=some (.int .i64 z)/\(Lit.int .i64 z).wf=true)/\(∃z:Int,W.cell? ⟨g,i+j*4+1,none⟩=some (.int .u32 z)/\(Lit.int .u32 z).wf=true)/\
   (∃s:ByteArray,W.cell? ⟨g,i+j*4+2,none⟩=some (.string s)/\s.size<=maxLen)/\(∃s:ByteArray,W.cell? ⟨g,i+j*4+3,none⟩=some (.string s)/\s.size<=maxLen):=by
   intro j hj;refine⟨?_,?_,?_,?_⟩
   ·obtain⟨u,y,m,hu,ht⟩:=each j hj 0 _ rfl;rw[ea,Nat.add_zero] at hu;obtain⟨z,e1,_,wz⟩:=DataW.trod_int underlying3 ht;simp at e1;subst e1;exact⟨z,hu,wz⟩
   ·obtain⟨u,y,m,hu,ht⟩:=each j hj 1 _ rfl;rw[ea] at hu;obtain⟨z,e1,_,wz⟩:=DataW.trod_int underlying72 ht;simp at e1;subst e1;exact⟨z,hu,wz⟩
   ·obtain⟨u,y,m,hu,ht⟩:=each j hj 2 _ rfl;rw[ea] at hu;obtain⟨z,e1,_,wz⟩:=DataW.trod_string underlying9 ht;simp at e1;subst e1;exact⟨z,hu,wz⟩
   ·obtain⟨u,y,m,hu,ht⟩:=each j hj 3 _ rfl;rw[ea] at hu;obtain⟨z,e1,_,wz⟩:=DataW.trod_string underlying9 ht;simp at e1;subst e1;exact⟨z,hu,wz⟩
  refine⟨_,len,cap,(List.range len).map fun j=>prAt W g (i+j*4),rfl,by simp,hcap.1,hcap.2,fun _=>⟨g,i,rfl,hb,fun j p hj=>?_⟩,fun p hp=>?_,fun p hp=>?_⟩
  ·have hjl:j<len:=by
    have:=(List.getElem?_eq_some_iff.1 hj).1
    simpa using this
   obtain⟨⟨z0,k0,w0⟩,⟨z1,k1,w1⟩,⟨s2,k2,w2⟩,⟨s3,k3,w3⟩⟩:=all j hjl;rw[List.getElem?_map,List.getElem?_range hjl] at hj;simp only[Option.map_some,Option.some.injEq] at hj;subst hj;have r1:=q3td w1;refine⟨qh31 k0,?_,qfs9 k2,qfs9 k3⟩
   have:=qh31 k1
   rw[this];have e2:qjis W ⟨g,i+j*4+1,none⟩=z1:=by rw[k1] at this;simp only[Option.some.injEq,Value.int.injEq,true_and] at this;exact this.symm
   show some (Value.int .u32 (qjis W ⟨g,i+j*4+1,none⟩))=some (Value.int .u32 (((qjis W ⟨g,i+j*4+1,none⟩).toNat:Nat):Int));rw[e2]
   congr 2
   omega
  ·obtain⟨j,hj,rfl⟩:=List.mem_map.1 hp;have hjl:j<len:=by simpa using hj
   obtain⟨⟨z0,k0,w0⟩,⟨z1,k1,w1⟩,⟨s2,k2,w2⟩,⟨s3,k3,w3⟩⟩:=all j hjl;have r0:=qwve w0;have r1:=q3td w1;have e0:qjis W ⟨g,i+j*4,none⟩=z0:=by
    have:=qh31 k0
    rw[k0] at this;simp only[Option.some.injEq,Value.int.injEq,true_and] at this;exact this.symm
   have e1:qjis W ⟨g,i+j*4+1,none⟩=z1:=by
    have:=qh31 k1
    rw[k1] at this;simp only[Option.some.injEq,Value.int.injEq,true_and] at this;exact this.symm
   have l2:=qias k2;have l3:=qias k3;unfold maxLen at w2 w3;refine⟨?_,?_,?_,?_,?_⟩
   ·show _<=qjis W ⟨g,i+j*4,none⟩;rw[e0];exact r0.1
   ·show qjis W ⟨g,i+j*4,none⟩<=_;rw[e0];exact r0.2
   ·show(qjis W ⟨g,i+j*4+1,none⟩).toNat<_;rw[e1];omega
   ·show(qf5h W ⟨g,i+j*4+2,none⟩).length<=_;omega
   ·show(qf5h W ⟨g,i+j*4+3,none⟩).length<=_;omega
  ·obtain⟨j,hj,rfl⟩:=List.mem_map.1 hp;have hjl:j<len:=by simpa using hj
   obtain⟨_,_,⟨s2,k2,_⟩,⟨s3,k3,_⟩⟩:=all j hjl;refine⟨?_,?_⟩
   ·show(qf5h W ⟨g,i+j*4+2,none⟩).length<=_;rw[qias k2];exact q463 h0 hs hjl (.inl rfl) k2
   ·show(qf5h W ⟨g,i+j*4+3,none⟩).length<=_;rw[qias k3];exact q463 h0 hs hjl (.inr rfl) k3
theorem q2s7{α:Type}{l:List α}{n:Nat}(h:l.length=n+1):∃a t,l=a::t/\t.length=n:=by
 cases l with
 |nil=>cases h
 |cons a t=>exact⟨a,t,rfl,by simpa using h⟩
theorem qocz{H:Type}{enc:TypeId×Value->H}{P:Program}{W:World}{base:Nat}{sp:Nat->Bool}{held:Bool}{t e:TypeId}{m:Nat}{c:Value}{y:DataW H×List MemPlace}(ht:P.underlying t=some (.slice e))
 (h:DataW.trod enc P W base sp held m t [c]=some y):(∃(A:Option Addr) (len cap:Nat),c=.slice A len cap)/\DataW.Trod enc P W base sp held t c y.1 y.2:=by
 rcases Go.Deep.open_slice ht h with ⟨hcs,_⟩|⟨a,len',cap',_,_,_,_,hcs,_⟩
 ·simp only[List.cons.injEq,and_true] at hcs;subst hcs;exact⟨⟨none,0,0,rfl⟩,m,h⟩
 ·simp only[List.cons.injEq,and_true] at hcs;subst hcs;exact⟨⟨some a,len',cap',rfl⟩,m,h⟩
theorem q2di{H:Type}{enc:TypeId×Value->H}{W:World}{base:Nat}{sp:Nat->Bool}{held:Bool}{g i len cap:Nat}{d:DataW H}{ps:List MemPlace}
 (h:DataW.Trod enc prog W base sp held 30 (.slice (some ⟨g,i,none⟩) len cap) d ps) (hs:∀n∈d.weights prog 30,n<=140737488351232)
 {j:Nat} (hj:j<len) {s:ByteArray} (hcell:W.cell? ⟨g,i+j*5,none⟩=some (.string s)):s.size<=140737488351232:=by
 obtain⟨fuel,hf⟩:=h;rcases Go.Deep.open_slice underlying30 hf with ⟨hcs,_⟩|⟨a,len',cap',m,n,D,Pl,hcs,_,hl,hm,hmm,hx,hi⟩
 ·simp[Value.cells] at hcs
 simp[Value.cells] at hcs;obtain⟨rfl,rfl,rfl⟩:=hcs;have hjm:j<m:=by rw[hmm];split<;>omega
 obtain⟨cs',hcl,ht'⟩:=hi j hjm;obtain⟨ys,n',_,hD,hlen,hyl,hfld⟩:=DataW.trod_struct underlying67 ht';have hC:prog.cellsOf 67=5:=by kernel_rfl
 obtain⟨_,hcl2,hat⟩:=World.cells?_some hcl;rw[hC] at hcl2 hat;have h1:=hat 0 (by decide);rw[Addr.add_lit,Addr.add_lit,Nat.add_zero,hcell] at h1;have hcc:0<cs'.length:=by omega
 have h4:=hfld 0 _ rfl;have h4:DataW.trod enc prog W base sp held n' 9 ((cs'.drop 0).take (prog.cellsOf 9))=ys[0]? := h4;rw[show prog.cellsOf 9=1 by kernel_rfl,List.drop_eq_getElem_cons hcc] at h4;have e5:cs'[0]=.string s:=by rw[List.getElem?_eq_getElem hcc] at h1;exact(Option.some.inj h1).symm
 rw[e5] at h4;have hyc:0<ys.length:=by rw[hyl];decide
 rw[List.getElem?_eq_getElem hyc] at h4;obtain⟨s',e6,e7,_⟩:=DataW.trod_string underlying9 h4;simp at e6;subst e6;have hDj:s.data.toList.length∈(D j).weights prog 67:=by
  have e1:(D j)=.agg (ys.map (·.1)):=congrArg Prod.fst hD;rw[e1,DataW.weights,underlying67];refine DataW.weights_mem_each (j:=0) (t:=9) (d := .lit (.string s.data.toList)) rfl ?_ _ ?_
  ·rw[List.getElem?_map,List.getElem?_eq_getElem hyc,Option.map_some,e7]
  ·rw[DataW.weights];exact List.mem_singleton.2 rfl
 have hd:d=.slice ((List.range len).map D) ((List.range (m-len)).map fun j=>D (len+j)):=congrArg Prod.fst hx;rw[show s.size=s.data.toList.length by simp];refine hs _ ?_;rw[hd,DataW.weights,underlying30];exact List.mem_cons_of_mem _ (List.mem_append_left _ (qokk (List.mem_map.2 ⟨j,List.mem_range.2 hj,rfl⟩) hDj))
def qqe1(W:World)(p:Addr):Bool:=match W.cell? p with
 |some (.bool b)=>b
 |_=>false
def fiAt(W:World)(g o:Nat):Fi:=⟨qf5h W ⟨g,o,none⟩,qjis W ⟨g,o+1,none⟩,qqe1 W ⟨g,o+2,none⟩,qqe1 W ⟨g,o+3,none⟩,qjis W ⟨g,o+4,none⟩⟩
theorem qtkw{W:World}{p:Addr}{b:Bool}(h:W.cell? p=some (.bool b)):W.cell? p=some (.bool (qqe1 W p)):=by unfold qqe1;rw[h]
theorem qqq2{H:Type}{enc:TypeId×Value->H}{W:World}{base:Nat}{sp:Nat->Bool}{held:Bool}{v:Value}{d:DataW H}{ps:List MemPlace}
 (hv:∃(A:Option Addr) (len cap:Nat),v=.slice A len cap) (h:DataW.Trod enc prog W base sp held 30 v d ps) (hs:∀n∈d.weights prog 30,n<=140737488351232) :
 ∃(A:Option Addr) (n c:Nat) (l:List Fi),v=.slice A n c/\l.length=n/\CL W A (fcs l)/\∀f∈l,f.topic.length<=140737488351232:=by
 have hv0:=hv;have h0:=h;obtain⟨A,len,cap,rfl⟩:=hv;obtain⟨A',n',c',he,_,hin⟩:=q83e underlying30 underlying67 (by kernel_rfl) (by kernel_rfl) (by decide) hv0 h0;simp only[Value.slice.injEq] at he;obtain⟨rfl,rfl,rfl⟩:=he;by_cases hn:len=0
 ·subst hn;exact⟨A,0,cap,[],rfl,rfl,CL.nil,fun p hp=>by cases hp⟩
 ·obtain⟨a,rfl,hb,each⟩:=hin (by omega);have hC:prog.cellsOf 67=5:=by kernel_rfl
  rw[hC] at each;obtain⟨g,i,spot⟩:=a;have hspot:spot=none:=by
   obtain⟨u,y,m,hu,_⟩:=each 0 (by omega) 0 _ rfl;have e0:((⟨g,i,spot⟩:Addr).add (0*5)).add 0=⟨g,i,spot⟩:=by simp[Addr.add]
   rw[e0] at hu;cases spot with
   |none=>rfl
   |some x=>unfold World.cell? at hu;split at hu<;>simp at hu
  subst hspot;have ea:∀j k,((⟨g,i,none⟩:Addr).add (j*5)).add k=⟨g,i+j*5+k,none⟩:=fun j k=>by rw[Addr.add_lit,Addr.add_lit]
  have all:∀j,j<len->(∃s:ByteArray,W.cell? ⟨g,i+j*5,none⟩=some (.string s))/\(∃z:Int,W.cell? ⟨g,i+j*5+1,none⟩=some (.int .i64 z))/\
   (∃b:Bool,W.cell? ⟨g,i+j*5+2,none⟩=some (.bool b))/\(∃b:Bool,W.cell? ⟨g,i+j*5+3,none⟩=some (.bool b))/\(∃z:Int,W.cell? ⟨g,i+j*5+4,none⟩=some (.int .i64 z)):=by
   intro j hj;refine⟨?_,?_,?_,?_,?_⟩
   ·obtain⟨u,y,m,hu,ht⟩:=each j hj 0 _ rfl;rw[ea,Nat.add_zero] at hu;obtain⟨z,e1,_,_⟩:=DataW.trod_string underlying9 ht;simp at e1;subst e1;exact⟨z,hu⟩
   ·obtain⟨u,y,m,hu,ht⟩:=each j hj 1 _ rfl;rw[ea] at hu;obtain⟨z,e1,_,_⟩:=DataW.trod_int underlying3 ht;simp at e1;subst e1;exact⟨z,hu⟩
   ·obtain⟨u,y,m,hu,ht⟩:=each j hj 2 _ rfl;rw[ea] at hu;obtain⟨z,e1,_⟩:=DataW.trod_bool underlying4 ht;simp at e1;subst e1;exact⟨z,hu⟩
   ·obtain⟨u,y,m,hu,ht⟩:=each j hj 3 _ rfl;rw[ea] at hu;obtain⟨z,e1,_⟩:=DataW.trod_bool underlying4 ht;simp at e1;subst e1;exact⟨z,hu⟩
   ·obtain⟨u,y,m,hu,ht⟩:=each j hj 4 _ rfl;rw[ea] at hu;obtain⟨z,e1,_,_⟩:=DataW.trod_int underlying3 ht;simp at e1;subst e1;exact⟨z,hu⟩
  refine⟨_,len,cap,(List.range len).map fun j=>fiAt W g (i+j*5),rfl,by simp,fun _=>⟨g,i,rfl,hb,fun j u hu=>?_⟩,fun p hp=>?_⟩
  ·have hj:j<len*5:=by
    have:=(List.getElem?_eq_some_iff.1 hu).1
    rw[q4av] at this;simpa using this
   have hk:j / 5<len:=by omega
   obtain⟨⟨s0,k0⟩,⟨z1,k1⟩,⟨b2,k2⟩,⟨b3,k3⟩,⟨z4,k4⟩⟩:=all (j / 5) hk;have hf:((List.range len).map fun j=>fiAt W g (i+j*5))[j / 5]?=some (fiAt W g (i+j / 5*5)):=by rw[List.getElem?_map,List.getElem?_range hk];rfl
   have hq:=q4ip _ (j / 5) (j%5) _ hf (by omega);rw[show j / 5*5+j%5=j by omega,hu] at hq;have hr:j%5=0\/j%5=1\/j%5=2\/j%5=3\/j%5=4:=by omega
   rcases hr with h|h|h|h|h
   ·rw[h] at hq;rw[show i+j=i+j / 5*5 by omega];exact(qfs9 k0).trans hq.symm
   ·rw[h] at hq;rw[show i+j=i+j / 5*5+1 by omega];exact(qh31 k1).trans hq.symm
   ·rw[h] at hq;rw[show i+j=i+j / 5*5+2 by omega];exact(qtkw k2).trans hq.symm
   ·rw[h] at hq;rw[show i+j=i+j / 5*5+3 by omega];exact(qtkw k3).trans hq.symm
   ·rw[h] at hq;rw[show i+j=i+j / 5*5+4 by omega];exact(qh31 k4).trans hq.symm
  ·obtain⟨j,hj,rfl⟩:=List.mem_map.1 hp;have hjl:j<len:=by simpa using hj
   obtain⟨⟨s0,k0⟩,_⟩:=all j hjl;show(qf5h W ⟨g,i+j*5,none⟩).length<=_;rw[qias k0];exact q2di h0 hs hjl k0
theorem q25g{H:Type}{enc:TypeId×Value->H}{W:World}{base:Nat}{sp:Nat->Bool}{held:Bool}{v:Value}{d:DataW H}{ps:List MemPlace}
 (hv:∃(A:Option Addr) (len cap:Nat),v=.slice A len cap) (h:DataW.Trod enc prog W base sp held 29 v d ps) :
 ∃(A:Option Addr) (n c:Nat) (l:List Int),v=.slice A n c/\l.length=n/\CL W A (ics l):=by
 obtain⟨A,n,c,zs,rfl,_,_,hin⟩:=qfio underlying29 underlying3 (by kernel_rfl) hv h;refine⟨A,n,c,(List.range n).map fun i=>zs.getD i 0,rfl,by simp,fun hne=>?_⟩;have hn:0<n:=by
  cases n with
  |zero=>exact absurd rfl hne
  |succ n=>omega
 obtain⟨a,rfl,hb,hc⟩:=hin hn;obtain⟨g,i,spot⟩:=a;have hspot:spot=none:=by
  have hu:=hc 0 hn;have e0:(⟨g,i,spot⟩:Addr).add 0=⟨g,i,spot⟩:=by simp[Addr.add]
  rw[e0] at hu;cases spot with
  |none=>rfl
  |some x=>unfold World.cell? at hu;split at hu<;>simp at hu
 subst hspot;refine⟨g,i,rfl,hb,fun j u hu=>?_⟩;have hj:j<n:=by
  have:=(List.getElem?_eq_some_iff.1 hu).1
  rw[ql3l] at this;simpa using this
 have h1:=hc j hj;rw[Addr.add_lit] at h1;rw[h1];have h2:=q9jw ((List.range n).map fun i=>zs.getD i 0) j (zs.getD j 0) (by rw[List.getElem?_map,List.getElem?_range hj];rfl);rw[hu] at h2;exact h2.symm
theorem qpub{H:Type}{enc:TypeId×Value->H}{W:World}{base:Nat}{sp:Nat->Bool}{held:Bool}{v:Value}{d:DataW H}{ps:List MemPlace}
 (hval:∃cs:List Value,v=.agg ⟨cs⟩/\cs.length=25) (h:DataW.Trod enc prog W base sp held 32 v d ps) (hs:∀n∈d.weights prog 32,n<=140737488351232) :
 ∃(p:Pk) (a:Ad),v=pkV p a/\PkAt W p a/\PkOk p/\PkCap p a/\(a.pc<=maxLen/\a.wc<=maxLen):=by
 have hCw:prog.cellsOf 28=5:=by kernel_rfl
 have hCi:prog.cellsOf 3=1:=by kernel_rfl
 have hCb:prog.cellsOf 4=1:=by kernel_rfl
 have hCs:prog.cellsOf 9=1:=by kernel_rfl
 have hCci:prog.cellsOf 29=1:=by kernel_rfl
 have hCfi:prog.cellsOf 30=1:=by kernel_rfl
 have hCpi:prog.cellsOf 26=1:=by kernel_rfl
 obtain⟨cs,rfl,hc⟩:=hval;obtain⟨c0,t0,rfl,l0⟩:=q2s7 hc;obtain⟨c1,t1,rfl,l1⟩:=q2s7 l0;obtain⟨c2,t2,rfl,l2⟩:=q2s7 l1;obtain⟨c3,t3,rfl,l3⟩:=q2s7 l2;obtain⟨c4,t4,rfl,l4⟩:=q2s7 l3;obtain⟨c5,t5,rfl,l5⟩:=q2s7 l4;obtain⟨c6,t6,rfl,l6⟩:=q2s7 l5;obtain⟨c7,t7,rfl,l7⟩:=q2s7 l6;obtain⟨c8,t8,rfl,l8⟩:=q2s7 l7;obtain⟨c9,t9,rfl,l9⟩:=q2s7 l8;obtain⟨c10,t10,rfl,l10⟩:=q2s7 l9;obtain⟨c11,t11,rfl,l11⟩:=q2s7 l10;obtain⟨c12,t12,rfl,l12⟩:=q2s7 l11;obtain⟨c13,t13,rfl,l13⟩:=q2s7 l12;obtain⟨c14,t14,rfl,l14⟩:=q2s7 l13;obtain⟨c15,t15,rfl,l15⟩:=q2s7 l14;obtain⟨c16,t16,rfl,l16⟩:=q2s7 l15;obtain⟨c17,t17,rfl,l17⟩:=q2s7 l16;obtain⟨c18,t18,rfl,l18⟩:=q2s7 l17;obtain⟨c19,t19,rfl,l19⟩:=q2s7 l18;obtain⟨c20,t20,rfl,l20⟩:=q2s7 l19;obtain⟨c21,t21,rfl,l21⟩:=q2s7 l20;obtain⟨c22,t22,rfl,l22⟩:=q2s7 l21;obtain⟨c23,t23,rfl,l23⟩:=q2s7 l22;obtain⟨c24,t24,rfl,l24⟩:=q2s7 l23;obtain rfl:t24=[]:=List.length_eq_zero_iff.1 l24;obtain⟨fuel,hf⟩:=h;obtain⟨ys,n',_,hD,_,hyl,hfld⟩:=DataW.trod_struct underlying32 hf;have hyl:ys.length=21:=hyl;obtain⟨y0,z0,rfl,m0⟩:=q2s7 hyl;obtain⟨y1,z1,rfl,m1⟩:=q2s7 m0;obtain⟨y2,z2,rfl,m2⟩:=q2s7 m1;obtain⟨y3,z3,rfl,m3⟩:=q2s7 m2;obtain⟨y4,z4,rfl,m4⟩:=q2s7 m3;obtain⟨y5,z5,rfl,m5⟩:=q2s7 m4;obtain⟨y6,z6,rfl,m6⟩:=q2s7 m5;obtain⟨y7,z7,rfl,m7⟩:=q2s7 m6;obtain⟨y8,z8,rfl,m8⟩:=q2s7 m7;obtain⟨y9,z9,rfl,m9⟩:=q2s7 m8;obtain⟨y10,z10,rfl,m10⟩:=q2s7 m9;obtain⟨y11,z11,rfl,m11⟩:=q2s7 m10;obtain⟨y12,z12,rfl,m12⟩:=q2s7 m11;obtain⟨y13,z13,rfl,m13⟩:=q2s7 m12;obtain⟨y14,z14,rfl,m14⟩:=q2s7 m13;obtain⟨y15,z15,rfl,m15⟩:=q2s7 m14;obtain⟨y16,z16,rfl,m16⟩:=q2s7 m15;obtain⟨y17,z17,rfl,m17⟩:=q2s7 m16;obtain⟨y18,z18,rfl,m18⟩:=q2s7 m17;obtain⟨y19,z19,rfl,m19⟩:=q2s7 m18;obtain⟨y20,z20,rfl,m20⟩:=q2s7 m19;obtain rfl:z20=[]:=List.length_eq_zero_iff.1 m20;have f0:DataW.trod enc prog W base sp held n' 3 [c0]=some y0:=by have h0:DataW.trod enc prog W base sp held n' 3 (([c0,c1,c2,c3,c4,c5,c6,c7,c8,c9,c10,c11,c12,c13,c14,c15,c16,c17,c18,c19,c20,c21,c22,c23,c24].drop 0).take (prog.cellsOf 3))=some y0:=hfld 0 _ rfl;rw[hCi] at h0;exact h0
 have f1:DataW.trod enc prog W base sp held n' 4 [c1]=some y1:=by have h0:DataW.trod enc prog W base sp held n' 4 (([c0,c1,c2,c3,c4,c5,c6,c7,c8,c9,c10,c11,c12,c13,c14,c15,c16,c17,c18,c19,c20,c21,c22,c23,c24].drop 1).take (prog.cellsOf 4))=some y1:=hfld 1 _ rfl;rw[hCb] at h0;exact h0
 have f2:DataW.trod enc prog W base sp held n' 4 [c2]=some y2:=by have h0:DataW.trod enc prog W base sp held n' 4 (([c0,c1,c2,c3,c4,c5,c6,c7,c8,c9,c10,c11,c12,c13,c14,c15,c16,c17,c18,c19,c20,c21,c22,c23,c24].drop 2).take (prog.cellsOf 4))=some y2:=hfld 2 _ rfl;rw[hCb] at h0;exact h0
 have f3:DataW.trod enc prog W base sp held n' 3 [c3]=some y3:=by have h0:DataW.trod enc prog W base sp held n' 3 (([c0,c1,c2,c3,c4,c5,c6,c7,c8,c9,c10,c11,c12,c13,c14,c15,c16,c17,c18,c19,c20,c21,c22,c23,c24].drop 3).take (prog.cellsOf 3))=some y3:=hfld 3 _ rfl;rw[hCi] at h0;exact h0
 have f4:DataW.trod enc prog W base sp held n' 3 [c4]=some y4:=by have h0:DataW.trod enc prog W base sp held n' 3 (([c0,c1,c2,c3,c4,c5,c6,c7,c8,c9,c10,c11,c12,c13,c14,c15,c16,c17,c18,c19,c20,c21,c22,c23,c24].drop 4).take (prog.cellsOf 3))=some y4:=hfld 4 _ rfl;rw[hCi] at h0;exact h0
 have f5:DataW.trod enc prog W base sp held n' 9 [c5]=some y5:=by have h0:DataW.trod enc prog W base sp held n' 9 (([c0,c1,c2,c3,c4,c5,c6,c7,c8,c9,c10,c11,c12,c13,c14,c15,c16,c17,c18,c19,c20,c21,c22,c23,c24].drop 5).take (prog.cellsOf 9))=some y5:=hfld 5 _ rfl;rw[hCs] at h0;exact h0
 have f6:DataW.trod enc prog W base sp held n' 9 [c6]=some y6:=by have h0:DataW.trod enc prog W base sp held n' 9 (([c0,c1,c2,c3,c4,c5,c6,c7,c8,c9,c10,c11,c12,c13,c14,c15,c16,c17,c18,c19,c20,c21,c22,c23,c24].drop 6).take (prog.cellsOf 9))=some y6:=hfld 6 _ rfl;rw[hCs] at h0;exact h0
 have f7:DataW.trod enc prog W base sp held n' 4 [c7]=some y7:=by have h0:DataW.trod enc prog W base sp held n' 4 (([c0,c1,c2,c3,c4,c5,c6,c7,c8,c9,c10,c11,c12,c13,c14,c15,c16,c17,c18,c19,c20,c21,c22,c23,c24].drop 7).take (prog.cellsOf 4))=some y7:=hfld 7 _ rfl;rw[hCb] at h0;exact h0
 have f8:DataW.trod enc prog W base sp held n' 3 [c8]=some y8:=by have h0:DataW.trod enc prog W base sp held n' 3 (([c0,c1,c2,c3,c4,c5,c6,c7,c8,c9,c10,c11,c12,c13,c14,c15,c16,c17,c18,c19,c20,c21,c22,c23,c24].drop 8).take (prog.cellsOf 3))=some y8:=hfld 8 _ rfl;rw[hCi] at h0;exact h0
 have f9:DataW.trod enc prog W base sp held n' 9 [c9]=some y9:=by have h0:DataW.trod enc prog W base sp held n' 9 (([c0,c1,c2,c3,c4,c5,c6,c7,c8,c9,c10,c11,c12,c13,c14,c15,c16,c17,c18,c19,c20,c21,c22,c23,c24].drop 9).take (prog.cellsOf 9))=some y9:=hfld 9 _ rfl;rw[hCs] at h0;exact h0
 have f10:DataW.trod enc prog W base sp held n' 4 [c10]=some y10:=by have h0:DataW.trod enc prog W base sp held n' 4 (([c0,c1,c2,c3,c4,c5,c6,c7,c8,c9,c10,c11,c12,c13,c14,c15,c16,c17,c18,c19,c20,c21,c22,c23,c24].drop 10).take (prog.cellsOf 4))=some y10:=hfld 10 _ rfl;rw[hCb] at h0;exact h0
 have f11:DataW.trod enc prog W base sp held n' 9 [c11]=some y11:=by have h0:DataW.trod enc prog W base sp held n' 9 (([c0,c1,c2,c3,c4,c5,c6,c7,c8,c9,c10,c11,c12,c13,c14,c15,c16,c17,c18,c19,c20,c21,c22,c23,c24].drop 11).take (prog.cellsOf 9))=some y11:=hfld 11 _ rfl;rw[hCs] at h0;exact h0
 have f12:DataW.trod enc prog W base sp held n' 4 [c12]=some y12:=by have h0:DataW.trod enc prog W base sp held n' 4 (([c0,c1,c2,c3,c4,c5,c6,c7,c8,c9,c10,c11,c12,c13,c14,c15,c16,c17,c18,c19,c20,c21,c22,c23,c24].drop 12).take (prog.cellsOf 4))=some y12:=hfld 12 _ rfl;rw[hCb] at h0;exact h0
 have f13:DataW.trod enc prog W base sp held n' 9 [c13]=some y13:=by have h0:DataW.trod enc prog W base sp held n' 9 (([c0,c1,c2,c3,c4,c5,c6,c7,c8,c9,c10,c11,c12,c13,c14,c15,c16,c17,c18,c19,c20,c21,c22,c23,c24].drop 13).take (prog.cellsOf 9))=some y13:=hfld 13 _ rfl;rw[hCs] at h0;exact h0
 have f14:DataW.trod enc prog W base sp held n' 4 [c14]=some y14:=by have h0:DataW.trod enc prog W base sp held n' 4 (([c0,c1,c2,c3,c4,c5,c6,c7,c8,c9,c10,c11,c12,c13,c14,c15,c16,c17,c18,c19,c20,c21,c22,c23,c24].drop 14).take (prog.cellsOf 4))=some y14:=hfld 14 _ rfl;rw[hCb] at h0;exact h0
 have f15:DataW.trod enc prog W base sp held n' 28 [c15,c16,c17,c18,c19]=some y15:=by have h0:DataW.trod enc prog W base sp held n' 28 (([c0,c1,c2,c3,c4,c5,c6,c7,c8,c9,c10,c11,c12,c13,c14,c15,c16,c17,c18,c19,c20,c21,c22,c23,c24].drop 15).take (prog.cellsOf 28))=some y15:=hfld 15 _ rfl;rw[hCw] at h0;exact h0
 have f16:DataW.trod enc prog W base sp held n' 4 [c20]=some y16:=by have h0:DataW.trod enc prog W base sp held n' 4 (([c0,c1,c2,c3,c4,c5,c6,c7,c8,c9,c10,c11,c12,c13,c14,c15,c16,c17,c18,c19,c20,c21,c22,c23,c24].drop 20).take (prog.cellsOf 4))=some y16:=hfld 16 _ rfl;rw[hCb] at h0;exact h0
 have f17:DataW.trod enc prog W base sp held n' 3 [c21]=some y17:=by have h0:DataW.trod enc prog W base sp held n' 3 (([c0,c1,c2,c3,c4,c5,c6,c7,c8,c9,c10,c11,c12,c13,c14,c15,c16,c17,c18,c19,c20,c21,c22,c23,c24].drop 21).take (prog.cellsOf 3))=some y17:=hfld 17 _ rfl;rw[hCi] at h0;exact h0
 have f18:DataW.trod enc prog W base sp held n' 29 [c22]=some y18:=by have h0:DataW.trod enc prog W base sp held n' 29 (([c0,c1,c2,c3,c4,c5,c6,c7,c8,c9,c10,c11,c12,c13,c14,c15,c16,c17,c18,c19,c20,c21,c22,c23,c24].drop 22).take (prog.cellsOf 29))=some y18:=hfld 18 _ rfl;rw[hCci] at h0;exact h0
 have f19:DataW.trod enc prog W base sp held n' 30 [c23]=some y19:=by have h0:DataW.trod enc prog W base sp held n' 30 (([c0,c1,c2,c3,c4,c5,c6,c7,c8,c9,c10,c11,c12,c13,c14,c15,c16,c17,c18,c19,c20,c21,c22,c23,c24].drop 23).take (prog.cellsOf 30))=some y19:=hfld 19 _ rfl;rw[hCfi] at h0;exact h0
 have f20:DataW.trod enc prog W base sp held n' 26 [c24]=some y20:=by have h0:DataW.trod enc prog W base sp held n' 26 (([c0,c1,c2,c3,c4,c5,c6,c7,c8,c9,c10,c11,c12,c13,c14,c15,c16,c17,c18,c19,c20,c21,c22,c23,c24].drop 24).take (prog.cellsOf 26))=some y20:=hfld 20 _ rfl;rw[hCpi] at h0;exact h0
 obtain⟨ys,n2,_,hDw,_,hyw,hfw⟩:=DataW.trod_struct underlying28 f15;have hyw:ys.length=5:=hyw;obtain⟨x0,u0,rfl,k0⟩:=q2s7 hyw;obtain⟨x1,u1,rfl,k1⟩:=q2s7 k0;obtain⟨x2,u2,rfl,k2⟩:=q2s7 k1;obtain⟨x3,u3,rfl,k3⟩:=q2s7 k2;obtain⟨x4,u4,rfl,k4⟩:=q2s7 k3;obtain rfl:u4=[]:=List.length_eq_zero_iff.1 k4;have g0:DataW.trod enc prog W base sp held n2 9 [c15]=some x0:=by have h0:DataW.trod enc prog W base sp held n2 9 (([c15,c16,c17,c18,c19].drop 0).take (prog.cellsOf 9))=some x0:=hfw 0 _ rfl;rw[hCs] at h0;exact h0
 have g1:DataW.trod enc prog W base sp held n2 9 [c16]=some x1:=by have h0:DataW.trod enc prog W base sp held n2 9 (([c15,c16,c17,c18,c19].drop 1).take (prog.cellsOf 9))=some x1:=hfw 1 _ rfl;rw[hCs] at h0;exact h0
 have g2:DataW.trod enc prog W base sp held n2 3 [c17]=some x2:=by have h0:DataW.trod enc prog W base sp held n2 3 (([c15,c16,c17,c18,c19].drop 2).take (prog.cellsOf 3))=some x2:=hfw 2 _ rfl;rw[hCi] at h0;exact h0
 have g3:DataW.trod enc prog W base sp held n2 4 [c18]=some x3:=by have h0:DataW.trod enc prog W base sp held n2 4 (([c15,c16,c17,c18,c19].drop 3).take (prog.cellsOf 4))=some x3:=hfw 3 _ rfl;rw[hCb] at h0;exact h0
 have g4:DataW.trod enc prog W base sp held n2 26 [c19]=some x4:=by have h0:DataW.trod enc prog W base sp held n2 26 (([c15,c16,c17,c18,c19].drop 4).take (prog.cellsOf 26))=some x4:=hfw 4 _ rfl;rw[hCpi] at h0;exact h0
 have hd:d=.agg [y0.1,y1.1,y2.1,y3.1,y4.1,y5.1,y6.1,y7.1,y8.1,y9.1,y10.1,y11.1,y12.1,y13.1,y14.1,y15.1,y16.1,y17.1,y18.1,y19.1,y20.1]:=congrArg Prod.fst hD;have hdw:y15.1=.agg [x0.1,x1.1,x2.1,x3.1,x4.1]:=congrArg Prod.fst hDw;have wt:∀(j:Nat) (t:TypeId) (e:DataW H),([3,4,4,3,3,9,9,4,3,9,4,9,4,9,4,28,4,3,29,30,26]:List TypeId)[j]?=some t->([y0.1,y1.1,y2.1,y3.1,y4.1,y5.1,y6.1,y7.1,y8.1,y9.1,y10.1,y11.1,y12.1,y13.1,y14.1,y15.1,y16.1,y17.1,y18.1,y19.1,y20.1]:List (DataW H))[j]?=some e->∀n∈e.weights prog t,n<=140737488351232:=fun j t e h1 h2 n hn=>hs n (by rw[hd,DataW.weights,underlying32];exact DataW.weights_mem_each (j:=j) (t:=t) (d:=e) h1 h2 n hn)
 have ww:∀(j:Nat) (t:TypeId) (e:DataW H),([9,9,3,4,26]:List TypeId)[j]?=some t->([x0.1,x1.1,x2.1,x3.1,x4.1]:List (DataW H))[j]?=some e->∀n∈e.weights prog t,n<=140737488351232:=fun j t e h1 h2 n hn=>wt 15 28 y15.1 rfl rfl n (by rw[hdw,DataW.weights,underlying28];exact DataW.weights_mem_each (j:=j) (t:=t) (d:=e) h1 h2 n hn)
 obtain⟨v_kind,e,_,r_kind⟩:=DataW.trod_int underlying3 f0;simp only[List.cons.injEq,and_true] at e;subst e;obtain⟨v_dup,e,_⟩:=DataW.trod_bool underlying4 f1;simp only[List.cons.injEq,and_true] at e;subst e;obtain⟨v_retain,e,_⟩:=DataW.trod_bool underlying4 f2;simp only[List.cons.injEq,and_true] at e;subst e;obtain⟨v_qos,e,_,r_qos⟩:=DataW.trod_int underlying3 f3;simp only[List.cons.injEq,and_true] at e;subst e;obtain⟨v_id,e,_,r_id⟩:=DataW.trod_int underlying3 f4;simp only[List.cons.injEq,and_true] at e;subst e;obtain⟨v_topic,e,r_topic,_⟩:=DataW.trod_string underlying9 f5;simp only[List.cons.injEq,and_true] at e;subst e;have q_topic:v_topic.data.toList.length<=140737488351232:=wt 5 9 y5.1 rfl rfl _ (by rw[r_topic,DataW.weights];exact List.mem_singleton.2 rfl);obtain⟨v_payload,e,r_payload,_⟩:=DataW.trod_string underlying9 f6;simp only[List.cons.injEq,and_true] at e;subst e;have q_payload:v_payload.data.toList.length<=140737488351232:=wt 6 9 y6.1 rfl rfl _ (by rw[r_payload,DataW.weights];exact List.mem_singleton.2 rfl);obtain⟨v_clean,e,_⟩:=DataW.trod_bool underlying4 f7;simp only[List.cons.injEq,and_true] at e;subst e;obtain⟨v_keep,e,_,r_keep⟩:=DataW.trod_int underlying3 f8;simp only[List.cons.injEq,and_true] at e;subst e;obtain⟨v_client,e,r_client,_⟩:=DataW.trod_string underlying9 f9;simp only[List.cons.injEq,and_true] at e;subst e;have q_client:v_client.data.toList.length<=140737488351232:=wt 9 9 y9.1 rfl rfl _ (by rw[r_client,DataW.weights];exact List.mem_singleton.2 rfl);obtain⟨v_hasUser,e,_⟩:=DataW.trod_bool underlying4 f10;simp only[List.cons.injEq,and_true] at e;subst e;obtain⟨v_user,e,r_user,_⟩:=DataW.trod_string underlying9 f11;simp only[List.cons.injEq,and_true] at e;subst e;have q_user:v_user.data.toList.length<=140737488351232:=wt 11 9 y11.1 rfl rfl _ (by rw[r_user,DataW.weights];exact List.mem_singleton.2 rfl);obtain⟨v_hasPass,e,_⟩:=DataW.trod_bool underlying4 f12;simp only[List.cons.injEq,and_true] at e;subst e;obtain⟨v_pass,e,r_pass,_⟩:=DataW.trod_string underlying9 f13;simp only[List.cons.injEq,and_true] at e;subst e;have q_pass:v_pass.data.toList.length<=140737488351232:=wt 13 9 y13.1 rfl rfl _ (by rw[r_pass,DataW.weights];exact List.mem_singleton.2 rfl);obtain⟨v_hasWill,e,_⟩:=DataW.trod_bool underlying4 f14;simp only[List.cons.injEq,and_true] at e;subst e;obtain⟨v_session,e,_⟩:=DataW.trod_bool underlying4 f16;simp only[List.cons.injEq,and_true] at e;subst e;obtain⟨v_code,e,_,r_code⟩:=DataW.trod_int underlying3 f17;simp only[List.cons.injEq,and_true] at e;subst e;obtain⟨s_codes,t_codes⟩:=qocz underlying29 f18;obtain⟨A_codes,n_codes,cap_codes,l_codes,e,len_codes,pl_codes⟩:=q25g s_codes t_codes;subst e;obtain⟨s_filters,t_filters⟩:=qocz underlying30 f19;obtain⟨A_filters,n_filters,cap_filters,l_filters,e,len_filters,pl_filters,q_filters⟩:=qqq2 s_filters t_filters (wt 19 30 y19.1 rfl rfl);subst e;obtain⟨s_props,t_props⟩:=qocz underlying26 f20;obtain⟨A_props,n_props,cap_props,l_props,e,len_props,k_props,mx_props,pl_props,ok_props,q_props⟩:=qpef s_props t_props (wt 20 26 y20.1 rfl rfl);subst e;obtain⟨v_wTopic,e,r_wTopic,_⟩:=DataW.trod_string underlying9 g0;simp only[List.cons.injEq,and_true] at e;subst e;have q_wTopic:v_wTopic.data.toList.length<=140737488351232:=ww 0 9 x0.1 rfl rfl _ (by rw[r_wTopic,DataW.weights];exact List.mem_singleton.2 rfl);obtain⟨v_wPayload,e,r_wPayload,_⟩:=DataW.trod_string underlying9 g1;simp only[List.cons.injEq,and_true] at e;subst e;have q_wPayload:v_wPayload.data.toList.length<=140737488351232:=ww 1 9 x1.1 rfl rfl _ (by rw[r_wPayload,DataW.weights];exact List.mem_singleton.2 rfl);obtain⟨v_wQos,e,_,r_wQos⟩:=DataW.trod_int underlying3 g2;simp only[List.cons.injEq,and_true] at e;subst e;obtain⟨v_wRetain,e,_⟩:=DataW.trod_bool underlying4 g3;simp only[List.cons.injEq,and_true] at e;subst e;obtain⟨s_wProps,t_wProps⟩:=qocz underlying26 g4;obtain⟨A_wProps,n_wProps,cap_wProps,l_wProps,e,len_wProps,k_wProps,mx_wProps,pl_wProps,ok_wProps,q_wProps⟩:=qpef s_wProps t_wProps (ww 4 26 x4.1 rfl rfl);subst e;subst len_wProps len_codes len_filters len_props;have r0:=qwve r_kind;have r1:=qwve r_qos;refine⟨⟨v_kind,v_dup,v_retain,v_qos,v_id,v_topic.data.toList,v_payload.data.toList,v_clean,v_keep,v_client.data.toList,v_hasUser,v_user.data.toList,v_hasPass,v_pass.data.toList,v_hasWill,v_wTopic.data.toList,v_wPayload.data.toList,v_wQos,v_wRetain,l_wProps,v_session,v_code,l_codes,l_filters,l_props⟩,⟨A_wProps,cap_wProps,A_codes,cap_codes,A_filters,cap_filters,A_props,cap_props⟩,rfl,⟨pl_wProps,pl_codes,pl_filters,pl_props⟩,⟨r0,r1,?_,fun x hx=>⟨ok_wProps x hx,q_wProps x hx⟩,fun x hx=>⟨ok_props x hx,q_props x hx⟩,q_filters⟩,⟨k_props,k_wProps,qwve r_wQos⟩,⟨mx_props,mx_wProps⟩⟩;intro t ht;simp only[Pk.texts,List.mem_cons,List.not_mem_nil,or_false] at ht;rcases ht with rfl|rfl|rfl|rfl|rfl|rfl|rfl
 all_goals assumption
theorem qtsx{H:Type}{enc:TypeId×Value->H}{W:World}{base b0:Nat}{sp:Nat->Bool}{held:Bool}{r:Reach}{v:Value}{d:DataW H}{ps:List MemPlace}
 (hval:Value.okWide prog W r b0 32 v) (h:DataW.Trod enc prog W base sp held 32 v d ps) (hs:∀n∈d.weights prog 32,n<=140737488351232) :
 ∃(p:Pk) (a:Ad),v=pkV p a/\PkAt W p a/\PkOk p/\PkCap p a/\(a.pc<=maxLen/\a.wc<=maxLen):=by
 refine qpub ?_ h hs;have hC:prog.cellsOf 32=25:=by kernel_rfl
 obtain⟨⟨cs⟩,rfl,hc⟩:=okWide_struct underlying32 hval;rw[hC] at hc;exact⟨cs,rfl,hc⟩
theorem q22p{H:Type}{enc:TypeId×Value->H}{W:World}{base b0:Nat}{sp:Nat->Bool}{held:Bool}{r:Reach}{v:Value}{d:DataW H}{ps:List MemPlace}
 (hval:Value.okWide prog W r b0 32 v) (h:DataW.Trod enc prog W base sp held 32 v d ps) (hs:∀n∈d.weights prog 32,n<=140737488351232) :
 ∃(p:Pk) (a:Ad),v=pkV p a/\PkAt W p a/\PkOk p/\PkCap p a:=by
 obtain⟨p,a,h1,h2,h3,h4,_⟩:=qtsx hval h hs;exact⟨p,a,h1,h2,h3,h4⟩
end Go.Proofs.YtombgnfedafkjaaGreatDoor
