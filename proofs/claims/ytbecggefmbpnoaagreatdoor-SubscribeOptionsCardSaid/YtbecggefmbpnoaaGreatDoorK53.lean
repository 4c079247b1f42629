/- A filter that came in as a struct: what it holds. No condition. -/
import Derived.Test.YtbecggefmbpnoaaGreatDoorK01
import Derived.Test.YtbecggefmbpnoaaGreatDoorK21
set_option maxRecDepth 100000
namespace Go.Proofs.YtbecggefmbpnoaaGreatDoor
open Go.ChangeShapes Go.WideShapes Go.ChangeAt Go.RowKit
theorem qs70{H:Type}{enc:TypeId×Value→H}{W:World}{base b0:Nat}{sp:Nat→Bool}{held:Bool}{r:Reach}{v:Value}{d:DataW H}{ps:List MemPlace}
 (hval:Value.okWide Tryz.prog W r b0 32 v) (h:DataW.Trod enc Tryz.prog W base sp held 32 v d ps) (hs:∀n∈d.weights Tryz.prog 32,n≤140737488351232) :
 ∃f:Fi,v = .agg (fiC f)∧f.topic.length≤140737488351232:=by
 have hC:Tryz.prog.cellsOf 32=5:=by kernel_rfl
 have hCs:Tryz.prog.cellsOf 9=1:=by kernel_rfl
 have hCi:Tryz.prog.cellsOf 3=1:=by kernel_rfl
 have hCb:Tryz.prog.cellsOf 4=1:=by kernel_rfl
 obtain⟨cs,rfl,hc⟩:=okWide_struct Tryz.underlying32 hval
 rw[hC] at hc
 obtain⟨c0,c1,c2,c3,c4,rfl⟩:∃c0 c1 c2 c3 c4,cs=#[c0,c1,c2,c3,c4]:=by
  rcases cs with ⟨l⟩
  match l,hc with
  | [a,b,c,d,e],_=>exact⟨a,b,c,d,e,rfl⟩
 obtain⟨fuel,hf⟩:=h
 obtain⟨ys,n',_,hD,_,hyl,hfld⟩:=DataW.trod_struct Tryz.underlying32 hf
 obtain⟨y0,y1,y2,y3,y4,rfl⟩:∃y0 y1 y2 y3 y4,ys=[y0,y1,y2,y3,y4]:=by
  match ys,hyl with
  | [a,b,c,d,e],_=>exact⟨a,b,c,d,e,rfl⟩
 have f0:DataW.trod enc Tryz.prog W base sp held n' 9 [c0]=some y0:=by have:=hfld 0 _ rfl;simpa [Value.cells,hCs] using this
 have f1:DataW.trod enc Tryz.prog W base sp held n' 3 [c1]=some y1:=by have:=hfld 1 _ rfl;simpa [Value.cells,hCi] using this
 have f2:DataW.trod enc Tryz.prog W base sp held n' 4 [c2]=some y2:=by have:=hfld 2 _ rfl;simpa [Value.cells,hCb] using this
 have f3:DataW.trod enc Tryz.prog W base sp held n' 4 [c3]=some y3:=by have:=hfld 3 _ rfl;simpa [Value.cells,hCb] using this
 have f4:DataW.trod enc Tryz.prog W base sp held n' 3 [c4]=some y4:=by have:=hfld 4 _ rfl;simpa [Value.cells,hCi] using this
 have hd:d = .agg [y0.1,y1.1,y2.1,y3.1,y4.1]:=congrArg Prod.fst hD
 obtain⟨s0,e0,g0,_⟩:=DataW.trod_string Tryz.underlying9 f0
 obtain⟨z1,e1,_,_⟩:=DataW.trod_int Tryz.underlying3 f1
 obtain⟨b2,e2,_⟩:=DataW.trod_bool Tryz.underlying4 f2
 obtain⟨b3,e3,_⟩:=DataW.trod_bool Tryz.underlying4 f3
 obtain⟨z4,e4,_,_⟩:=DataW.trod_int Tryz.underlying3 f4
 simp only[List.cons.injEq,and_true] at e0 e1 e2 e3 e4
 subst e0 e1 e2 e3 e4
 have k0:s0.data.toList.length≤140737488351232:=hs _ (by
  rw[hd,DataW.weights,Tryz.underlying32]
  refine DataW.weights_mem_each (j:=0) (t:=9) (d := .lit (.string s0.data.toList)) rfl (by rw[g0];rfl) _ ?_
  rw[DataW.weights];exact List.mem_singleton.2 rfl)
 exact⟨⟨s0.data.toList,z1,b2,b3,z4⟩,rfl,k0⟩
end Go.Proofs.YtbecggefmbpnoaaGreatDoor
