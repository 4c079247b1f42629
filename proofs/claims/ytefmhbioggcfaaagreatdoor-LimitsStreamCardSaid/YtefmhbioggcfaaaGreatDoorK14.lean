/- Limits that came in as a struct: what they hold. No condition. -/
import Derived.Test.YtefmhbioggcfaaaGreatDoorK01
set_option maxRecDepth 100000
namespace Go.Proofs.YtefmhbioggcfaaaGreatDoor
open Proofs.Tryz
open Go.ChangeShapes Go.WideShapes Go.ChangeAt Go.RowKit
theorem qzjg{H:Type}{enc:TypeId×Value->H}{W:World}{base b0:Nat}{sp:Nat->Bool}{held:Bool}{r:Reach}{v:Value}{d:DataW H}{ps:List MemPlace}
 (hval:Value.okWide prog W r b0 24 v) (h:DataW.Trod enc prog W base sp held 24 v d ps) :
 ∃x y:Int,v=.agg #[.int .i64 x,.int .i64 y]:=by
 have hC:prog.cellsOf 24=2:=by kernel_rfl
 have hCi:prog.cellsOf 3=1:=by kernel_rfl
 obtain⟨cs,rfl,hc⟩:=okWide_struct underlying24 hval;rw[hC] at hc;obtain⟨c0,c1,rfl⟩:∃c0 c1,cs=#[c0,c1]:=by
  rcases cs with ⟨l⟩
  match l,hc with
  |[a,b],_=>exact⟨a,b,rfl⟩
 obtain⟨fuel,hf⟩:=h;obtain⟨ys,n',_,hD,_,hyl,hfld⟩:=DataW.trod_struct underlying24 hf;obtain⟨y0,y1,rfl⟩:∃y0 y1,ys=[y0,y1]:=by
  match ys,hyl with
  |[a,b],_=>exact⟨a,b,rfl⟩
 have f0:DataW.trod enc prog W base sp held n' 3 [c0]=some y0:=by have:=hfld 0 _ rfl;simpa [Value.cells,hCi] using this
 have f1:DataW.trod enc prog W base sp held n' 3 [c1]=some y1:=by have:=hfld 1 _ rfl;simpa [Value.cells,hCi] using this
 obtain⟨z0,e0,_,_⟩:=DataW.trod_int underlying3 f0;obtain⟨z1,e1,_,_⟩:=DataW.trod_int underlying3 f1;simp only[List.cons.injEq,and_true] at e0 e1;subst e0 e1;exact⟨z0,z1,rfl⟩
end Go.Proofs.YtefmhbioggcfaaaGreatDoor
