/- A list of integers that came in, with its capacity. No condition. -/
import Derived.Test.YtefmhbioggcfaaaGreatDoorK01
import Derived.Test.YtefmhbioggcfaaaGreatDoorK15
set_option maxRecDepth 100000
namespace Go.Proofs.YtefmhbioggcfaaaGreatDoor
open Proofs.Tryz
open Go.ChangeShapes Go.WideShapes Go.ChangeAt Go.RowKit
theorem qus1{H:Type}{enc:TypeId×Value->H}{W:World}{base b0:Nat}{sp:Nat->Bool}{held:Bool}{r:Reach}{v:Value}{d:DataW H}{ps:List MemPlace}
 (hval:Value.okWide prog W r b0 35 v) (h:DataW.Trod enc prog W base sp held 35 v d ps) :
 ∃(A:Option Addr) (n cap:Nat) (zs:List Int),v=.slice A n cap/\n<=cap/\cap<=maxLen/\(A=none->cap=0)/\zs.length=n/\IR W A zs:=by
 obtain⟨A,len,cap,rfl⟩:=okWide_slice underlying35 hval;obtain⟨fuel,hf⟩:=h;rcases open_ints underlying35 underlying3 (by kernel_rfl) hf with ⟨hcs,_⟩|⟨a,len',cap',zs,hcs,_,hl,hm,hz,_,hcell,hwz⟩
 ·simp[Value.cells] at hcs;obtain⟨rfl,rfl,rfl⟩:=hcs;exact⟨none,0,0,[],rfl,Nat.le_refl _,by decide,fun _=>rfl,rfl,IR.nil⟩
 ·simp[Value.cells] at hcs;obtain⟨rfl,rfl,rfl⟩:=hcs;have hle:len<=zs.length:=by rw[hz];split<;>omega
  refine⟨some a,len,cap,zs.take len,rfl,by omega,by omega,(fun e=>by cases e),by rw[List.length_take];omega,fun h0=>⟨a,rfl,?_,fun i hi=>?_⟩⟩
  ·rw[List.length_take] at h0
   have:=World.block_lt_of_cell? W _ (hcell 0 (by omega))
   rwa [q2z6] at this
  ·rw[List.length_take] at hi;rw[hcell i (by omega)];simp[List.getD,List.getElem?_take_of_lt (show i<len by omega)]
end Go.Proofs.YtefmhbioggcfaaaGreatDoor
