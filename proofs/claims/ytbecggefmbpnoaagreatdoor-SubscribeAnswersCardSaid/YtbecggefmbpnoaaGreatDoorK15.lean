/- A list of properties that came in, and a property: what they hold. No condition. -/
import Derived.Test.YtbecggefmbpnoaaGreatDoorK01
import Derived.Test.YtbecggefmbpnoaaGreatDoorK05
namespace Go.Proofs.YtbecggefmbpnoaaGreatDoor
open Go.ChangeShapes Go.WideShapes Go.ChangeAt Go.RowKit
def qf5h(W:World)(p:Addr):List UInt8:=match W.cell? p with
 | some (.string s)=>s.data.toList
 | _=>[]
theorem qfs9{W:World}{p:Addr}{s:ByteArray}(h:W.cell? p=some (.string s)):W.cell? p=some (.string (bs (qf5h W p))):=by
 unfold qf5h;rw[h];rfl
theorem qias{W:World}{p:Addr}{s:ByteArray}(h:W.cell? p=some (.string s)):(qf5h W p).length=s.size:=by
 unfold qf5h;rw[h];exact(show s.size=s.data.toList.length by simp).symm
theorem qokk{H:Type}{P:Program}{e:TypeId}{n:Nat}:∀{l:List (DataW H)} {d:DataW H},d∈l→n∈d.weights P e→n∈DataW.weightsAll P e l
 | x::l,d,hd,hn=>by
  rw[DataW.weightsAll,List.mem_append]
  rcases List.mem_cons.1 hd with rfl | hd
  ·exact .inl hn
  ·exact .inr (qokk hd hn)
end Go.Proofs.YtbecggefmbpnoaaGreatDoor
