/- A struct built by an operation that a guard may keep back. No program. Condition: none. -/
import Derived.Lib.Hide
import Derived.Great.BuildSlice
import Derived.WalkSpells
import Derived.WalkLawsBesides
import Derived.BigQuiet
import Derived.Test.YtombgnfedafkjaaGreatDoorRows
namespace Go.Proofs.YtombgnfedafkjaaGreatDoor
open Go.RowKit
theorem qff2{P:Program}{ops:Array Oper}{rest:List Oper}{o:Oper}{a:Act}{w:World}{Q:Exit->Act->World->Prop}(hw:Region.wanted o (yielded ops a.tmps)=true)(t:TypeId)(parts:Array (Nat×Operand))(ho:o.op=.build t parts)
 (d:Option Tmp) (hd:o.dst=d) (cells:Array Value) (hf:P.built t (parts.map fun(i,x)=>(i,a.eval x)).toList=some cells)
 (h:wpList P ops Q rest (a.put d (.agg cells)) w):wpList P ops Q (o::rest) a w:=by
 subst hd;unfold wpList;rw[if_pos hw];refine .inl (wp_build t parts ho (by rw[hf];rfl) ?_);rw[hf];exact h
def u8v(b:UInt8):Value := .int .u8 b.toNat
def bs(l:List UInt8):ByteArray:=⟨l.toArray⟩
theorem qrze(s:ByteArray):s.toList=s.data.toList:=ByteArray.toList_eq s
theorem q0c6(l:List UInt8):(bs l).toList=l:=by rw[qrze];rfl
theorem qphn(s:ByteArray)(k:Nat)(h:k<s.size):s.data.toList.take (k+1)=s.data.toList.take k++[s[k]]:=by rw[List.take_succ_eq_append_getElem (by simpa using h)];rfl
theorem qlvy{w:World}{b:Nat}{cs:Array Value}{t:TypeId}(h:w.heap[b]?=some (.cells cs t (0,0)))(j:Nat)(u:Value) :
 (w.setCell ⟨b,j,none⟩ u).heap[b]?=some (.cells (cs.setIfInBounds j u) t (0,0)):=by
 simp[World.setCell,Array.getElem?_modify,h]
theorem q99v(w:World)(b j:Nat)(u:Value):w.grownBy (w.setCell ⟨b,j,none⟩ u) (some b):=
 ⟨rfl,rfl,rfl,by simp[World.setCell],fun k _ hne=>Below.heap_setCell w ⟨b,j,none⟩ u k (fun e=>hne (by rw[e]))⟩
theorem qgju{w w':World}{n:Nat}{r:Option Nat}(h:(w.drewN n).grownBy w' r):w.grownBy w' r:=⟨h.os,h.tape,h.output,h.size,h.block⟩
theorem qo6d{a b c:World}{r:Option Nat}(h:a.grownBy b r)(k:b.grownBy c r):a.grownBy c r:=
 ⟨k.os.trans h.os,k.tape.trans h.tape,k.output.trans h.output,Nat.le_trans h.size k.size,fun i hi hne=>(k.block i (Nat.lt_of_lt_of_le hi h.size) hne).trans (h.block i hi hne)⟩
theorem qnpu{B:Nat}{a b:World}(h:Below B a b)(n:Nat):Below B a (b.drewN n):=⟨h.os,h.tape,h.output,h.size,h.block⟩
section
variable{w W W':World}{g:FuncId}{args:Array Value}{v v':Value}
end
end Go.Proofs.YtombgnfedafkjaaGreatDoor
