/- The contract of octet.Get. No condition but the length of a string. -/
import Derived.Lib.IndexBytes
import Derived.LaidEqlPtr
import Derived.BigQuiet
import Derived.Deep.QuietTactic
import Derived.Test.YtbecggefmbpnoaaGreatDoorK06
namespace Go.Proofs.YtbecggefmbpnoaaGreatDoor
open Go.RowKit
def qqr9(b:Nat)(s:ByteArray)(i:Nat)(e:Int):Array Value:=#[.pointer (some ⟨b,0,none⟩),.string s,.int .i64 i,.int .i64 e]
def Cur(w:World)(b:Nat)(s:ByteArray)(i:Nat)(e:Int):Prop:=w.heap[b]? = some (.cells (qqr9 b s i e) 110 (0,0))
section
variable{w w':World}{b:Nat}{s:ByteArray}{i:Nat}{e:Int}
theorem Cur.lt(h:Cur w b s i e):b < w.heap.size:=lt_of_block h
theorem Cur.cell(h:Cur w b s i e)(j:Nat):w.cell? ⟨b,j,none⟩=(qqr9 b s i e)[j]? := cell_of_row w b j _ _ (0,0) h
theorem Cur.c0(h:Cur w b s i e):w.cell? ⟨b,0,none⟩=some (.pointer (some ⟨b,0,none⟩)):=h.cell 0
theorem Cur.c1(h:Cur w b s i e):w.cell? ⟨b,1,none⟩=some (.string s):=h.cell 1
theorem Cur.c2(h:Cur w b s i e):w.cell? ⟨b,2,none⟩=some (.int .i64 i):=h.cell 2
theorem Cur.c3(h:Cur w b s i e):w.cell? ⟨b,3,none⟩=some (.int .i64 e):=h.cell 3
theorem Cur.fr(h:Cur w b s i e)(j:Nat):w.frozen? ⟨b,j,none⟩=false:=by unfold Cur at h;simp[World.frozen?,h]
theorem Cur.draws(h:Cur w b s i e)(n:Nat):Cur (w.drewN n) b s i e:=h
theorem Cur.of_block(h:Cur w b s i e)(hb:w'.heap[b]? = w.heap[b]?):Cur w' b s i e:=hb.trans h
theorem Cur.fail(h:Cur w b s i e)(f:Int):Cur (w.setCell ⟨b,3,none⟩ (.int .i64 f)) b s i f:=qlvy h 3 _
end
end Go.Proofs.YtbecggefmbpnoaaGreatDoor
