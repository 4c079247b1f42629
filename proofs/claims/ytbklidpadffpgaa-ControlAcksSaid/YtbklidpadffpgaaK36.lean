/- The contract of topic.wild: whether a string has a + or a #; and of strings.IndexAny at these two, whatever the length. Condition: a string shorter than 4,000,000,000 bytes. -/
import Derived.Test.YtbklidpadffpgaaK35
namespace Go.Proofs.Ytbklidpadffpgaa
open Go.RowKit Go.Shelf
theorem qr03:(Try.prog.info? 136).map (fun i=>(i.zero,i.size))=some (some (.agg (Array.replicate 256 (.bool false))),256):=by kernel_rfl
theorem q0ec(s:ByteArray)(w:World)(hs:s.size < 4000000000) :
 Calls Try.prog 87 #[.string s,.string pm] w fun e w'=>e = .returned (.int .i64 (Lib.indexAny s.data.toList pml))∧Below w.heap.size w w':=by
 by_cases h8:s.size≤8
 ·exact qgtd s w h8
 ·exact(Any.strings_IndexAny_long qzew (zero_of_info qr03).1 (zero_of_info qr03).2 s pm w (by decide) (by omega) (by omega) (by decide) (fun j b hb=>by
   have hm:b∈pml:=List.mem_of_getElem? hb
   simp[pml] at hm
   rcases hm with rfl | rfl<;>decide)).mono fun e w' ⟨h1,h2⟩=>⟨h1,by
    rw[h2]
    exact((Below.refl _ _).alloc (Nat.le_refl _) _).alloc (by simp) _⟩
def wild(l:List UInt8):Bool:=decide ((43:UInt8)∈l∨(35:UInt8)∈l)
theorem qn89:∀(l:List UInt8),decide (0≤Lib.indexAny l pml)=wild l
 | []=>rfl
 | b::l=>by
  have ih:=qn89 l
  unfold wild at ih ⊢
  rw[Lib.indexAny]
  by_cases h1:b=43
  ·subst h1;simp[pml]
  ·by_cases h2:b=35
   ·subst h2;simp[pml]
   ·have hc:pml.contains b=false:=by simp[pml,h1,h2]
    rw[hc]
    have hge:=Lib.indexAny_ge pml l
    generalize Lib.indexAny l pml=z at ih hge
    have e:decide ((43:UInt8)∈b::l∨(35:UInt8)∈b::l)=decide ((43:UInt8)∈l∨(35:UInt8)∈l):=by simp[Ne.symm h1,Ne.symm h2]
    rw[e,←ih]
    simp only[Bool.false_eq_true,if_false]
    by_cases hz:z= -1
    ·subst hz;decide
    ·have:(z== -1)=false:=beq_eq_false_iff_ne.2 hz
     rw[this]
     simp only[Bool.false_eq_true,if_false]
     rw[decide_eq_decide];omega
theorem qfac(s:ByteArray)(w:World)(hs:s.size < 4000000000) :
 Calls Try.prog 84 #[.string s,.string pm] w fun e w'=>e = .returned (.bool (wild s.data.toList))∧Below w.heap.size w w':=by
 have c:=Lib.hid (q0ec s w hs)
 have hw:=Lib.hid (qn89 s.data.toList)
 generalize Lib.indexAny s.data.toList pml=z at *
 generalize wild s.data.toList=b at *
 clear hs
 go_enter Try.func84,Try.ntmps84
 go_wp2_with fail
 refine(c.out).mono ?_
 rintro e w' ⟨rfl,hb⟩
 go_wp2_with fail
 go_ret
 exact⟨by rw[←hw.out];rfl,hb⟩
theorem qok8(s:ByteArray)(w:World)(hs:s.size < 4000000000) :
 Calls Try.prog 81 #[.string s] w fun e w'=>e = .returned (.bool (wild s.data.toList))∧Below w.heap.size w w':=by
 have c:=Lib.hid (qfac s w hs)
 generalize wild s.data.toList=b at *
 clear hs
 go_enter Try.func81,Try.ntmps81
 go_wp2_with fail
 refine(c.out).mono ?_
 rintro e w' ⟨rfl,hb⟩
 go_wp2_with fail
 go_ret
 exact⟨rfl,hb⟩
end Go.Proofs.Ytbklidpadffpgaa
