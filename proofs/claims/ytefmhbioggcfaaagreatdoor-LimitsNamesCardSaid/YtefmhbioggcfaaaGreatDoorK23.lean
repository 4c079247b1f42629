/- The contract of topic.Name, and of what it calls. Condition: a string no longer than an int says. -/
import Derived.Test.YtefmhbioggcfaaaGreatDoorK21
import Derived.Test.YtefmhbioggcfaaaGreatDoorK22
namespace Go.Proofs.YtefmhbioggcfaaaGreatDoor
open Go.RowKit Go.Shelf
def q2sp(s:List UInt8):Bool:=decide (s≠[])&&qecx s
theorem qmo6{s:ByteArray}(h:q2sp s.data.toList=true):s.size<=65535:=by
 unfold q2sp at h;simp only[Bool.and_eq_true] at h
 have:=((qbv6 _).1 h.2).1
 rw[Lib.size_eq];exact this
theorem qigp(s:ByteArray)(w:World)(hs:s.size<=9223372036854775807) :
 Calls Tryz.prog 189 #[.string s] w fun e w'=>e=.returned (.bool (q2sp s.data.toList))/\Below w.heap.size w w':=by
 have hv:=Lib.hid (qkls s w hs);by_cases h0:s.data.toList=[]
 ·have e1:(s.toList==[])=true:=by rw[qrze,h0];rfl
  have hemp:s.toList.isEmpty=true:=by rw[qrze,h0];rfl
  rw[h0];go_in;go_wp2;go_ret;exact⟨rfl,Below.refl _ _⟩
 ·have hemp:s.toList.isEmpty=false:=by rw[qrze,List.isEmpty_eq_false_iff];exact h0
  have hd:q2sp s.data.toList=qecx s.data.toList:=by unfold q2sp;rw[decide_eq_true h0,Bool.true_and]
  rw[hd];clear hd;generalize qecx s.data.toList=b at *;go_in;go_wp2_with fail;refine(hv.out).mono ?_;rintro e w' ⟨rfl,hb⟩;go_wp2;go_ret;exact⟨rfl,hb⟩
theorem qk5s(s:List UInt8):q95c s=(q2sp s&&!wild s):=by unfold q95c q2sp wild;cases decide (s≠[])<;>cases qecx s<;>simp
theorem qqsh(s:ByteArray)(w:World)(hs:s.size<=9223372036854775807) :
 Calls Tryz.prog 150 #[.string s] w fun e w'=>e=.returned (.bool (q95c s.data.toList))/\Below w.heap.size w w':=by
 have ht:=qigp s w hs;have hn:=qk5s s.data.toList;cases hx:q2sp s.data.toList with
 |false=>rw[hx] at ht hn;rw[Bool.false_and] at hn;rw[hn];have ht:=Lib.hid ht;clear hn hx;go_in;go_wp2_with fail;refine(ht.out).mono ?_;rintro e w' ⟨rfl,hb⟩;go_wp2;go_ret;exact⟨rfl,hb⟩
 |true=>have hle:=qmo6 hx;have hw:=Lib.hid (fun W=>qok8 s W (by omega));rw[hx] at ht hn;rw[Bool.true_and] at hn;rw[hn];have ht:=Lib.hid ht;clear hn hx hle;generalize wild s.data.toList=b at *;go_in;go_wp2_with fail;refine(ht.out).mono ?_;rintro e w' ⟨rfl,hb⟩;go_wp2_with fail;refine(hw.out _).mono ?_;rintro e w' ⟨rfl,hb2⟩;go_wp2;go_ret;exact⟨rfl,hb.trans (hb2.mono hb.size)⟩
end Go.Proofs.YtefmhbioggcfaaaGreatDoor
