/- The contract of ustring.Text. Condition: a string no longer than an int says. -/
import Derived.Test.YtbecggefmbpnoaaGreatDoorK26
import Derived.Test.YtbecggefmbpnoaaGreatDoorK18
namespace Go.Proofs.YtbecggefmbpnoaaGreatDoor
open Go.RowKit
theorem q9xc(s:ByteArray)(w:World)(hv:qecx s.data.toList=true) :
 Calls Tryz.prog 78 #[.string s] w fun e w'=>e = .returned (.tuple #[.string (bs (enc2 s.data.toList)),.int .i64 0])∧Below w.heap.size w w':=by
 have hle:=((qbv6 _).1 hv).1
 rw[←q4ad] at hle
 have hvl:=qkls s w (by omega)
 rw[hv] at hvl
 have hvl:=Lib.hid hvl
 have hbn:=Lib.hid (show ∀W,Calls Tryz.prog 110 #[.string s] W fun e w'=>e = .returned (.tuple #[.string (bs (enc2 s.data.toList)),.int .i64 0])∧Below W.heap.size W w' from fun W=>qbrl s W hle)
 go_enter Tryz.func78,Tryz.ntmps78
 go_wp2_with fail
 refine(hvl.out).mono ?_
 rintro e w1 ⟨rfl,hb⟩
 go_wp2_with fail
 refine(hbn.out _).mono ?_
 rintro e w2 ⟨rfl,hb2⟩
 go_wp2_with fail
 go_ret2
 exact⟨rfl,hb.trans (hb2.mono hb.size)⟩
end Go.Proofs.YtbecggefmbpnoaaGreatDoor
