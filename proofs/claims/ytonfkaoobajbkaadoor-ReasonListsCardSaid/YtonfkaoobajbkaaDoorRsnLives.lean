/-
  The chapter's examples (polyglotlaw06.lives). Condition: the tables read as the program's text lays them.
-/
import Derived.Test.YtonfkaoobajbkaaDoorRsnText
import Derived.Test.YtonfkaoobajbkaaDoorRsnTabs
namespace Go.Proofs.YtonfkaoobajbkaaDoor
open Go.RowKit

set_option maxRecDepth 100000 in
theorem lives_rsn (w : World) (ht : Tabs w) :
    Calls Tryd.prog 7 #[] w fun e w' => e = .returned (.bool true) ∧ Below w.heap.size w w' := by
  have T5 := Lib.hid (show Calls Tryd.prog 8 #[.int .i64 3] w fun e w' => e = .returned (.tuple #[.int .i64 136, .bool true]) ∧ w = w' from to5_any 3 w ht)
  have MY := Lib.hid (show Calls Tryd.prog 12 #[.int .i64 6, .int .i64 146] w fun e w' => e = .returned (.bool true) ∧ Below w.heap.size w w' by
    have h := may_any 6 146 w
    rw [show mayR 6 146 = true by decide +kernel] at h
    exact h)
  have TX := Lib.hid (fun W (h : Tabs W) => show Calls Tryd.prog 16 #[.int .i64 24] W fun e w' => e = .returned (.string ⟨#[49, 56]⟩) ∧ Below W.heap.size W w' from by
    have h := text_any 24 W h
    rw [show textS 24 = ⟨#[49, 56]⟩ by decide +kernel] at h
    exact h)
  have HT := Lib.hid ht
  clear ht
  go_enter Tryd.func7, Tryd.ntmps7
  go_wp2_with fail
  refine T5.out.mono ?_
  rintro e w0 ⟨rfl, rfl⟩
  go_wp2_with fail
  refine MY.out.mono ?_
  rintro e w1 ⟨rfl, hb⟩
  have HB := Lib.hid hb
  have T1 := Lib.hid (HT.out.below hb)
  clear hb
  go_wp2_with fail
  refine (TX.out _ T1.out).mono ?_
  rintro e w2 ⟨rfl, hb⟩
  have HB2 := Lib.hid (HB.out.trans (hb.mono HB.out.size))
  clear hb
  go_wp2_with fail
  go_ret
  exact ⟨rfl, HB2.out⟩
end Go.Proofs.YtonfkaoobajbkaaDoor
