/-
  The chapter's example of limits.Chunks. No condition.
-/
import Derived.Test.YtecadfnajogffaaStrSame
import Derived.Test.YtecadfnajogffaaChkAll
namespace Go.Proofs.Ytecadfnajogffaa
open Go.RowKit

theorem chunks_abc : chunksL ([97, 98, 99] : List UInt8) [2, 0] = [[], [97, 98], [99]] := by decide
set_option maxRecDepth 100000 in
set_option maxHeartbeats 1000000 in
theorem lives15 (w : World) : Calls Try.prog 4 #[] w fun e W => e = .returned (.bool true) ∧ Below w.heap.size w W := by
  have B0 := Lib.hid (show Below w.heap.size w (w.alloc (.cells (zcs [2, 0]).toArray 3)) from (Below.refl _ _).alloc (Nat.le_refl _) _)
  have ch := chunks_any (bs [97, 98, 99]) (some ⟨w.heap.size, 0, none⟩) 2 2 [2, 0] _ (IR.alloc (W := w) [2, 0] 3) rfl (by decide) (by decide)
  rw [show chunksL (bs [97, 98, 99]).data.toList [2, 0] = [[], [97, 98], [99]] from chunks_abc] at ch
  have CH := Lib.hid ch
  have SM := Lib.hid (fun A B c d W h1 h2 => same_strs A B c d [[], [97, 98], [99]] W h1 h2 (by decide))
  clear ch
  go_in
  go_wp2_with fail
  refine CH.out.mono ?_
  rintro e1 w1 ⟨A, c, rfl, hR, hB, -⟩
  have HR := Lib.hid (hR.kept ((Below.refl _ _).alloc (Nat.le_refl _) (.cells (strs [[], [97, 98], [99]]).toArray 9)))
  have S2 := Lib.hid (SR.alloc (W := w1) (ls := [[], [97, 98], [99]]) 9)
  have hb1 := B0.out.trans (hB.mono B0.out.size)
  have B1 := Lib.hid (hb1.alloc hb1.size (.cells (strs [[], [97, 98], [99]]).toArray 9))
  have SM1 := SM.out A _ c 3 _ HR.out S2.out
  clear hR hB CH B0 hb1
  go_wp2_with fail
  refine SM1.mono ?_
  rintro e2 w2 ⟨rfl, hb⟩
  have B2 := Lib.hid (B1.out.trans (hb.mono B1.out.size))
  clear SM1 hb
  go_wp2_with fail
  go_ret
  exact ⟨rfl, B2.out⟩
end Go.Proofs.Ytecadfnajogffaa
