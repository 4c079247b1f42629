/-
  The chapter's example of layer 7. No condition.
-/
import Derived.Test.YtnmdbbkcbedklaaDoorHdBytes
namespace Go.Proofs.YtnmdbbkcbedklaaDoor
open Go.RowKit

theorem lives_head (w : World) : Calls Tryd.prog 5 #[] w fun e w' => e = .returned (.bool true) ∧ Below w.heap.size w w' := by
  have BY := hd_bytes 4 ⟨3, 2, 200⟩
  unfold BytRet at BY
  rw [show bytesH 4 ⟨3, 2, 200⟩ = [50, 200, 1] by decide +kernel, show checkH 4 ⟨3, 2, 200⟩ = 0 by decide +kernel] at BY
  have BY := Lib.hid BY
  unfold hdV at BY
  have HQ := Lib.hid (show ((bs [50, 200, 1]).toList == [50, 200, 1]) = true by rw [bs_toList]; rfl)
  go_enter Tryd.func5, Tryd.ntmps5
  go_wp2_with fail
  refine (BY.out _).mono ?_
  rintro e w' ⟨rfl, hb⟩
  go_wp2_with fail
  go_ret
  exact ⟨congrArg (fun b => Ending.returned (Value.bool b)) HQ.out, hb⟩
end Go.Proofs.YtnmdbbkcbedklaaDoor
