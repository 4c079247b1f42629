/-
  The contract of what layer 2's laws share: the chapter's examples. No condition.
-/
import Derived.Test.YtoaoabffgllbbaaVarBytes
import Derived.Test.YtoaoabffgllbbaaVarRead
namespace Go.Proofs.Ytoaoabffgllbbaa
open Go.RowKit

/-- What varint.Bytes makes of a number. -/
theorem bytes_at (n : Nat) (l : List UInt8) (w : World) (hn : n ≤ 268435455) (hl : vb n (sz n) = l) :
    Calls Try.prog 9 #[.int .i64 n] w fun e w' => e = .returned (.tuple #[.string (bs l), .int .i64 0]) ∧ Below w.heap.size w w' := by
  subst hl; exact bytes_some n w hn

theorem lives2 (w : World) :
    Calls Try.prog 8 #[] w fun e w' => e = .returned (.bool true) ∧ Below w.heap.size w w' := by
  have B1 := Lib.hid (show ∀ W, Calls Try.prog 9 #[.int .i64 127] W fun e w' => e = .returned (.tuple #[.string ⟨#[127]⟩, .int .i64 0]) ∧ Below W.heap.size W w' from fun W => bytes_at 127 [127] W (by decide) (by decide))
  have B2 := Lib.hid (show ∀ W, Calls Try.prog 9 #[.int .i64 128] W fun e w' => e = .returned (.tuple #[.string ⟨#[128, 1]⟩, .int .i64 0]) ∧ Below W.heap.size W w' from fun W => bytes_at 128 [128, 1] W (by decide) (by decide))
  go_enter Try.func8, Try.ntmps8
  go_wp2_with fail
  refine (B1.out _).mono ?_
  rintro e w1 ⟨rfl, hb1⟩
  go_wp2_with fail
  refine (B2.out _).mono ?_
  rintro e w2 ⟨rfl, hb2⟩
  go_wp2_with fail
  go_ret
  exact ⟨rfl, hb1.trans (hb2.mono hb1.size)⟩
end Go.Proofs.Ytoaoabffgllbbaa
