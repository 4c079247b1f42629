/-
  What the laws of layer 8 begin with: the chapter's example. No condition.
-/
import Derived.Test.YtbgpcmbaodjibaaK51
namespace Go.Proofs.Ytbgpcmbaodjibaa
open Go.RowKit

/-- A CONNACK without properties. -/
def ackP (b : Bool) (c : Int) : Pk := { Pk.zero with kind := 2, session := b, code := c }
theorem ackP_at (w : World) (b : Bool) (c : Int) : PkAt w (ackP b c) adZ := ⟨fun e => absurd rfl e, fun e => absurd rfl e, fun e => absurd rfl e, fun e => absurd rfl e⟩
theorem ackP_short (b : Bool) (c : Int) : Short (ackP b c) := ⟨Nat.zero_le _, Nat.zero_le _, Nat.zero_le _, Nat.zero_le _⟩
theorem ackP_ok (b : Bool) (c : Int) : PkOk (ackP b c) := by
  refine ⟨⟨(show (-9223372036854775808 : Int) ≤ 2 by decide), (show (2 : Int) ≤ 9223372036854775807 by decide)⟩, ⟨(show (-9223372036854775808 : Int) ≤ 0 by decide), (show (0 : Int) ≤ 9223372036854775807 by decide)⟩, fun t ht => ?_, fun x hx => (nomatch hx), fun x hx => (nomatch hx), fun x hx => (nomatch hx)⟩
  have : t = [] := by simpa [Pk.texts, ackP, Pk.zero] using ht
  rw [this]; decide
theorem ackP_cap (b : Bool) (c : Int) : PkCap (ackP b c) adZ := ⟨Nat.zero_le _, Nat.zero_le _, (show (-9223372036854775808 : Int) ≤ 0 by decide), (show (0 : Int) ≤ 9223372036854775807 by decide)⟩
theorem ack_body (v : Int) (b : Bool) (c : Int) (w : World) :
    Calls Try.prog 5 #[.int .i64 v, pkV (ackP b c) adZ] w fun e w' => e = .returned (.tuple #[.string (bs (bodyC v (ackP b c)).1), .int .i64 ((bodyC v (ackP b c)).2 : Nat)]) ∧ Below w.heap.size w w' :=
  con_body v (ackP b c) adZ w (ackP_at w b c) (ackP_short b c) (ackP_ok b c) (ackP_cap b c)
set_option maxRecDepth 100000 in
theorem lives_con (w : World) : Calls Try.prog 4 #[] w fun e w' => e = .returned (.bool true) ∧ Below w.heap.size w w' := by
  have BO := ack_body 4 false 5 w
  have e1 : bodyC 4 (ackP false 5) = ([0, 5], 0) := by decide +kernel
  rw [e1] at BO
  unfold pkV at BO
  obtain ⟨D, hD⟩ : ∃ D, pkC (ackP false 5) adZ = D := ⟨_, rfl⟩
  rw [hD] at BO
  have HD := Lib.hid hD
  have BO := Lib.hid BO
  have HQ := Lib.hid (show ((bs [0, 5]).toList == [0, 5]) = true by rw [bs_toList]; rfl)
  have hzv := zero_pk
  clear hD e1
  go_enter Try.func4, Try.ntmps4
  go_wp2_with (refine wpList_buildTo rfl 29 _ rfl (some 4) rfl D (by rw [← HD.out]; kernel_rfl) ?_)
  refine (BO.out).mono ?_
  rintro e w' ⟨rfl, hb⟩
  go_wp2_with fail
  go_ret
  exact ⟨congrArg (fun b => Ending.returned (Value.bool b)) HQ.out, hb⟩
end Go.Proofs.Ytbgpcmbaodjibaa
