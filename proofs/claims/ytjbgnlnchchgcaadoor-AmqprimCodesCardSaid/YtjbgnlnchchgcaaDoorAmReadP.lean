/-
  What amqprim.read reads, plainly; the cursor's Take and Number at whatever place. Condition: the bytes are no more than an int says.
-/
import Derived.Test.YtjbgnlnchchgcaaDoorOctAt
import Derived.Test.YtjbgnlnchchgcaaDoorAmFits
namespace Go.Proofs.YtjbgnlnchchgcaaDoor
open Go.RowKit

/-- What stands behind a reading: it was too short, or this is the value, and how many bytes it took. -/
def RdOk (t : Ct) (l : List UInt8) (n : Nat) (x : List UInt8) (i : Nat) (e : Int) : Prop :=
  match partV t l with
  | none => e = 3
  | some r => e = 0 ∧ i = r.2 ∧ r.1 = ⟨t.kind, n, x, 0⟩
theorem ext_data (s : ByteArray) (i n : Nat) : (s.extract i (i + n)).data.toList = (s.data.toList.drop i).take n := by
  simp [List.extract_eq_take_drop]
theorem numOf_8 (s : ByteArray) (i n : Nat) (h : i + n ≤ s.size) (h8 : n ≤ 8) : numOf (s.extract i (i + n)) = num ((s.data.toList.drop i).take n) := by
  unfold numOf
  rw [show (s.extract i (i + n)).size - 8 = 0 by simp; omega, List.drop_zero, ext_data]
/-- A number's bytes, in its kind. -/
theorem numK_whole : ∀ t ∈ tabA, t.kind ≤ 21 → t.sized = false → t.width ≠ 16 → ∀ l : List UInt8, l.length = t.width → numK t.kind l = wholeV (num l) t.kind t.width := by
  intro t ht hk hs h16 l hl
  have hb := num_lt l
  rw [hl] at hb
  unfold numK wholeV extW
  rw [hl]
  simp only [tabA, List.mem_cons, List.not_mem_nil, or_false] at ht
  rcases ht with rfl | rfl | rfl | rfl | rfl | rfl | rfl | rfl | rfl | rfl | rfl | rfl | rfl | rfl | rfl | rfl | rfl | rfl | rfl | rfl | rfl | rfl | rfl | rfl | rfl | rfl | rfl | rfl | rfl | rfl | rfl | rfl | rfl | rfl | rfl | rfl | rfl | rfl | rfl | rfl
  all_goals first
    | (simp at hk; done)
    | (simp at hs; done)
    | (simp at h16; done)
    | (simp [sgnK, bitsA] at hb ⊢
       done)
    | (simp [sgnK, bitsA] at hb ⊢
       omega)
set_option maxHeartbeats 1000000 in
theorem numk_nil (k : Int) (w : World) : Calls Tryd.prog 64 #[.int .i64 k, .string ⟨#[]⟩] w fun e W => e = .returned (.int .u64 0) ∧ w = W := by
  have G := get_of ⟨#[]⟩ w (by decide)
  rw [numOf_nil] at G
  have SG := fun W => sgn_any k W
  generalize sgnK k = b at *
  replace G := Lib.hid G
  replace SG := Lib.hid SG
  cases b
  all_goals
    go_in
    go_wp2_with (first
      | (go_at_call 78; refine (G.out).mono ?_; rintro e W ⟨rfl, rfl⟩)
      | (go_at_call 79; refine (SG.out _).mono ?_; rintro e W ⟨rfl, rfl⟩))
    go_ret
    exact ⟨by first | rfl | simp [wrap64], rfl⟩
end Go.Proofs.YtjbgnlnchchgcaaDoor
