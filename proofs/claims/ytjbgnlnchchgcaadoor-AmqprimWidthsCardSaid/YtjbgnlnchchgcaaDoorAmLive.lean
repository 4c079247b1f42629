/-
  The chapter's example (polyglotlaw16.lives) holds. No condition.
-/
import Derived.Test.YtjbgnlnchchgcaaDoorVaKit
import Derived.Test.YtjbgnlnchchgcaaDoorAmGet
import Derived.Test.YtjbgnlnchchgcaaDoorAmPutW
import Derived.Test.YtjbgnlnchchgcaaDoorAmLeastW
namespace Go.Proofs.YtjbgnlnchchgcaaDoor
open Go.RowKit

theorem live_plain : leastV (svC 5 0 [] 0) = (67, 0) ∧ leastV (svC 5 200 [] 0) = (82, 0) ∧ putV 112 (svC 5 300 [] 0) = ([0, 0, 1, 44], 0) := by decide +kernel
theorem kit_num (k : Int) (n : Nat) (w : World) : Calls Tryd.prog 10 #[.int .i64 k, .int .u64 (n : Nat)] w fun e W => e = .returned (.agg (vC k n ⟨#[]⟩ (.slice none 0 0))) ∧ Below w.heap.size w W := kit_n k n w
theorem kit_txt (k : Int) (s : ByteArray) (w : World) : Calls Tryd.prog 11 #[.int .i64 k, .string s] w fun e W => e = .returned (.agg (vC k 0 s (.slice none 0 0))) ∧ Below w.heap.size w W := kit_t k s w
set_option maxRecDepth 100000 in
set_option maxHeartbeats 2000000 in
theorem lives_any (w : World) : Calls Tryd.prog 9 #[] w fun e W => e = .returned (.bool true) ∧ Below w.heap.size w W := by
  have NA := Lib.hid (fun W => kit_num 5 0 W)
  have NB := Lib.hid (fun W => kit_num 5 200 W)
  have NC := Lib.hid (fun W => kit_num 5 300 W)
  have LA := fun W => least_any 5 0 ⟨#[]⟩ none 0 0 W (by omega) (by decide)
  have LB := fun W => least_any 5 200 ⟨#[]⟩ none 0 0 W (by omega) (by decide)
  have PC := fun W => aput_any 112 5 300 ⟨#[]⟩ none 0 0 W (by omega) (by decide)
  obtain ⟨e1, e2, e3⟩ := live_plain
  rw [show (⟨#[]⟩ : ByteArray).data.toList = [] from rfl] at LA LB PC
  rw [e1] at LA
  rw [e2] at LB
  rw [e3] at PC
  replace LA := Lib.hid LA
  replace LB := Lib.hid LB
  replace PC := Lib.hid PC
  have B0 := Lib.hid (Below.refl w.heap.size w)
  clear e1 e2 e3
  go_in
  go_wp2_with fail
  refine (NA.out _).mono ?_
  rintro e W1 ⟨rfl, hb⟩
  have B1 := Lib.hid (B0.out.trans (hb.mono B0.out.size))
  clear hb
  go_wp2_with fail
  refine (LA.out _).mono ?_
  rintro e W2 ⟨rfl, hb⟩
  have B2 := Lib.hid (B1.out.trans (hb.mono B1.out.size))
  clear hb
  go_wp2_with fail
  refine (NB.out _).mono ?_
  rintro e W3 ⟨rfl, hb⟩
  have B3 := Lib.hid (B2.out.trans (hb.mono B2.out.size))
  clear hb
  go_wp2_with fail
  refine (LB.out _).mono ?_
  rintro e W4 ⟨rfl, hb⟩
  have B4 := Lib.hid (B3.out.trans (hb.mono B3.out.size))
  clear hb
  go_wp2_with fail
  refine (NC.out _).mono ?_
  rintro e W5 ⟨rfl, hb⟩
  have B5 := Lib.hid (B4.out.trans (hb.mono B4.out.size))
  clear hb
  go_wp2_with fail
  refine (PC.out _).mono ?_
  rintro e W6 ⟨rfl, hb⟩
  have B6 := Lib.hid (B5.out.trans (hb.mono B5.out.size))
  clear hb
  go_wp2_with fail
  go_ret
  exact ⟨by rw [bs_toList]; rfl, B6.out⟩
end Go.Proofs.YtjbgnlnchchgcaaDoor
