/-
  The walk of polyglotlaw05.PropShort. Condition: strings no longer than memory allows.
-/
import Derived.Test.YtgdaojihpjfjiaaPropForm
import Derived.Test.YtgdaojihpjfjiaaPropGood
import Derived.Test.YtgdaojihpjfjiaaPick
import Derived.Test.YtgdaojihpjfjiaaVarRefBytes
namespace Go.Proofs.Ytgdaojihpjfjiaa
open Go.RowKit

section
variable (kind cut : Int) (A : Option Addr) (n c : Nat) (l : List Pr) (w : World) (k0 : -9223372036854775808 ≤ kind) (k1 : kind ≤ 9223372036854775807) (hl : PL w A l) (hn : l.length = n) (hc : n ≤ c) (ok : ∀ p ∈ l, PrOk p) (hm : ∀ p ∈ l, p.text.length ≤ 140737488351232 ∧ p.value.length ≤ 140737488351232)
include hl hn hm
set_option maxRecDepth 100000 in
theorem short_dark (h : lightP l = false) :
    Calls Try.prog 5 #[.int .i64 kind, .slice A n c, .int .i64 cut] w fun e w' => e = .returned (.bool true) ∧ Below w.heap.size w w' := by
  have LT := fun W (hb : Below w.heap.size w W) => light_any A n c l W (hl.below hb) hn hm
  rw [h] at LT
  have LT := Lib.hid LT
  clear hl hn hm h
  go_enter Try.func5, Try.ntmps5
  go_wp2_with fail
  refine (lives_prop w).mono ?_
  rintro e w1 ⟨rfl, hb⟩
  go_wp2_with fail
  refine (LT.out _ hb).mono ?_
  rintro e w2 ⟨rfl, m, rfl⟩
  go_wp2_with fail
  go_ret
  exact ⟨rfl, below_draws hb _⟩
include k0 k1 hc ok
set_option maxRecDepth 100000 in
theorem short_bad (h : lightP l = true) (hv : (((bytesP kind l).2 : Nat) : Int) ≠ 0 ∨ ((((bytesP kind l).2 : Nat) : Int) = 0 ∧ (127 : Int) < ((bs (bytesP kind l).1).size : Int))) :
    Calls Try.prog 5 #[.int .i64 kind, .slice A n c, .int .i64 cut] w fun e w' => e = .returned (.bool true) ∧ Below w.heap.size w w' := by
  have LT := fun W (hb : Below w.heap.size w W) => light_any A n c l W (hl.below hb) hn hm
  rw [h] at LT
  have LT := Lib.hid LT
  have BA := fun W (hb : Below w.heap.size w W) => bytes_list kind A n c l W k0 k1 (hl.below hb) hn hc ok
  generalize bs (bytesP kind l).1 = x1 at *
  generalize (((bytesP kind l).2 : Nat) : Int) = V at *
  have BA := Lib.hid BA
  clear hl hn hm h k0 k1 hc ok
  rcases hv with hv | ⟨rfl, hv⟩
  · have q0 : (V != 0) = true := by simpa using hv
    clear hv
    go_enter Try.func5, Try.ntmps5
    go_wp2_with fail
    refine (lives_prop w).mono ?_
    rintro e w1 ⟨rfl, hb⟩
    go_wp2_with fail
    refine (LT.out _ hb).mono ?_
    rintro e w2 ⟨rfl, m, rfl⟩
    have hb2 := below_draws hb m
    clear hb
    go_wp2_with fail
    refine (BA.out _ hb2).mono ?_
    rintro e w3 ⟨rfl, hb3⟩
    have HB := Lib.hid (hb2.trans (hb3.mono hb2.size))
    clear hb2 hb3
    go_wp2_with fail
    go_ret
    exact ⟨rfl, HB.out⟩
  · go_enter Try.func5, Try.ntmps5
    go_wp2_with fail
    refine (lives_prop w).mono ?_
    rintro e w1 ⟨rfl, hb⟩
    go_wp2_with fail
    refine (LT.out _ hb).mono ?_
    rintro e w2 ⟨rfl, m, rfl⟩
    have hb2 := below_draws hb m
    clear hb
    go_wp2_with fail
    refine (BA.out _ hb2).mono ?_
    rintro e w3 ⟨rfl, hb3⟩
    have HB := Lib.hid (hb2.trans (hb3.mono hb2.size))
    clear hb2 hb3
    go_wp2_with fail
    go_ret
    exact ⟨rfl, HB.out⟩
set_option maxRecDepth 100000 in
set_option maxHeartbeats 2000000 in
theorem short_main (h : lightP l = true) (hv : validP kind l = 0) (h127 : ¬ (127 : Int) < ((bs (bytesP kind l).1).size : Int)) :
    Calls Try.prog 5 #[.int .i64 kind, .slice A n c, .int .i64 cut] w fun e w' => e = .returned (.bool true) ∧ Below w.heap.size w w' := by
  have LT := fun W (hb : Below w.heap.size w W) => light_any A n c l W (hl.below hb) hn hm
  rw [h] at LT
  have LT := Lib.hid LT
  have BA := fun W (hb : Below w.heap.size w W) => bytes_list kind A n c l W k0 k1 (hl.below hb) hn hc ok
  have e2 : (bytesP kind l).2 = 0 := by unfold bytesP; rw [if_neg (by simp [hv])]
  have e1 : (bytesP kind l).1 = vb (bodyP l).length (sz (bodyP l).length) ++ bodyP l := by unfold bytesP; rw [if_neg (by simp [hv])]
  obtain ⟨v1, v2, v3, v4⟩ := valid_parts hv
  have hs := sz_cases (bodyP l).length v4
  have hlen : (bytesP kind l).1.length = sz (bodyP l).length + (bodyP l).length := by rw [e1, List.length_append, vb_length]
  rw [bs_size] at h127
  have hb127 : (bodyP l).length < 127 := by omega
  have hz : sz (bodyP l).length = 1 := by omega
  have hz1 : sz (((bodyP l).length + 1 : Nat) : Int) = 1 := by have := sz_cases ((bodyP l).length + 1) (by omega); omega
  obtain ⟨X, hX⟩ : ∃ X, (bytesP kind l).1.length = X := ⟨_, rfl⟩
  have hXs : (bs (bytesP kind l).1).size = X := by rw [bs_size, hX]
  have hX1 : X = (bodyP l).length + 1 := by omega
  have PK := fun W => pick_any cut (X : Int) W (by omega) (by omega)
  obtain ⟨k, hk⟩ : ∃ k : Nat, cut % (X : Int) = (k : Int) := ⟨(cut % (X : Int)).toNat, by have := Int.emod_nonneg cut (show (X : Int) ≠ 0 by omega); omega⟩
  have hkX : k < X := by have := Int.emod_lt_of_pos cut (show 0 < (X : Int) by omega); omega
  rw [hk] at PK
  have d1 : ((bs (bytesP kind l).1).extract 0 k).data.toList = (bytesP kind l).1.take k := by simp [bs, List.extract_eq_take_drop]
  have RC := fun W => prop_read_form kind ((bs (bytesP kind l).1).extract 0 k) [] 0 3 k0 k1 (by rw [size_list, d1, List.length_take]; omega) (by rw [d1]; exact read_cut hv (by omega) k (by omega)) W
  have RM := fun W => ref_bytes_some X W (by omega)
  have dd : ((bs (bytesP kind l).1).extract 1 X).data.toList = bodyP l := by
    rw [← hXs, rest_list, bs_data, e1, hz]
    exact List.drop_left' (by rw [vb_length])
  have ds : ((bs (bytesP kind l).1).extract 1 X).size = X - 1 := by rw [size_list, dd]; omega
  have d2 : (bs (vb X 1) ++ (bs (bytesP kind l).1).extract 1 X ++ ⟨#[0]⟩).data.toList = vb ((bodyP l).length + 1) 1 ++ (bodyP l ++ [0]) := by
    rw [hX1] at dd ⊢
    simp only [ByteArray.data_append, Array.toList_append, dd, bs_data, List.append_assoc]
  have RM := fun W => ref_bytes_some X W (by omega)
  have hz2 : sz (X : Int) = 1 := by rw [hX1]; exact hz1
  rw [hz2] at RM
  have RN := fun W => prop_read_form kind (bs (vb X 1) ++ (bs (bytesP kind l).1).extract 1 X ++ ⟨#[0]⟩) [] 0 9 k0 k1 (by rw [size_list, d2, List.length_append, List.length_append, vb_length, List.length_singleton]; omega) (by rw [d2]; exact read_more hv hb127) W
  rw [e2] at BA
  have hbv : (bs (vb X 1)).size = 1 := by rw [bs_size, vb_length]
  generalize bs (bytesP kind l).1 = x1 at *
  generalize bs (vb X 1) = x2 at *
  have n1 : ¬ 9223372036854775807 < x2.size + (x1.extract 1 X).size := by rw [hbv, ds]; omega
  have n2 : ¬ 9223372036854775807 < (x2 ++ x1.extract 1 X).size + (⟨#[0]⟩ : ByteArray).size := by rw [ByteArray.size_append, hbv, ds]; show ¬ _ < _ + 1; omega
  have q1 : ¬ (127 : Int) < (X : Int) := by omega
  have q2 : (k : Int) ≤ (X : Int) := by omega
  have q3 : (1 : Int) ≤ (X : Int) := by omega
  have HXS := Lib.hid hXs
  have BA := Lib.hid BA
  have PK := Lib.hid PK
  have RC := Lib.hid RC
  have RM := Lib.hid RM
  have RN := Lib.hid RN
  clear h hv h127 hl hn hc ok hm e2 e1 v1 v2 v3 v4 hs hlen hb127 hz hz1 hX hX1 hk hkX d1 dd ds d2 hz2 hbv k0 k1
  go_enter Try.func5, Try.ntmps5
  go_wp2_with fail
  refine (lives_prop w).mono ?_
  rintro e w1 ⟨rfl, hb⟩
  go_wp2_with fail
  refine (LT.out _ hb).mono ?_
  rintro e w2 ⟨rfl, m, rfl⟩
  have hb2 := below_draws hb m
  clear hb
  go_wp2_with fail
  refine (BA.out _ hb2).mono ?_
  rintro e w3 ⟨rfl, hb3⟩
  have HB := Lib.hid (hb2.trans (hb3.mono hb2.size))
  clear hb2 hb3 BA LT
  go_wp2_with fail
  refine (PK.out _).mono ?_
  rintro e w4 ⟨rfl, rfl⟩
  clear PK
  go_wp2_with fail
  refine (RC.out _).mono ?_
  rintro e w5 ⟨hb5, A5, c5, rfl, _⟩
  have HB := Lib.hid (HB.out.trans (hb5.mono HB.out.size))
  clear hb5 RC
  go_wp2_with fail
  refine (RM.out _).mono ?_
  rintro e w6 ⟨rfl, hb6⟩
  have HB := Lib.hid (HB.out.trans (hb6.mono HB.out.size))
  clear hb6 RM
  go_wp2_with fail
  refine (RN.out _).mono ?_
  rintro e w7 ⟨hb7, A7, c7, rfl, _⟩
  have HB := Lib.hid (HB.out.trans (hb7.mono HB.out.size))
  clear hb7 RN
  go_wp2_with fail
  go_ret
  exact ⟨rfl, HB.out⟩
theorem short_walk :
    Calls Try.prog 5 #[.int .i64 kind, .slice A n c, .int .i64 cut] w fun e w' => e = .returned (.bool true) ∧ Below w.heap.size w w' := by
  by_cases h : lightP l = true
  · by_cases hv : validP kind l = 0
    · by_cases h127 : (127 : Int) < ((bs (bytesP kind l).1).size : Int)
      · have e2 : (bytesP kind l).2 = 0 := by unfold bytesP; rw [if_neg (by simp [hv])]
        exact short_bad kind cut A n c l w k0 k1 hl hn hc ok hm h (.inr ⟨by rw [e2]; rfl, h127⟩)
      · exact short_main kind cut A n c l w k0 k1 hl hn hc ok hm h hv h127
    · have e2 : (bytesP kind l).2 = validP kind l := by unfold bytesP; rw [if_pos hv]
      exact short_bad kind cut A n c l w k0 k1 hl hn hc ok hm h (.inl (by rw [e2]; omega))
  · exact short_dark kind cut A n c l w hl hn hm (by simpa using h)
end
end Go.Proofs.Ytgdaojihpjfjiaa
