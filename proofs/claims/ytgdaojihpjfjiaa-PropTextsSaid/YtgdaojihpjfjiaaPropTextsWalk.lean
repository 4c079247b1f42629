/-
  The walk of polyglotlaw05.PropTexts. No condition.
-/
import Derived.Test.YtgdaojihpjfjiaaPropCells
import Derived.Test.YtgdaojihpjfjiaaUsRef
import Derived.Test.YtgdaojihpjfjiaaPick
namespace Go.Proofs.Ytgdaojihpjfjiaa
open Go.RowKit

theorem PrOk.of {id : Int} {n : Nat} {t v : List UInt8} (h0 : -9223372036854775808 ≤ id) (h1 : id ≤ 9223372036854775807) (h2 : n < 4294967296) (h3 : t.length ≤ 9223372036854775807) (h4 : v.length ≤ 9223372036854775807) : PrOk ⟨id, n, t, v⟩ := ⟨h0, h1, h2, h3, h4⟩
theorem texts_of (id : Int) (s : List UInt8) (h : id = 3 ∨ id = 38) : checkP 3 ⟨id, 0, s, []⟩ = if validOf s then 0 else 6 := by
  have e0 : validOf [] = true := by decide
  rcases h with rfl | rfl
  · unfold checkP
    rw [if_neg (show ¬ mayP 3 3 = false by decide), if_neg (show ¬ shapeP 3 ≤ 4 by decide), if_neg (show ¬ ((0 : Nat) ≠ 0 ∨ (shapeP 3 ≠ 7 ∧ ([] : List UInt8) ≠ [])) by decide), if_neg (show ¬ shapeP 3 = 6 by decide)]
    simp only [e0]
    cases validOf s <;> simp
  · unfold checkP
    rw [if_neg (show ¬ mayP 3 38 = false by decide), if_neg (show ¬ shapeP 38 ≤ 4 by decide), if_neg (show ¬ ((0 : Nat) ≠ 0 ∨ (shapeP 38 ≠ 7 ∧ ([] : List UInt8) ≠ [])) by decide), if_neg (show ¬ shapeP 38 = 6 by decide)]
    simp only [e0]
    cases validOf s <;> simp
theorem binary_of (s : List UInt8) (h : s.length ≤ 1000) : checkP 3 ⟨9, 0, s, []⟩ = 0 := by
  unfold checkP
  rw [if_neg (show ¬ mayP 3 9 = false by decide), if_neg (show ¬ shapeP 9 ≤ 4 by decide), if_neg (show ¬ ((0 : Nat) ≠ 0 ∨ (shapeP 9 ≠ 7 ∧ ([] : List UInt8) ≠ [])) by decide), if_pos (show shapeP 9 = 6 by decide), if_neg (show ¬ 65535 < s.length by omega)]

theorem texts_big (s : ByteArray) (id : Int) (w : World) (hs : 1000 < s.size) :
    Calls Try.prog 7 #[.string s, .int .i64 id] w fun e w' => e = .returned (.bool true) ∧ Below w.heap.size w w' := by
  go_enter Try.func7, Try.ntmps7
  go_wp2_with fail
  refine (lives_prop w).mono ?_
  rintro e w1 ⟨rfl, hb⟩
  go_wp2_with fail
  go_ret
  exact ⟨rfl, hb⟩
section
variable (s : ByteArray) (id : Int) (w : World) (hs : ¬ 1000 < s.size)
include hs
theorem texts_0 (h : id % 3 = 0) :
    Calls Try.prog 7 #[.string s, .int .i64 id] w fun e w' => e = .returned (.bool true) ∧ Below w.heap.size w w' := by
  have PK := fun W => pick_any id 3 W (by decide) (by decide)
  rw [h] at PK
  have hlen : s.data.toList.length ≤ 1000 := by rw [← size_list]; omega
  have CK := fun W => checkf_any 3 ⟨3, 0, s.data.toList, []⟩ W (by decide) (by decide) (PrOk.of (by decide) (by decide) (by decide) (by omega) (by decide))
  rw [texts_of 3 _ (.inl rfl)] at CK
  have VA := fun W => ref_valid s W (by omega)
  unfold propV at CK
  generalize validOf s.data.toList = v at *
  have PK := Lib.hid PK
  have CK := Lib.hid CK
  have VA := Lib.hid VA
  clear hlen
  cases v <;>
  · go_enter Try.func7, Try.ntmps7
    go_wp2_with fail
    refine (lives_prop w).mono ?_
    rintro e w1 ⟨rfl, hb⟩
    go_wp2_with fail
    refine (PK.out _).mono ?_
    rintro e w2 ⟨rfl, rfl⟩
    go_wp2_with fail
    refine (CK.out _).mono ?_
    rintro e w3 ⟨rfl, hb3⟩
    have HB := Lib.hid (((hb.alloc hb.size _).alloc (by have := hb.size; simp; omega) _).trans (hb3.mono (by have := hb.size; simp; omega)))
    clear hb hb3
    go_wp2_with fail
    refine (VA.out _).mono ?_
    rintro e w4 ⟨rfl, rfl⟩
    go_wp2_with fail
    go_ret
    exact ⟨rfl, HB.out⟩
theorem texts_1 (h : id % 3 = 1) :
    Calls Try.prog 7 #[.string s, .int .i64 id] w fun e w' => e = .returned (.bool true) ∧ Below w.heap.size w w' := by
  have PK := fun W => pick_any id 3 W (by decide) (by decide)
  rw [h] at PK
  have hlen : s.data.toList.length ≤ 1000 := by rw [← size_list]; omega
  have CK := fun W => checkf_any 3 ⟨9, 0, s.data.toList, []⟩ W (by decide) (by decide) (PrOk.of (by decide) (by decide) (by decide) (by omega) (by decide))
  rw [binary_of _ hlen] at CK
  unfold propV at CK
  have PK := Lib.hid PK
  have CK := Lib.hid CK
  clear hlen
  go_enter Try.func7, Try.ntmps7
  go_wp2_with fail
  refine (lives_prop w).mono ?_
  rintro e w1 ⟨rfl, hb⟩
  go_wp2_with fail
  refine (PK.out _).mono ?_
  rintro e w2 ⟨rfl, rfl⟩
  go_wp2_with fail
  refine (CK.out _).mono ?_
  rintro e w3 ⟨rfl, hb3⟩
  have HB := Lib.hid (((hb.alloc hb.size _).alloc (by have := hb.size; simp; omega) _).trans (hb3.mono (by have := hb.size; simp; omega)))
  clear hb hb3
  go_wp2_with fail
  go_ret
  exact ⟨rfl, HB.out⟩
theorem texts_2 (h : id % 3 = 2) :
    Calls Try.prog 7 #[.string s, .int .i64 id] w fun e w' => e = .returned (.bool true) ∧ Below w.heap.size w w' := by
  have PK := fun W => pick_any id 3 W (by decide) (by decide)
  rw [h] at PK
  have hlen : s.data.toList.length ≤ 1000 := by rw [← size_list]; omega
  have CK := fun W => checkf_any 3 ⟨38, 0, s.data.toList, []⟩ W (by decide) (by decide) (PrOk.of (by decide) (by decide) (by decide) (by omega) (by decide))
  rw [texts_of 38 _ (.inr rfl)] at CK
  have VA := fun W => ref_valid s W (by omega)
  unfold propV at CK
  generalize validOf s.data.toList = v at *
  have PK := Lib.hid PK
  have CK := Lib.hid CK
  have VA := Lib.hid VA
  clear hlen
  cases v <;>
  · go_enter Try.func7, Try.ntmps7
    go_wp2_with fail
    refine (lives_prop w).mono ?_
    rintro e w1 ⟨rfl, hb⟩
    go_wp2_with fail
    refine (PK.out _).mono ?_
    rintro e w2 ⟨rfl, rfl⟩
    go_wp2_with fail
    refine (CK.out _).mono ?_
    rintro e w3 ⟨rfl, hb3⟩
    have HB := Lib.hid (((hb.alloc hb.size _).alloc (by have := hb.size; simp; omega) _).trans (hb3.mono (by have := hb.size; simp; omega)))
    clear hb hb3
    go_wp2_with fail
    refine (VA.out _).mono ?_
    rintro e w4 ⟨rfl, rfl⟩
    go_wp2_with fail
    go_ret
    exact ⟨rfl, HB.out⟩
end
theorem texts_walk (s : ByteArray) (id : Int) (w : World) :
    Calls Try.prog 7 #[.string s, .int .i64 id] w fun e w' => e = .returned (.bool true) ∧ Below w.heap.size w w' := by
  by_cases hs : 1000 < s.size
  · exact texts_big s id w hs
  · have : id % 3 = 0 ∨ id % 3 = 1 ∨ id % 3 = 2 := by omega
    rcases this with h | h | h
    · exact texts_0 s id w hs h
    · exact texts_1 s id w hs h
    · exact texts_2 s id w hs h
end Go.Proofs.Ytgdaojihpjfjiaa
