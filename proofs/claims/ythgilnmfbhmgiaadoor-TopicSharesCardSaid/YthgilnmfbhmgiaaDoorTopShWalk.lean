/-
  The walk of polyglotlaw04.TopicShares: whatever the two strings, it answers true. No condition.
-/
import Derived.Test.YthgilnmfbhmgiaaDoorTopLive
import Derived.Test.YthgilnmfbhmgiaaDoorUsRef
namespace Go.Proofs.YthgilnmfbhmgiaaDoor
open Go.RowKit Go.Shelf
set_option maxHeartbeats 1000000 in
theorem shares_long (a b : ByteArray) (w : World) (h : 200 < a.size ∨ 200 < b.size) :
    Calls Tryd.prog 7 #[.string a, .string b] w fun e w' => e = .returned (.bool true) ∧ Below w.heap.size w w' := by
  have L4 := Lib.hid lives4
  by_cases ha : 200 < a.size
  · have ga : (200 : Int) < (a.size : Int) := by omega
    clear h ha
    go_enter Tryd.func7, Tryd.ntmps7
    go_wp2_with fail
    refine (L4.out _).mono ?_
    rintro e v1 ⟨rfl, b1⟩
    have B1 := Lib.hid b1
    clear b1
    go_wp2_with fail
    go_ret
    exact ⟨rfl, B1.out⟩
  · have ga : (a.size : Int) ≤ 200 := by omega
    by_cases hb : 200 < b.size
    · have gb : (200 : Int) < (b.size : Int) := by omega
      clear h ha hb
      go_enter Tryd.func7, Tryd.ntmps7
      go_wp2_with fail
      refine (L4.out _).mono ?_
      rintro e v1 ⟨rfl, b1⟩
      have B1 := Lib.hid b1
      clear b1
      go_wp2_with fail
      go_ret
      exact ⟨rfl, B1.out⟩
    · have gb : (b.size : Int) ≤ 200 := by omega
      omega

/-- Behind the first answer: the string that is made of the two, and what it is. -/
theorem bs_cat (x y : List UInt8) : bs x ++ bs y = bs (x ++ y) := by
  apply ByteArray.ext
  simp [bs]
theorem share7 : (⟨#[36, 115, 104, 97, 114, 101, 47]⟩ : ByteArray) = bs (share ++ [47]) := rfl
set_option maxHeartbeats 4000000 in
theorem shares_short (a b : ByteArray) (w : World) (ha : a.size ≤ 200) (hb : b.size ≤ 200) :
    Calls Tryd.prog 7 #[.string a, .string b] w fun e w' => e = .returned (.bool true) ∧ Below w.heap.size w w' := by
  have L4 := Lib.hid lives4
  have gl : (a.size : Int) ≤ 200 ∧ (b.size : Int) ≤ 200 := by omega
  obtain ⟨ga, gb⟩ := gl
  have hS := fun W => shared_any a W (by omega)
  have hFb := fun W => filter_any b W (by omega)
  have hN := fun W => name_any a W (by omega)
  have hV := fun W => ref_valid a W (by omega)
  have hL := fun W => levels_any a W (by omega)
  obtain ⟨SS, hSS⟩ : ∃ SS, bs (share ++ 47 :: (a.data.toList ++ 47 :: b.data.toList)) = SS := ⟨_, rfl⟩
  have c1 : (⟨#[36, 115, 104, 97, 114, 101, 47]⟩ : ByteArray) ++ a = bs (share ++ 47 :: a.data.toList) := by rw [share7, ← bs_mk a, bs_cat, bs_mk]; simp
  have c2 : bs (share ++ 47 :: a.data.toList) ++ (⟨#[47]⟩ : ByteArray) = bs (share ++ 47 :: (a.data.toList ++ [47])) := by rw [show (⟨#[47]⟩ : ByteArray) = bs [47] from rfl, bs_cat]; simp
  have c3 : bs (share ++ 47 :: (a.data.toList ++ [47])) ++ b = SS := by rw [← hSS, ← bs_mk b, bs_cat, bs_mk]; simp
  obtain ⟨S1, hS1⟩ : ∃ S1, bs (share ++ 47 :: a.data.toList) = S1 := ⟨_, rfl⟩
  obtain ⟨S2, hS2⟩ : ∃ S2, bs (share ++ 47 :: (a.data.toList ++ [47])) = S2 := ⟨_, rfl⟩
  have hn : (⟨#[36, 115, 104, 97, 114, 101, 47]⟩ : ByteArray).size = 7 ∧ S1.size ≤ 207 ∧ S2.size ≤ 208 ∧ (⟨#[47]⟩ : ByteArray).size = 1 ∧ SS.size ≤ 408 := by
    have h1 := Lib.size_eq a
    have h2 := Lib.size_eq b
    refine ⟨rfl, ?_, ?_, rfl, ?_⟩
    · rw [← hS1, bs_size]; simp [share]; omega
    · rw [← hS2, bs_size]; simp [share]; omega
    · rw [← hSS, bs_size]; simp [share]; omega
  obtain ⟨n0, n1, n2, n3, n4⟩ := hn
  rw [hS1] at c1 c2
  rw [hS2] at c2 c3
  have o1 : ¬ 9223372036854775807 < (⟨#[36, 115, 104, 97, 114, 101, 47]⟩ : ByteArray).size + a.size := by omega
  have o2 : ¬ 9223372036854775807 < S1.size + (⟨#[47]⟩ : ByteArray).size := by omega
  have o3 : ¬ 9223372036854775807 < S2.size + b.size := by omega
  have hT := fun W => shared_any SS W (by omega)
  have eSS : SS.data.toList = share ++ 47 :: (a.data.toList ++ 47 :: b.data.toList) := by rw [← hSS]; rfl
  rw [eSS] at hT
  have HSH := shared_cases a.data.toList
  have HMADE := fun h => shared_made (a := a.data.toList) (b := b.data.toList) h ⟨by rw [← Lib.size_eq]; exact ha, by rw [← Lib.size_eq]; exact hb⟩
  have HONE := one_level a.data.toList
  clear hS1 hS2 hSS n0 n1 n2 n3 n4 eSS
  generalize sharedL (share ++ 47 :: (a.data.toList ++ 47 :: b.data.toList)) = X at *
  obtain ⟨n, hn⟩ : ∃ n, (lvls a.data.toList).length = n := ⟨_, rfl⟩
  have hn1 : 1 ≤ n := by rw [← hn]; exact List.length_pos_iff.2 (lvls_ne _)
  have hn2 : n ≤ 201 := by rw [← hn]; have := lvls_le a.data.toList; rw [← Lib.size_eq] at this; omega
  rw [hn] at HONE hL
  have hL : ∀ W, Calls Tryd.prog 14 #[.string a] W fun e w' => e = .returned (.slice (some ⟨W.heap.size, 0, none⟩) n n) ∧ Below W.heap.size W w' := fun W => (hL W).mono fun e w' ⟨he, hw⟩ => ⟨he, hw ▸ (Below.refl _ _).alloc (Nat.le_refl _) _⟩
  have hL := Lib.hid hL
  have hN0 := fun h => (name_iff a.data.toList).1 h
  have hFbv : ∀ h : filterL b.data.toList = true, filterL b.data.toList = true := fun h => h
  have hgb : (1 : Int) ≤ (n : Int) ∧ (n : Int) ≤ 201 := by omega
  obtain ⟨gn1, gn2⟩ := hgb
  rcases HSH with ⟨g, f, h0, hA, hg, hf, hval, _⟩ | h0
  · skip
    have hS : ∀ W, Calls Tryd.prog 12 #[.string a] W fun e w' => e = .returned (.tuple #[.string (bs g), .string (bs f), .bool true]) ∧ Below W.heap.size W w' := fun W => by have := hS W; rw [h0] at this; exact this
    have hS := Lib.hid hS
    have hsz := Lib.size_eq a
    rw [hA] at hsz
    simp [share] at hsz
    have hFf := fun W => filter_any (bs f) W (by rw [bs_size]; omega)
    rw [bs_data, hf] at hFf
    have hFf := Lib.hid hFf
    rw [hval] at hV
    have hV := Lib.hid hV
    have hge : (bs g).toList.isEmpty = false := by rw [bs_toList, List.isEmpty_eq_false_iff]; exact hg
    have d1 : (⟨#[36, 115, 104, 97, 114, 101, 47]⟩ : ByteArray) ++ bs g = bs (share ++ 47 :: g) := by rw [share7, bs_cat]; simp
    have d2 : bs (share ++ 47 :: g) ++ (⟨#[47]⟩ : ByteArray) = bs (share ++ 47 :: (g ++ [47])) := by rw [show (⟨#[47]⟩ : ByteArray) = bs [47] from rfl, bs_cat]; simp
    have d3 : bs (share ++ 47 :: (g ++ [47])) ++ bs f = a := by rw [bs_cat, ← bs_mk a, hA]; simp
    have m1 : (bs (share ++ 47 :: g)).size = 7 + g.length := by rw [bs_size]; simp [share]; omega
    have m2 : (bs (share ++ 47 :: (g ++ [47]))).size = 8 + g.length := by rw [bs_size]; simp [share]; omega
    have m3 : (bs g).size = g.length := bs_size g
    have m4 : (bs f).size = f.length := bs_size f
    generalize bs (share ++ 47 :: (g ++ [47])) = G2 at *
    generalize bs (share ++ 47 :: g) = G1 at *
    have p1 : ¬ 9223372036854775807 < (⟨#[36, 115, 104, 97, 114, 101, 47]⟩ : ByteArray).size + (bs g).size := by rw [m3, show (⟨#[36, 115, 104, 97, 114, 101, 47]⟩ : ByteArray).size = 7 from rfl]; omega
    have p2 : ¬ 9223372036854775807 < G1.size + (⟨#[47]⟩ : ByteArray).size := by rw [m1, show (⟨#[47]⟩ : ByteArray).size = 1 from rfl]; omega
    have p3 : ¬ 9223372036854775807 < G2.size + (bs f).size := by rw [m2, m4]; omega
    clear h0 hA hg hf hval hsz m1 m2 m3 m4
    by_cases hA0 : a.data.toList = []
    · have hemp : a.toList.isEmpty = true := by rw [toList_data, hA0]; rfl
      have hX : X = ([], [], false) := by rw [HMADE (by rw [hA0]; simp), if_neg (fun h => (hN0 h.1).1 hA0)]
      obtain rfl : n = 1 := HONE.2 (by rw [hA0]; simp)
      have hT : ∀ W, Calls Tryd.prog 12 #[.string SS] W fun e w' => e = .returned (.tuple #[.string ⟨#[]⟩, .string ⟨#[]⟩, .bool false]) ∧ Below W.heap.size W w' := fun W => by have := hT W; rw [hX] at this; exact this
      have hT := Lib.hid hT
      clear HMADE HONE hN0 hFbv hn hn1 hn2 ha hb hA0 hX hN hFb
      go_enter Tryd.func7, Tryd.ntmps7
      go_wp2_with fail
      refine (L4.out _).mono ?_
      rintro e v1 ⟨rfl, b1⟩
      have B1 := Lib.hid b1
      clear b1
      go_wp2_with fail
      refine (hS.out _).mono ?_
      rintro e v2 ⟨rfl, b2⟩
      have B2 := Lib.hid (B1.out.trans (b2.mono B1.out.size))
      clear b2
      go_wp2_with fail
      refine (hFf.out _).mono ?_
      rintro e v3 ⟨rfl, b3⟩
      have B3 := Lib.hid (B2.out.trans (b3.mono B2.out.size))
      clear b3
      go_wp2_with fail
      refine (hV.out _).mono ?_
      rintro e v ⟨rfl, rfl⟩
      go_wp2_with fail
      refine (hT.out _).mono ?_
      rintro e v4 ⟨rfl, b4⟩
      have B4 := Lib.hid (B3.out.trans (b4.mono B3.out.size))
      clear b4
      go_wp2_with fail
      refine (hL.out _).mono ?_
      rintro e v5 ⟨rfl, b5⟩
      have B5 := Lib.hid (B4.out.trans (b5.mono B4.out.size))
      clear b5
      go_wp2_with fail
      go_ret
      exact ⟨rfl, B5.out⟩
    · have hemp : a.toList.isEmpty = false := by rw [toList_data, List.isEmpty_eq_false_iff]; exact hA0
      cases hnm : nameL a.data.toList with
      | false =>
        rw [hnm] at hN
        have hN := Lib.hid hN
        by_cases hsl : (47 : UInt8) ∈ a.data.toList
        · have hn3 : 2 ≤ n := (Nat.lt_or_ge n 2).elim (fun h => absurd hsl (HONE.1 (by omega))) id
          obtain ⟨x1, x2, was⟩ := X
          have hT : ∀ W, Calls Tryd.prog 12 #[.string SS] W fun e w' => e = .returned (.tuple #[.string (bs x1), .string (bs x2), .bool was]) ∧ Below W.heap.size W w' := hT
          have hT := Lib.hid hT
          have q1 : ((n : Int) == 1) = false := by rw [beq_eq_false_iff_ne]; omega
          have q2 : (1 : Int) < (n : Int) := by omega
          clear HMADE HONE hN0 hFbv hn hn1 hn2 ha hb hA0 hnm hsl hn3 hFb
          cases was
          all_goals
            go_enter Tryd.func7, Tryd.ntmps7
            go_wp2_with fail
            refine (L4.out _).mono ?_
            rintro e v1 ⟨rfl, b1⟩
            have B1 := Lib.hid b1
            clear b1
            go_wp2_with fail
            refine (hS.out _).mono ?_
            rintro e v2 ⟨rfl, b2⟩
            have B2 := Lib.hid (B1.out.trans (b2.mono B1.out.size))
            clear b2
            go_wp2_with fail
            refine (hFf.out _).mono ?_
            rintro e v3 ⟨rfl, b3⟩
            have B3 := Lib.hid (B2.out.trans (b3.mono B2.out.size))
            clear b3
            go_wp2_with fail
            refine (hV.out _).mono ?_
            rintro e v ⟨rfl, rfl⟩
            go_wp2_with fail
            refine (hN.out _).mono ?_
            rintro e v4 ⟨rfl, b4⟩
            have B4 := Lib.hid (B3.out.trans (b4.mono B3.out.size))
            clear b4
            go_wp2_with fail
            refine (hT.out _).mono ?_
            rintro e v5 ⟨rfl, b5⟩
            have B5 := Lib.hid (B4.out.trans (b5.mono B4.out.size))
            clear b5
            go_wp2_with fail
            refine (hL.out _).mono ?_
            rintro e v6 ⟨rfl, b6⟩
            have B6 := Lib.hid (B5.out.trans (b6.mono B5.out.size))
            clear b6
            go_wp2_with fail
            go_ret
            exact ⟨rfl, B6.out⟩
        · skip
          have hX : X = ([], [], false) := by rw [HMADE hsl, if_neg (fun h => by rw [hnm] at h; cases h.1)]
          obtain rfl : n = 1 := HONE.2 hsl
          have hT : ∀ W, Calls Tryd.prog 12 #[.string SS] W fun e w' => e = .returned (.tuple #[.string ⟨#[]⟩, .string ⟨#[]⟩, .bool false]) ∧ Below W.heap.size W w' := fun W => by have := hT W; rw [hX] at this; exact this
          have hT := Lib.hid hT
          clear HMADE HONE hN0 hFbv hn hn1 hn2 ha hb hA0 hX hnm hsl hFb
          go_enter Tryd.func7, Tryd.ntmps7
          go_wp2_with fail
          refine (L4.out _).mono ?_
          rintro e v1 ⟨rfl, b1⟩
          have B1 := Lib.hid b1
          clear b1
          go_wp2_with fail
          refine (hS.out _).mono ?_
          rintro e v2 ⟨rfl, b2⟩
          have B2 := Lib.hid (B1.out.trans (b2.mono B1.out.size))
          clear b2
          go_wp2_with fail
          refine (hFf.out _).mono ?_
          rintro e v3 ⟨rfl, b3⟩
          have B3 := Lib.hid (B2.out.trans (b3.mono B2.out.size))
          clear b3
          go_wp2_with fail
          refine (hV.out _).mono ?_
          rintro e v ⟨rfl, rfl⟩
          go_wp2_with fail
          refine (hN.out _).mono ?_
          rintro e v4 ⟨rfl, b4⟩
          have B4 := Lib.hid (B3.out.trans (b4.mono B3.out.size))
          clear b4
          go_wp2_with fail
          refine (hT.out _).mono ?_
          rintro e v5 ⟨rfl, b5⟩
          have B5 := Lib.hid (B4.out.trans (b5.mono B4.out.size))
          clear b5
          go_wp2_with fail
          refine (hL.out _).mono ?_
          rintro e v6 ⟨rfl, b6⟩
          have B6 := Lib.hid (B5.out.trans (b6.mono B5.out.size))
          clear b6
          go_wp2_with fail
          go_ret
          exact ⟨rfl, B6.out⟩
      | true =>
        rw [hnm] at hN
        have hN := Lib.hid hN
        by_cases hsl : (47 : UInt8) ∈ a.data.toList
        · have hn3 : 2 ≤ n := (Nat.lt_or_ge n 2).elim (fun h => absurd hsl (HONE.1 (by omega))) id
          obtain ⟨x1, x2, was⟩ := X
          have hT : ∀ W, Calls Tryd.prog 12 #[.string SS] W fun e w' => e = .returned (.tuple #[.string (bs x1), .string (bs x2), .bool was]) ∧ Below W.heap.size W w' := hT
          have hT := Lib.hid hT
          have q1 : ((n : Int) == 1) = false := by rw [beq_eq_false_iff_ne]; omega
          have q2 : (1 : Int) < (n : Int) := by omega
          clear HMADE HONE hN0 hFbv hn hn1 hn2 ha hb hA0 hnm hsl hn3 hFb
          cases was
          all_goals
            go_enter Tryd.func7, Tryd.ntmps7
            go_wp2_with fail
            refine (L4.out _).mono ?_
            rintro e v1 ⟨rfl, b1⟩
            have B1 := Lib.hid b1
            clear b1
            go_wp2_with fail
            refine (hS.out _).mono ?_
            rintro e v2 ⟨rfl, b2⟩
            have B2 := Lib.hid (B1.out.trans (b2.mono B1.out.size))
            clear b2
            go_wp2_with fail
            refine (hFf.out _).mono ?_
            rintro e v3 ⟨rfl, b3⟩
            have B3 := Lib.hid (B2.out.trans (b3.mono B2.out.size))
            clear b3
            go_wp2_with fail
            refine (hV.out _).mono ?_
            rintro e v ⟨rfl, rfl⟩
            go_wp2_with fail
            refine (hN.out _).mono ?_
            rintro e v4 ⟨rfl, b4⟩
            have B4 := Lib.hid (B3.out.trans (b4.mono B3.out.size))
            clear b4
            go_wp2_with fail
            refine (hL.out _).mono ?_
            rintro e v5 ⟨rfl, b5⟩
            have B5 := Lib.hid (B4.out.trans (b5.mono B4.out.size))
            clear b5
            go_wp2_with fail
            refine (hT.out _).mono ?_
            rintro e v6 ⟨rfl, b6⟩
            have B6 := Lib.hid (B5.out.trans (b6.mono B5.out.size))
            clear b6
            go_wp2_with fail
            refine (hL.out _).mono ?_
            rintro e v7 ⟨rfl, b7⟩
            have B7 := Lib.hid (B6.out.trans (b7.mono B6.out.size))
            clear b7
            go_wp2_with fail
            go_ret
            exact ⟨rfl, B7.out⟩
        · obtain rfl : n = 1 := HONE.2 hsl
          cases hfb : filterL b.data.toList with
          | false =>
            have hX : X = ([], [], false) := by rw [HMADE hsl, if_neg (fun h => by rw [hfb] at h; cases h.2)]
            rw [hfb] at hFb
            have hFb := Lib.hid hFb
            have hT : ∀ W, Calls Tryd.prog 12 #[.string SS] W fun e w' => e = .returned (.tuple #[.string ⟨#[]⟩, .string ⟨#[]⟩, .bool false]) ∧ Below W.heap.size W w' := fun W => by have := hT W; rw [hX] at this; exact this
            have hT := Lib.hid hT
            clear HMADE HONE hN0 hFbv hn hn1 hn2 ha hb hA0 hX hnm hsl hfb
            go_enter Tryd.func7, Tryd.ntmps7
            go_wp2_with fail
            refine (L4.out _).mono ?_
            rintro e v1 ⟨rfl, b1⟩
            have B1 := Lib.hid b1
            clear b1
            go_wp2_with fail
            refine (hS.out _).mono ?_
            rintro e v2 ⟨rfl, b2⟩
            have B2 := Lib.hid (B1.out.trans (b2.mono B1.out.size))
            clear b2
            go_wp2_with fail
            refine (hFf.out _).mono ?_
            rintro e v3 ⟨rfl, b3⟩
            have B3 := Lib.hid (B2.out.trans (b3.mono B2.out.size))
            clear b3
            go_wp2_with fail
            refine (hV.out _).mono ?_
            rintro e v ⟨rfl, rfl⟩
            go_wp2_with fail
            refine (hN.out _).mono ?_
            rintro e v4 ⟨rfl, b4⟩
            have B4 := Lib.hid (B3.out.trans (b4.mono B3.out.size))
            clear b4
            go_wp2_with fail
            refine (hL.out _).mono ?_
            rintro e v5 ⟨rfl, b5⟩
            have B5 := Lib.hid (B4.out.trans (b5.mono B4.out.size))
            clear b5
            go_wp2_with fail
            refine (hFb.out _).mono ?_
            rintro e v6 ⟨rfl, b6⟩
            have B6 := Lib.hid (B5.out.trans (b6.mono B5.out.size))
            clear b6
            go_wp2_with fail
            refine (hT.out _).mono ?_
            rintro e v7 ⟨rfl, b7⟩
            have B7 := Lib.hid (B6.out.trans (b7.mono B6.out.size))
            clear b7
            go_wp2_with fail
            refine (hL.out _).mono ?_
            rintro e v8 ⟨rfl, b8⟩
            have B8 := Lib.hid (B7.out.trans (b8.mono B7.out.size))
            clear b8
            go_wp2_with fail
            go_ret
            exact ⟨rfl, B8.out⟩
          | true =>
            have hX : X = (a.data.toList, b.data.toList, true) := by rw [HMADE hsl, if_pos ⟨hnm, hfb⟩]
            rw [hfb] at hFb
            have hFb := Lib.hid hFb
            have hT : ∀ W, Calls Tryd.prog 12 #[.string SS] W fun e w' => e = .returned (.tuple #[.string a, .string b, .bool true]) ∧ Below W.heap.size W w' := fun W => by have := hT W; rw [hX] at this; exact this
            have hT := Lib.hid hT
            clear HMADE HONE hN0 hFbv hn hn1 hn2 ha hb hA0 hX hnm hsl hfb
            go_enter Tryd.func7, Tryd.ntmps7
            go_wp2_with fail
            refine (L4.out _).mono ?_
            rintro e v1 ⟨rfl, b1⟩
            have B1 := Lib.hid b1
            clear b1
            go_wp2_with fail
            refine (hS.out _).mono ?_
            rintro e v2 ⟨rfl, b2⟩
            have B2 := Lib.hid (B1.out.trans (b2.mono B1.out.size))
            clear b2
            go_wp2_with fail
            refine (hFf.out _).mono ?_
            rintro e v3 ⟨rfl, b3⟩
            have B3 := Lib.hid (B2.out.trans (b3.mono B2.out.size))
            clear b3
            go_wp2_with fail
            refine (hV.out _).mono ?_
            rintro e v ⟨rfl, rfl⟩
            go_wp2_with fail
            refine (hN.out _).mono ?_
            rintro e v4 ⟨rfl, b4⟩
            have B4 := Lib.hid (B3.out.trans (b4.mono B3.out.size))
            clear b4
            go_wp2_with fail
            refine (hL.out _).mono ?_
            rintro e v5 ⟨rfl, b5⟩
            have B5 := Lib.hid (B4.out.trans (b5.mono B4.out.size))
            clear b5
            go_wp2_with fail
            refine (hFb.out _).mono ?_
            rintro e v6 ⟨rfl, b6⟩
            have B6 := Lib.hid (B5.out.trans (b6.mono B5.out.size))
            clear b6
            go_wp2_with fail
            refine (hT.out _).mono ?_
            rintro e v7 ⟨rfl, b7⟩
            have B7 := Lib.hid (B6.out.trans (b7.mono B6.out.size))
            clear b7
            go_wp2_with fail
            go_ret
            exact ⟨rfl, B7.out⟩
  · skip
    have hS : ∀ W, Calls Tryd.prog 12 #[.string a] W fun e w' => e = .returned (.tuple #[.string ⟨#[]⟩, .string ⟨#[]⟩, .bool false]) ∧ Below W.heap.size W w' := fun W => by have := hS W; rw [h0] at this; exact this
    have hcat0 : (⟨#[]⟩ : ByteArray) ++ ⟨#[]⟩ = ⟨#[]⟩ := rfl
    have hS := Lib.hid hS
    clear h0 hV
    by_cases hA0 : a.data.toList = []
    · have hemp : a.toList.isEmpty = true := by rw [toList_data, hA0]; rfl
      have hX : X = ([], [], false) := by rw [HMADE (by rw [hA0]; simp), if_neg (fun h => (hN0 h.1).1 hA0)]
      obtain rfl : n = 1 := HONE.2 (by rw [hA0]; simp)
      have hT : ∀ W, Calls Tryd.prog 12 #[.string SS] W fun e w' => e = .returned (.tuple #[.string ⟨#[]⟩, .string ⟨#[]⟩, .bool false]) ∧ Below W.heap.size W w' := fun W => by have := hT W; rw [hX] at this; exact this
      have hT := Lib.hid hT
      clear HMADE HONE hN0 hFbv hn hn1 hn2 ha hb hA0 hX hN hFb
      go_enter Tryd.func7, Tryd.ntmps7
      go_wp2_with fail
      refine (L4.out _).mono ?_
      rintro e v1 ⟨rfl, b1⟩
      have B1 := Lib.hid b1
      clear b1
      go_wp2_with fail
      refine (hS.out _).mono ?_
      rintro e v2 ⟨rfl, b2⟩
      have B2 := Lib.hid (B1.out.trans (b2.mono B1.out.size))
      clear b2
      go_wp2_with fail
      refine (hT.out _).mono ?_
      rintro e v3 ⟨rfl, b3⟩
      have B3 := Lib.hid (B2.out.trans (b3.mono B2.out.size))
      clear b3
      go_wp2_with fail
      refine (hL.out _).mono ?_
      rintro e v4 ⟨rfl, b4⟩
      have B4 := Lib.hid (B3.out.trans (b4.mono B3.out.size))
      clear b4
      go_wp2_with fail
      go_ret
      exact ⟨rfl, B4.out⟩
    · have hemp : a.toList.isEmpty = false := by rw [toList_data, List.isEmpty_eq_false_iff]; exact hA0
      cases hnm : nameL a.data.toList with
      | false =>
        rw [hnm] at hN
        have hN := Lib.hid hN
        by_cases hsl : (47 : UInt8) ∈ a.data.toList
        · have hn3 : 2 ≤ n := (Nat.lt_or_ge n 2).elim (fun h => absurd hsl (HONE.1 (by omega))) id
          obtain ⟨x1, x2, was⟩ := X
          have hT : ∀ W, Calls Tryd.prog 12 #[.string SS] W fun e w' => e = .returned (.tuple #[.string (bs x1), .string (bs x2), .bool was]) ∧ Below W.heap.size W w' := hT
          have hT := Lib.hid hT
          have q1 : ((n : Int) == 1) = false := by rw [beq_eq_false_iff_ne]; omega
          have q2 : (1 : Int) < (n : Int) := by omega
          clear HMADE HONE hN0 hFbv hn hn1 hn2 ha hb hA0 hnm hsl hn3 hFb
          cases was
          all_goals
            go_enter Tryd.func7, Tryd.ntmps7
            go_wp2_with fail
            refine (L4.out _).mono ?_
            rintro e v1 ⟨rfl, b1⟩
            have B1 := Lib.hid b1
            clear b1
            go_wp2_with fail
            refine (hS.out _).mono ?_
            rintro e v2 ⟨rfl, b2⟩
            have B2 := Lib.hid (B1.out.trans (b2.mono B1.out.size))
            clear b2
            go_wp2_with fail
            refine (hN.out _).mono ?_
            rintro e v3 ⟨rfl, b3⟩
            have B3 := Lib.hid (B2.out.trans (b3.mono B2.out.size))
            clear b3
            go_wp2_with fail
            refine (hT.out _).mono ?_
            rintro e v4 ⟨rfl, b4⟩
            have B4 := Lib.hid (B3.out.trans (b4.mono B3.out.size))
            clear b4
            go_wp2_with fail
            refine (hL.out _).mono ?_
            rintro e v5 ⟨rfl, b5⟩
            have B5 := Lib.hid (B4.out.trans (b5.mono B4.out.size))
            clear b5
            go_wp2_with fail
            go_ret
            exact ⟨rfl, B5.out⟩
        · skip
          have hX : X = ([], [], false) := by rw [HMADE hsl, if_neg (fun h => by rw [hnm] at h; cases h.1)]
          obtain rfl : n = 1 := HONE.2 hsl
          have hT : ∀ W, Calls Tryd.prog 12 #[.string SS] W fun e w' => e = .returned (.tuple #[.string ⟨#[]⟩, .string ⟨#[]⟩, .bool false]) ∧ Below W.heap.size W w' := fun W => by have := hT W; rw [hX] at this; exact this
          have hT := Lib.hid hT
          clear HMADE HONE hN0 hFbv hn hn1 hn2 ha hb hA0 hX hnm hsl hFb
          go_enter Tryd.func7, Tryd.ntmps7
          go_wp2_with fail
          refine (L4.out _).mono ?_
          rintro e v1 ⟨rfl, b1⟩
          have B1 := Lib.hid b1
          clear b1
          go_wp2_with fail
          refine (hS.out _).mono ?_
          rintro e v2 ⟨rfl, b2⟩
          have B2 := Lib.hid (B1.out.trans (b2.mono B1.out.size))
          clear b2
          go_wp2_with fail
          refine (hN.out _).mono ?_
          rintro e v3 ⟨rfl, b3⟩
          have B3 := Lib.hid (B2.out.trans (b3.mono B2.out.size))
          clear b3
          go_wp2_with fail
          refine (hT.out _).mono ?_
          rintro e v4 ⟨rfl, b4⟩
          have B4 := Lib.hid (B3.out.trans (b4.mono B3.out.size))
          clear b4
          go_wp2_with fail
          refine (hL.out _).mono ?_
          rintro e v5 ⟨rfl, b5⟩
          have B5 := Lib.hid (B4.out.trans (b5.mono B4.out.size))
          clear b5
          go_wp2_with fail
          go_ret
          exact ⟨rfl, B5.out⟩
      | true =>
        rw [hnm] at hN
        have hN := Lib.hid hN
        by_cases hsl : (47 : UInt8) ∈ a.data.toList
        · have hn3 : 2 ≤ n := (Nat.lt_or_ge n 2).elim (fun h => absurd hsl (HONE.1 (by omega))) id
          obtain ⟨x1, x2, was⟩ := X
          have hT : ∀ W, Calls Tryd.prog 12 #[.string SS] W fun e w' => e = .returned (.tuple #[.string (bs x1), .string (bs x2), .bool was]) ∧ Below W.heap.size W w' := hT
          have hT := Lib.hid hT
          have q1 : ((n : Int) == 1) = false := by rw [beq_eq_false_iff_ne]; omega
          have q2 : (1 : Int) < (n : Int) := by omega
          clear HMADE HONE hN0 hFbv hn hn1 hn2 ha hb hA0 hnm hsl hn3 hFb
          cases was
          all_goals
            go_enter Tryd.func7, Tryd.ntmps7
            go_wp2_with fail
            refine (L4.out _).mono ?_
            rintro e v1 ⟨rfl, b1⟩
            have B1 := Lib.hid b1
            clear b1
            go_wp2_with fail
            refine (hS.out _).mono ?_
            rintro e v2 ⟨rfl, b2⟩
            have B2 := Lib.hid (B1.out.trans (b2.mono B1.out.size))
            clear b2
            go_wp2_with fail
            refine (hN.out _).mono ?_
            rintro e v3 ⟨rfl, b3⟩
            have B3 := Lib.hid (B2.out.trans (b3.mono B2.out.size))
            clear b3
            go_wp2_with fail
            refine (hL.out _).mono ?_
            rintro e v4 ⟨rfl, b4⟩
            have B4 := Lib.hid (B3.out.trans (b4.mono B3.out.size))
            clear b4
            go_wp2_with fail
            refine (hT.out _).mono ?_
            rintro e v5 ⟨rfl, b5⟩
            have B5 := Lib.hid (B4.out.trans (b5.mono B4.out.size))
            clear b5
            go_wp2_with fail
            refine (hL.out _).mono ?_
            rintro e v6 ⟨rfl, b6⟩
            have B6 := Lib.hid (B5.out.trans (b6.mono B5.out.size))
            clear b6
            go_wp2_with fail
            go_ret
            exact ⟨rfl, B6.out⟩
        · obtain rfl : n = 1 := HONE.2 hsl
          cases hfb : filterL b.data.toList with
          | false =>
            have hX : X = ([], [], false) := by rw [HMADE hsl, if_neg (fun h => by rw [hfb] at h; cases h.2)]
            rw [hfb] at hFb
            have hFb := Lib.hid hFb
            have hT : ∀ W, Calls Tryd.prog 12 #[.string SS] W fun e w' => e = .returned (.tuple #[.string ⟨#[]⟩, .string ⟨#[]⟩, .bool false]) ∧ Below W.heap.size W w' := fun W => by have := hT W; rw [hX] at this; exact this
            have hT := Lib.hid hT
            clear HMADE HONE hN0 hFbv hn hn1 hn2 ha hb hA0 hX hnm hsl hfb
            go_enter Tryd.func7, Tryd.ntmps7
            go_wp2_with fail
            refine (L4.out _).mono ?_
            rintro e v1 ⟨rfl, b1⟩
            have B1 := Lib.hid b1
            clear b1
            go_wp2_with fail
            refine (hS.out _).mono ?_
            rintro e v2 ⟨rfl, b2⟩
            have B2 := Lib.hid (B1.out.trans (b2.mono B1.out.size))
            clear b2
            go_wp2_with fail
            refine (hN.out _).mono ?_
            rintro e v3 ⟨rfl, b3⟩
            have B3 := Lib.hid (B2.out.trans (b3.mono B2.out.size))
            clear b3
            go_wp2_with fail
            refine (hL.out _).mono ?_
            rintro e v4 ⟨rfl, b4⟩
            have B4 := Lib.hid (B3.out.trans (b4.mono B3.out.size))
            clear b4
            go_wp2_with fail
            refine (hFb.out _).mono ?_
            rintro e v5 ⟨rfl, b5⟩
            have B5 := Lib.hid (B4.out.trans (b5.mono B4.out.size))
            clear b5
            go_wp2_with fail
            refine (hT.out _).mono ?_
            rintro e v6 ⟨rfl, b6⟩
            have B6 := Lib.hid (B5.out.trans (b6.mono B5.out.size))
            clear b6
            go_wp2_with fail
            refine (hL.out _).mono ?_
            rintro e v7 ⟨rfl, b7⟩
            have B7 := Lib.hid (B6.out.trans (b7.mono B6.out.size))
            clear b7
            go_wp2_with fail
            go_ret
            exact ⟨rfl, B7.out⟩
          | true =>
            have hX : X = (a.data.toList, b.data.toList, true) := by rw [HMADE hsl, if_pos ⟨hnm, hfb⟩]
            rw [hfb] at hFb
            have hFb := Lib.hid hFb
            have hT : ∀ W, Calls Tryd.prog 12 #[.string SS] W fun e w' => e = .returned (.tuple #[.string a, .string b, .bool true]) ∧ Below W.heap.size W w' := fun W => by have := hT W; rw [hX] at this; exact this
            have hT := Lib.hid hT
            clear HMADE HONE hN0 hFbv hn hn1 hn2 ha hb hA0 hX hnm hsl hfb
            go_enter Tryd.func7, Tryd.ntmps7
            go_wp2_with fail
            refine (L4.out _).mono ?_
            rintro e v1 ⟨rfl, b1⟩
            have B1 := Lib.hid b1
            clear b1
            go_wp2_with fail
            refine (hS.out _).mono ?_
            rintro e v2 ⟨rfl, b2⟩
            have B2 := Lib.hid (B1.out.trans (b2.mono B1.out.size))
            clear b2
            go_wp2_with fail
            refine (hN.out _).mono ?_
            rintro e v3 ⟨rfl, b3⟩
            have B3 := Lib.hid (B2.out.trans (b3.mono B2.out.size))
            clear b3
            go_wp2_with fail
            refine (hL.out _).mono ?_
            rintro e v4 ⟨rfl, b4⟩
            have B4 := Lib.hid (B3.out.trans (b4.mono B3.out.size))
            clear b4
            go_wp2_with fail
            refine (hFb.out _).mono ?_
            rintro e v5 ⟨rfl, b5⟩
            have B5 := Lib.hid (B4.out.trans (b5.mono B4.out.size))
            clear b5
            go_wp2_with fail
            refine (hT.out _).mono ?_
            rintro e v6 ⟨rfl, b6⟩
            have B6 := Lib.hid (B5.out.trans (b6.mono B5.out.size))
            clear b6
            go_wp2_with fail
            go_ret
            exact ⟨rfl, B6.out⟩
theorem shares_walk (a b : ByteArray) (w : World) (ha : a.size ≤ 9223372036854775807) (hb : b.size ≤ 9223372036854775807) :
    Calls Tryd.prog 7 #[.string a, .string b] w fun e w' => e = .returned (.bool true) ∧ Below w.heap.size w w' := by
  by_cases h : 200 < a.size ∨ 200 < b.size
  · exact shares_long a b w h
  · exact shares_short a b w (by omega) (by omega)
end Go.Proofs.YthgilnmfbhmgiaaDoor
