/-
  The walk of polyglotlaw05.PropBack. Condition: strings no longer than memory allows.
-/
import Derived.Test.YtgdaojihpjfjiaaPropRead
import Derived.Test.YtgdaojihpjfjiaaPropGood
import Derived.Test.YtgdaojihpjfjiaaPropSame
namespace Go.Proofs.Ytgdaojihpjfjiaa
open Go.RowKit

theorem read_err {kind : Int} {s : List UInt8} (h : (readP kind s).2.2 ≠ 0) : readP kind s = ([], 0, (readP kind s).2.2) := by
  unfold readP at *
  repeat' split
  all_goals first | rfl | skip
  all_goals
    rename_i h1 h2 h3 h4
    rw [if_neg h1, if_neg h2, if_neg h3, if_neg h4] at h
    exact absurd rfl h
theorem bs_take (s : ByteArray) (k : Nat) : bs (s.data.toList.take k) = s.extract 0 k := by
  apply ByteArray.ext
  apply Array.ext'
  simp [bs, List.extract_eq_take_drop]
/-- What Read gives, as a law's walk wants it. -/
theorem prop_read_form (kind : Int) (s : ByteArray) (L : List Pr) (k F : Nat) (hk0 : -9223372036854775808 ≤ kind) (hk1 : kind ≤ 9223372036854775807) (hm : s.size ≤ 9223372036854775807) (hq : readP kind s.data.toList = (L, k, F)) (W : World) :
    Calls Try.prog 12 #[.int .i64 kind, .string s] W fun e W' => Below W.heap.size W W' ∧ ∃ A c, e = .returned (.tuple #[.slice A L.length c, .int .i64 (k : Nat), .int .i64 (F : Nat)]) ∧ L.length ≤ c ∧ PL W' A L ∧ (∀ p ∈ L, PrOk p) ∧ L.length ≤ 1000 := by
  have := prop_read_any kind s W hk0 hk1 hm
  rw [hq] at this
  refine this.mono fun e W' ⟨hb, ok, hl, v, he, ho⟩ => ⟨hb, ?_⟩
  obtain ⟨A, c, rfl, hc, hP, _⟩ := PL.owned ho rfl
  exact ⟨A, c, he, hc, hP, ok, hl⟩
section
variable (kind : Int) (behind s : ByteArray) (A : Option Addr) (n c : Nat) (l : List Pr) (w : World) (k0 : -9223372036854775808 ≤ kind) (k1 : kind ≤ 9223372036854775807) (hl : PL w A l) (hn : l.length = n) (hc : n ≤ c) (ok : ∀ p ∈ l, PrOk p) (hm : ∀ p ∈ l, p.text.length ≤ 140737488351232 ∧ p.value.length ≤ 140737488351232)
include hl hn hm
set_option maxRecDepth 100000 in
theorem back_far (h : lightP l = false ∨ (lightP l = true ∧ ((100 : Int) < (behind.size : Int) ∨ (¬ (100 : Int) < (behind.size : Int) ∧ (2000 : Int) < (s.size : Int))))) :
    Calls Try.prog 4 #[.int .i64 kind, .slice A n c, .string behind, .string s] w fun e w' => e = .returned (.bool true) ∧ Below w.heap.size w w' := by
  have LT := fun W (hb : Below w.heap.size w W) => light_any A n c l W (hl.below hb) hn hm
  rcases h with h | ⟨h, h2 | ⟨h2, h3⟩⟩
  all_goals
    rw [h] at LT
    have LT := Lib.hid LT
    clear hl hn hm h
    go_enter Try.func4, Try.ntmps4
    go_wp2_with fail
    refine (lives_prop w).mono ?_
    rintro e w1 ⟨rfl, hb⟩
    go_wp2_with fail
    refine (LT.out _ hb).mono ?_
    rintro e w2 ⟨rfl, m, rfl⟩
    go_wp2_with fail
    go_ret
    exact ⟨rfl, below_draws hb _⟩
include k0 k1 hc ok
set_option maxRecDepth 100000 in
set_option maxHeartbeats 2000000 in
theorem back_main (hbm : s.size ≤ 9223372036854775807) (h : lightP l = true) (h1 : ¬ (100 : Int) < (behind.size : Int)) (h2 : ¬ (2000 : Int) < (s.size : Int)) :
    Calls Try.prog 4 #[.int .i64 kind, .slice A n c, .string behind, .string s] w fun e w' => e = .returned (.bool true) ∧ Below w.heap.size w w' := by
  have LT := fun W (hb : Below w.heap.size w W) => light_any A n c l W (hl.below hb) hn hm
  rw [h] at LT
  have LT := Lib.hid LT
  have VL := fun W (hb : Below w.heap.size w W) => valid_list kind A n c l W k0 k1 (hl.below hb) hn hc ok
  have BA := fun W (hb : Below w.heap.size w W) => bytes_list kind A n c l W k0 k1 (hl.below hb) hn hc ok
  have HL := Lib.hid (fun W (hb : Below w.heap.size w W) => hl.below hb)
  have HN := Lib.hid hn
  have e2 : (bytesP kind l).2 = validP kind l := by
    unfold bytesP
    by_cases hv : validP kind l = 0
    · rw [if_neg (by simp [hv]), hv]
    · rw [if_pos hv]
  rw [e2] at BA
  have SZ : validP kind l = 0 → (bs (bytesP kind l).1).size ≤ 268435459 := by
    intro hv
    obtain ⟨v1, v2, v3, v4⟩ := valid_parts hv
    rw [bs_size]; unfold bytesP
    rw [if_neg (by simp [hv]), List.length_append, vb_length]
    have := sz_cases (bodyP l).length v4
    omega
  have RB : validP kind l = 0 → ∀ W, Calls Try.prog 12 #[.int .i64 kind, .string (bs (bytesP kind l).1 ++ behind)] W fun e W' => Below W.heap.size W W' ∧ ∃ A c, e = .returned (.tuple #[.slice A n c, .int .i64 ((bs (bytesP kind l).1).size : Nat), .int .i64 (0 : Nat)]) ∧ n ≤ c ∧ PL W' A l ∧ (∀ p ∈ l, PrOk p) ∧ n ≤ 1000 := by
    intro hv W
    have hsz := SZ hv
    have hd : (bs (bytesP kind l).1 ++ behind).data.toList = (bytesP kind l).1 ++ behind.data.toList := by simp [bs]
    have hr := read_bytes hv behind.data.toList
    rw [← hd, ← bs_size] at hr
    have := prop_read_form kind (bs (bytesP kind l).1 ++ behind) l _ 0 k0 k1 (by rw [ByteArray.size_append]; omega) hr W
    rwa [hn] at this
  obtain ⟨L, nn, F, hq⟩ : ∃ L nn F, readP kind s.data.toList = (L, nn, F) := ⟨_, _, _, rfl⟩
  have RS := Lib.hid (fun W => prop_read_form kind s L nn F k0 k1 hbm hq W)
  obtain ⟨V, hV⟩ : ∃ V, validP kind l = V := ⟨_, rfl⟩
  obtain ⟨x1, hx1⟩ : ∃ x1, bs (bytesP kind l).1 = x1 := ⟨_, rfl⟩
  rw [hV] at VL BA RB SZ
  rw [hx1] at BA RB SZ
  have SZ := Lib.hid SZ
  have RB := Lib.hid RB
  have HQ := Lib.hid hq
  have HSM := Lib.hid hbm
  have HV := Lib.hid hV
  have HX := Lib.hid hx1
  have VL := Lib.hid VL
  have BA := Lib.hid BA
  have K0 := Lib.hid k0
  have K1 := Lib.hid k1
  have HB1 := Lib.hid h1
  have HS2 := Lib.hid h2
  clear k0 k1 hl hn hc ok hm h e2 hV hx1 hq hbm
  go_enter Try.func4, Try.ntmps4
  go_wp2_with fail
  refine (lives_prop w).mono ?_
  rintro e w1 ⟨rfl, hb⟩
  go_wp2_with fail
  refine (LT.out _ hb).mono ?_
  rintro e w2 ⟨rfl, m, rfl⟩
  have hb2 := below_draws hb m
  clear hb
  go_wp2_with fail
  refine (BA.out _ hb2).mono ?_
  rintro e w3 ⟨rfl, hb3⟩
  have HB := Lib.hid (hb2.trans (hb3.mono hb2.size))
  clear hb2 hb3
  go_wp2_with fail
  refine (VL.out _ HB.out).mono ?_
  rintro e w4 ⟨rfl, hb4⟩
  have HB := Lib.hid (HB.out.trans (hb4.mono HB.out.size))
  clear hb4 BA VL LT
  by_cases v0 : V = 0
  · subst v0
    have RB1 := Lib.hid (RB.out rfl)
    have hnl : ¬ 9223372036854775807 < x1.size + behind.size := by have := SZ.out rfl; have := HB1.out; omega
    go_wp2_with fail
    refine (RB1.out _).mono ?_
    rintro e w5 ⟨hb5, A5, c5, rfl, hc5, hP5, ok5, hn5⟩
    have HB := Lib.hid (HB.out.trans (hb5.mono HB.out.size))
    have SM := Lib.hid (ksame_props A5 A n c5 c l w5 hP5 (HL.out _ HB.out) HN.out (by have := HN.out; omega))
    have SP := Lib.hid (fun m => psame_props A5 A n c5 c l (w5.drewN m) (hP5.below (below_draws (Below.refl _ _) m)) (HL.out _ (below_draws HB.out m)) HN.out (by have := HN.out; omega))
    clear hb5 hc5 hP5 ok5 hn5 RB1 RB
    go_wp2_with fail
    refine (SM.out).mono ?_
    rintro e w6 ⟨rfl, m2, rfl⟩
    clear SM
    go_wp2_with fail
    refine (SP.out m2).mono ?_
    rintro e w6 ⟨rfl, m3, rfl⟩
    have HB := Lib.hid (below_draws HB.out (m2 + m3))
    clear SP hnl
    go_wp2_with fail
    refine (RS.out _).mono ?_
    rintro e w7 ⟨hb7, A6, c6, rfl, hc6, hP6, ok6, hn6⟩
    have HB := Lib.hid (HB.out.trans (hb7.mono HB.out.size))
    by_cases f0 : F = 0
    · subst f0
      obtain ⟨b1, b2, b3⟩ := read_back HQ.out
      have BL := fun W (hb : Below w7.heap.size w7 W) => bytes_list kind A6 L.length c6 L W K0.out K1.out (hP6.below hb) rfl hc6 ok6
      have VM := fun W (hb : Below w7.heap.size w7 W) => valid_list kind A6 L.length c6 L W K0.out K1.out (hP6.below hb) rfl hc6 ok6
      rw [b1] at VM
      have b4 : (bytesP kind L).2 = 0 := by unfold bytesP; rw [if_neg (by simp [b1])]
      rw [b3, b4, bs_take] at BL
      have q1 : (nn : Int) ≤ (s.size : Int) := by rw [← size_list] at b2; omega
      have q2 : (0 : Int) ≤ (nn : Int) := by omega
      obtain ⟨m6, hm6⟩ : ∃ z, L.length = z := ⟨_, rfl⟩
      rw [hm6] at BL VM
      rw [hm6]
      have BL := Lib.hid BL
      have VM := Lib.hid VM
      clear hb7 hc6 hP6 ok6 hn6 b1 b2 b3 b4 hm6
      go_wp2_with fail
      refine (BL.out _ (Below.refl _ _)).mono ?_
      rintro e w8 ⟨rfl, hb8⟩
      have HB := Lib.hid (HB.out.trans (hb8.mono HB.out.size))
      have H8 := Lib.hid hb8
      clear hb8
      go_wp2_with fail
      refine (VM.out _ H8.out).mono ?_
      rintro e w9 ⟨rfl, hb9⟩
      have HB := Lib.hid (HB.out.trans (hb9.mono HB.out.size))
      clear hb9
      go_wp2_with fail
      go_ret
      exact ⟨rfl, HB.out⟩
    · have hqe := read_err (kind := kind) (s := s.data.toList) (by rw [HQ.out]; exact f0)
      rw [HQ.out] at hqe
      simp only [Prod.mk.injEq] at hqe
      obtain ⟨rfl, rfl, _⟩ := hqe
      have q1 : (((F : Nat) : Int) != 0) = true := by simp; exact f0
      rw [List.length_nil]
      clear hb7 hc6 hP6 ok6 hn6 f0
      go_wp2_with fail
      go_ret
      exact ⟨rfl, HB.out⟩
  · have hx : x1 = ⟨#[]⟩ := by
      have := HX.out
      unfold bytesP at this
      rw [if_pos (by rw [HV.out]; exact v0)] at this
      exact this.symm
    subst hx
    have q0 : (((V : Nat) : Int) == 0) = false := by simp; exact v0
    clear v0 RB SZ
    go_wp2_with fail
    refine (RS.out _).mono ?_
    rintro e w7 ⟨hb7, A6, c6, rfl, hc6, hP6, ok6, hn6⟩
    have HB := Lib.hid (HB.out.trans (hb7.mono HB.out.size))
    by_cases f0 : F = 0
    · subst f0
      obtain ⟨b1, b2, b3⟩ := read_back HQ.out
      have BL := fun W (hb : Below w7.heap.size w7 W) => bytes_list kind A6 L.length c6 L W K0.out K1.out (hP6.below hb) rfl hc6 ok6
      have VM := fun W (hb : Below w7.heap.size w7 W) => valid_list kind A6 L.length c6 L W K0.out K1.out (hP6.below hb) rfl hc6 ok6
      rw [b1] at VM
      have b4 : (bytesP kind L).2 = 0 := by unfold bytesP; rw [if_neg (by simp [b1])]
      rw [b3, b4, bs_take] at BL
      have q1 : (nn : Int) ≤ (s.size : Int) := by rw [← size_list] at b2; omega
      have q2 : (0 : Int) ≤ (nn : Int) := by omega
      obtain ⟨m6, hm6⟩ : ∃ z, L.length = z := ⟨_, rfl⟩
      rw [hm6] at BL VM
      rw [hm6]
      have BL := Lib.hid BL
      have VM := Lib.hid VM
      clear hb7 hc6 hP6 ok6 hn6 b1 b2 b3 b4 hm6
      go_wp2_with fail
      refine (BL.out _ (Below.refl _ _)).mono ?_
      rintro e w8 ⟨rfl, hb8⟩
      have HB := Lib.hid (HB.out.trans (hb8.mono HB.out.size))
      have H8 := Lib.hid hb8
      clear hb8
      go_wp2_with fail
      refine (VM.out _ H8.out).mono ?_
      rintro e w9 ⟨rfl, hb9⟩
      have HB := Lib.hid (HB.out.trans (hb9.mono HB.out.size))
      clear hb9
      go_wp2_with fail
      go_ret
      exact ⟨rfl, HB.out⟩
    · have hqe := read_err (kind := kind) (s := s.data.toList) (by rw [HQ.out]; exact f0)
      rw [HQ.out] at hqe
      simp only [Prod.mk.injEq] at hqe
      obtain ⟨rfl, rfl, _⟩ := hqe
      have q1 : (((F : Nat) : Int) != 0) = true := by simp; exact f0
      rw [List.length_nil]
      clear hb7 hc6 hP6 ok6 hn6 f0
      go_wp2_with fail
      go_ret
      exact ⟨rfl, HB.out⟩
theorem back_walk :
    Calls Try.prog 4 #[.int .i64 kind, .slice A n c, .string behind, .string s] w fun e w' => e = .returned (.bool true) ∧ Below w.heap.size w w' := by
  by_cases h : lightP l = true
  · by_cases h1 : (100 : Int) < (behind.size : Int)
    · exact back_far kind behind s A n c l w hl hn hm (.inr ⟨h, .inl h1⟩)
    · by_cases h2 : (2000 : Int) < (s.size : Int)
      · exact back_far kind behind s A n c l w hl hn hm (.inr ⟨h, .inr ⟨h1, h2⟩⟩)
      · exact back_main kind behind s A n c l w k0 k1 hl hn hc ok hm (by omega) h h1 h2
  · exact back_far kind behind s A n c l w hl hn hm (.inl (by simpa using h))
end
end Go.Proofs.Ytgdaojihpjfjiaa
