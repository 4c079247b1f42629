/-
  The walk of HeadFlags. No condition.
-/
import Derived.Test.YtnmdbbkcbedklaaHdLive
import Derived.Test.YtnmdbbkcbedklaaPick
namespace Go.Proofs.Ytnmdbbkcbedklaa
open Go.RowKit

set_option maxRecDepth 100000 in
set_option maxHeartbeats 1000000 in
theorem flags_main (v k f : Int) (d r : Bool) (q0 q n : Int) (e c : Nat) (w : World) (hq : q0 % 3 = q)
    (hfl : ∀ W, Calls Try.prog 11 #[.int .i64 v, .agg (pkD k d r q)] W (FlRet (n, e) W))
    (hc : ∀ W, Calls Try.prog 8 #[.int .i64 v, .agg #[.int .i64 k, .int .i64 f, .int .i64 0]] W fun e w' => e = .returned (.int .i64 (c : Int)) ∧ Below W.heap.size W w')
    (hc2 : e = 0 → ∀ W, Calls Try.prog 8 #[.int .i64 v, .agg #[.int .i64 k, .int .i64 n, .int .i64 0]] W fun e w' => e = .returned (.int .i64 0) ∧ Below W.heap.size W w')
    (h1 : e = 0 → k ≠ 3 → ((c : Int) == 0) = (f == n))
    (h2 : e = 0 → k = 3 → ∃ m : Nat, n = (m : Int) ∧ m ≤ 15 ∧ ((m : Int) % 2 == 1) = r ∧ decide (8 ≤ (m : Int)) = d ∧ (m : Int) / 2 % 4 = q)
    (h3 : e ≠ 0 → c = 0 → k = 3 ∧ e = 7 ∧ d = true ∧ q = 0) (h4 : e ≠ 0 → c ≠ 0 → n = 0) :
    Calls Try.prog 4 #[.int .i64 v, .int .i64 k, .int .i64 f, .bool d, .bool r, .int .i64 q0] w fun e w' => e = .returned (.bool true) ∧ Below w.heap.size w w' := by
  have Q := Lib.hid hq
  have FL := Lib.hid hfl
  have CH := Lib.hid hc
  have C2 := Lib.hid hc2
  have hzv := zero_pk
  have HZ := Lib.hid pkZ_size
  have hne : ¬ pkZ = #[] := by intro h; have := pkZ_size; rw [h] at this; cases this
  generalize pkZ = Z at hzv HZ hne
  generalize hD : pkD k d r q = D at *
  have HD := Lib.hid hD
  have H1 := Lib.hid h1
  have H2 := Lib.hid h2
  have H3 := Lib.hid h3
  have H4 := Lib.hid h4
  clear hD hq hfl hc hc2 h1 h2 h3 h4
  go_enter Try.func4, Try.ntmps4
  go_wp2_with fail
  refine (lives_head _).mono ?_
  rintro e W ⟨rfl, hb⟩
  have B1 := Lib.hid hb
  clear hb
  go_wp2_with fail
  refine (pick_any _ 3 _ (by decide) (by decide)).mono ?_
  rintro e W ⟨rfl, rfl⟩
  rw [Q.out]
  go_wp2_with (first
    | (refine wpList_buildTo rfl 39 _ rfl (some 25) rfl D (by rw [← HD.out]; kernel_rfl) ?_)
    | (refine wpList_store_row rfl _ _ _ rfl W.heap.size D rfl rfl 39 _ (heap_alloc_new W _) ?c1 ?c2 ?c3 ?_)
    | (refine wpList_load_row rfl _ _ rfl W.heap.size rfl 39 _ (0, 0) _ (setRow_heap _ _ _ _ _ _ (heap_alloc_new W _)) Try.underlying39 rfl ?c4 ?_))
  case c1 => rw [← HD.out]; exact info_pk
  case c2 => rw [HZ.out, ← HD.out]; rfl
  case c3 => rw [← HD.out]; exact pkD_one _ _ _ _
  case c4 => rw [← HD.out]; exact info_pk
  refine (FL.out _).mono ?_
  rintro e2 W2 ⟨rfl, hb⟩
  have B2 := Lib.hid (below_then (belowRow (below_then B1.out (below_box _)) B1.out.size D) hb)
  clear hb
  go_wp2_with fail
  refine (CH.out _).mono ?_
  rintro e W3 ⟨rfl, hb⟩
  have B3 := Lib.hid (below_then B2.out hb)
  clear hb
  by_cases he : e = 0
  · subst he
    have C3 := Lib.hid (C2.out rfl)
    by_cases hk : k = 3
    · obtain ⟨m, hn, hm, p1, p2, p3⟩ := H2.out rfl hk
      subst hk hn
      have hm2 : (m : Int) ≤ 15 := by omega
      clear hm
      go_wp2_with fail
      refine (C3.out _).mono ?_
      rintro e W4 ⟨rfl, hb⟩
      have B4 := Lib.hid (below_then B3.out hb)
      clear hb
      go_wp2_with fail
      go_ret
      exact ⟨rfl, B4.out⟩
    · have hk2 : (k == 3) = false := by rw [beq_eq_false_iff_ne]; exact hk
      have hx := H1.out rfl hk
      clear hk
      cases hy : (f == n)
      · rw [hy] at hx
        go_wp2_with fail
        refine (C3.out _).mono ?_
        rintro e W4 ⟨rfl, hb⟩
        have B4 := Lib.hid (below_then B3.out hb)
        clear hb
        go_wp2_with fail
        go_ret
        exact ⟨rfl, B4.out⟩
      · rw [hy] at hx
        go_wp2_with fail
        refine (C3.out _).mono ?_
        rintro e W4 ⟨rfl, hb⟩
        have B4 := Lib.hid (below_then B3.out hb)
        clear hb
        go_wp2_with fail
        go_ret
        exact ⟨rfl, B4.out⟩
  · have he2 : ((e : Int) == 0) = false := by simp; omega
    by_cases hc : c = 0
    · obtain ⟨rfl, rfl, rfl, rfl⟩ := H3.out he hc
      subst hc
      clear he
      go_wp2_with fail
      go_ret
      exact ⟨rfl, B3.out⟩
    · have hn := H4.out he hc
      subst hn
      have hc2 : ((c : Int) == 0) = false := by simp; omega
      clear he hc
      go_wp2_with fail
      go_ret
      exact ⟨rfl, B3.out⟩
theorem flags_walk (v k f : Int) (d r : Bool) (q0 : Int) (w : World) :
    Calls Try.prog 4 #[.int .i64 v, .int .i64 k, .int .i64 f, .bool d, .bool r, .int .i64 q0] w fun e w' => e = .returned (.bool true) ∧ Below w.heap.size w w' := by
  have q1 := Int.emod_nonneg q0 (show (3 : Int) ≠ 0 by decide)
  have q2 := Int.emod_lt_of_pos q0 (show (0 : Int) < 3 by decide)
  obtain ⟨q, hq⟩ : ∃ q, q0 % 3 = q := ⟨_, rfl⟩
  rw [hq] at q1 q2
  have CO : ∀ z, (flagsF v k d r q).2 = 0 → checkH v ⟨k, z, 0⟩ = if flagsH k z = true then 0 else 7 := fun z he => by
    have hf := flags_fit he
    unfold checkH
    rw [hf.1, hf.2.1]
    cases flagsH k z <;> rfl
  refine flags_main v k f d r q0 q (flagsF v k d r q).1 (flagsF v k d r q).2 (checkH v ⟨k, f, 0⟩) w hq
    (fun W => flags_any v W rfl rfl rfl rfl rfl) (fun W => check_any v ⟨k, f, 0⟩ W) (fun he W => ?_) (fun he hk => ?_) (fun he hk => ?_) (fun he hc => ?_) (fun he _ => flags_no he)
  · have := check_any v ⟨k, (flagsF v k d r q).1, 0⟩ W
    rw [CO _ he, if_pos (flags_fit he).2.2] at this
    exact this
  · rw [CO f he, flags_only he hk]
    cases f == (flagsF v k d r q).1 <;> rfl
  · subst hk
    obtain ⟨m, h1, h2, h3, h4, h5⟩ := flags_pub he
    refine ⟨m, h1, h2, ?_, ?_, ?_⟩
    · rw [← h3, Bool.eq_iff_iff, beq_iff_eq, decide_eq_true_eq]; omega
    · rw [← h4, Bool.eq_iff_iff, decide_eq_true_eq, decide_eq_true_eq]; omega
    · rw [← h5]; omega
  · exact flags_bad ⟨q1, by omega⟩ he hc
end Go.Proofs.Ytnmdbbkcbedklaa
