/-
  The contracts of the reference's Version, kind, flags, Check, Flags (layer 7). No condition.
-/
import Derived.Test.YtnmdbbkcbedklaaDoorK20
import Derived.Test.YtnmdbbkcbedklaaDoorK27
namespace Go.Proofs.YtnmdbbkcbedklaaDoor
open Go.RowKit

theorem ref_version (v : Int) (w : World) : Calls Tryd.prog 45 #[.int .i64 v] w fun e w' => e = .returned (.bool (verH v)) ∧ w = w' := by
  cases h : verH v
  · have hv := verH_no h
    have e4 : (v == 4) = false := by rw [beq_eq_false_iff_ne]; exact hv.1
    have e5 : (v == 5) = false := by rw [beq_eq_false_iff_ne]; exact hv.2
    clear h hv
    go_enter Tryd.func45, Tryd.ntmps45
    go_wp2
    go_ret
    exact ⟨rfl, rfl⟩
  · rcases verH_yes h with rfl | rfl
    all_goals
      clear h
      go_enter Tryd.func45, Tryd.ntmps45
      go_wp2
      go_ret
      exact ⟨rfl, rfl⟩
theorem ref_kind (v k : Int) (w : World) : Calls Tryd.prog 46 #[.int .i64 v, .int .i64 k] w fun e w' => e = .returned (.bool (kindH v k)) ∧ w = w' := by
  by_cases h1 : 1 ≤ k
  · by_cases h2 : k < 15
    · have e : kindH v k = true := by unfold kindH; rw [decide_eq_true h1, decide_eq_true h2]; rfl
      rw [e]; clear e
      go_enter Tryd.func46, Tryd.ntmps46
      go_wp2
      go_ret
      exact ⟨rfl, rfl⟩
    · by_cases h3 : k = 15
      · subst h3
        by_cases h5 : v = 5
        · subst h5
          clear h1 h2
          go_enter Tryd.func46, Tryd.ntmps46
          go_wp2
          go_ret
          exact ⟨rfl, rfl⟩
        · have e5 : (v == 5) = false := by rw [beq_eq_false_iff_ne]; exact h5
          have e : kindH v 15 = false := by unfold kindH; rw [e5]; rfl
          rw [e]; clear e h5 h1 h2
          go_enter Tryd.func46, Tryd.ntmps46
          go_wp2
          go_ret
          exact ⟨rfl, rfl⟩
      · have e3 : (k == 15) = false := by rw [beq_eq_false_iff_ne]; exact h3
        have e : kindH v k = false := by unfold kindH; rw [e3, decide_eq_false h2]; simp
        rw [e]; clear e h3
        go_enter Tryd.func46, Tryd.ntmps46
        go_wp2
        go_ret
        exact ⟨rfl, rfl⟩
  · have e : kindH v k = false := by unfold kindH; rw [decide_eq_false h1]; rfl
    rw [e]; clear e
    go_enter Tryd.func46, Tryd.ntmps46
    go_wp2
    go_ret
    exact ⟨rfl, rfl⟩
theorem ref_flags (k f : Int) (w : World) : Calls Tryd.prog 52 #[.int .i64 k, .int .i64 f] w fun e w' => e = .returned (.bool (flagsH k f)) ∧ w = w' := by
  by_cases h3 : k = 3
  · subst h3
    by_cases h0 : 0 ≤ f
    · by_cases h15 : f ≤ 15
      · have : f = 0 ∨ f = 1 ∨ f = 2 ∨ f = 3 ∨ f = 4 ∨ f = 5 ∨ f = 6 ∨ f = 7 ∨ f = 8 ∨ f = 9 ∨ f = 10 ∨ f = 11 ∨ f = 12 ∨ f = 13 ∨ f = 14 ∨ f = 15 := by omega
        clear h0 h15
        rcases this with rfl | rfl | rfl | rfl | rfl | rfl | rfl | rfl | rfl | rfl | rfl | rfl | rfl | rfl | rfl | rfl
        all_goals
          go_enter Tryd.func52, Tryd.ntmps52
          go_wp2
          go_ret
          exact ⟨rfl, rfl⟩
      · have e : flagsH 3 f = false := by unfold flagsH; rw [if_pos rfl]; exact decide_eq_false (by omega)
        rw [e]; clear e
        go_enter Tryd.func52, Tryd.ntmps52
        go_wp2
        go_ret
        exact ⟨rfl, rfl⟩
    · have e : flagsH 3 f = false := by unfold flagsH; rw [if_pos rfl]; exact decide_eq_false (by omega)
      rw [e]; clear e
      go_enter Tryd.func52, Tryd.ntmps52
      go_wp2
      go_ret
      exact ⟨rfl, rfl⟩
  unfold flagsH
  rw [if_neg h3]
  have e3 : (k == 3) = false := by rw [beq_eq_false_iff_ne]; exact h3
  by_cases h6 : k = 6
  · subst h6
    clear h3
    go_enter Tryd.func52, Tryd.ntmps52
    go_wp2
    go_ret
    exact ⟨rfl, rfl⟩
  by_cases h8 : k = 8
  · subst h8
    clear h3
    go_enter Tryd.func52, Tryd.ntmps52
    go_wp2
    go_ret
    exact ⟨rfl, rfl⟩
  by_cases h10 : k = 10
  · subst h10
    clear h3
    go_enter Tryd.func52, Tryd.ntmps52
    go_wp2
    go_ret
    exact ⟨rfl, rfl⟩
  rw [if_neg (by omega)]
  have e6 : (k == 6) = false := by rw [beq_eq_false_iff_ne]; exact h6
  have e8 : (k == 8) = false := by rw [beq_eq_false_iff_ne]; exact h8
  have e10 : (k == 10) = false := by rw [beq_eq_false_iff_ne]; exact h10
  clear h3 h6 h8 h10
  go_enter Tryd.func52, Tryd.ntmps52
  go_wp2
  go_ret
  exact ⟨rfl, rfl⟩
set_option maxHeartbeats 1000000 in
theorem ref_check7 (v : Int) (h : Hd) (w : World) : Calls Tryd.prog 17 #[.int .i64 v, hdV h] w fun e w' => e = .returned (.int .i64 (checkH v h : Nat)) ∧ Below w.heap.size w w' := by
  have V := Lib.hid (ref_version v)
  have K := Lib.hid (ref_kind v h.kind)
  have F := Lib.hid (ref_flags h.kind h.flags)
  have HB := Lib.hid (fun o => below_box (w := w) o)
  unfold checkH
  cases hv : verH v
  · rw [if_pos rfl]
    rw [hv] at V
    clear K F hv
    obtain ⟨k, f, l⟩ := h
    unfold hdV
    go_enter Tryd.func17, Tryd.ntmps17
    go_wp2_with fail
    refine (V.out _).mono ?_
    rintro e w' ⟨rfl, rfl⟩
    go_wp2_with fail
    go_ret
    exact ⟨rfl, HB.out _⟩
  rw [hv] at V
  rw [if_neg (by decide)]
  cases hk : kindH v h.kind
  · rw [if_pos rfl]
    rw [hk] at K
    clear F hv hk
    obtain ⟨k, f, l⟩ := h
    unfold hdV
    go_enter Tryd.func17, Tryd.ntmps17
    go_wp2_with fail
    refine (V.out _).mono ?_
    rintro e w' ⟨rfl, rfl⟩
    go_wp2_with fail
    refine (K.out _).mono ?_
    rintro e w' ⟨rfl, rfl⟩
    go_wp2_with fail
    go_ret
    exact ⟨rfl, HB.out _⟩
  rw [hk] at K
  rw [if_neg (by decide)]
  cases hf : flagsH h.kind h.flags
  · rw [if_pos rfl]
    rw [hf] at F
    clear hv hk hf
    obtain ⟨k, f, l⟩ := h
    unfold hdV
    go_enter Tryd.func17, Tryd.ntmps17
    go_wp2_with fail
    refine (V.out _).mono ?_
    rintro e w' ⟨rfl, rfl⟩
    go_wp2_with fail
    refine (K.out _).mono ?_
    rintro e w' ⟨rfl, rfl⟩
    go_wp2_with fail
    refine (F.out _).mono ?_
    rintro e w' ⟨rfl, rfl⟩
    go_wp2_with fail
    go_ret
    exact ⟨rfl, HB.out _⟩
  rw [hf] at F
  rw [if_neg (by decide)]
  clear hv hk hf
  obtain ⟨k, f, l⟩ := h
  unfold hdV
  by_cases h1 : l < 0
  · rw [if_pos (.inl h1)]
    go_enter Tryd.func17, Tryd.ntmps17
    go_wp2_with fail
    refine (V.out _).mono ?_
    rintro e w' ⟨rfl, rfl⟩
    go_wp2_with fail
    refine (K.out _).mono ?_
    rintro e w' ⟨rfl, rfl⟩
    go_wp2_with fail
    refine (F.out _).mono ?_
    rintro e w' ⟨rfl, rfl⟩
    go_wp2_with fail
    go_ret
    exact ⟨rfl, HB.out _⟩
  by_cases h2 : 268435455 < l
  · rw [if_pos (.inr h2)]
    go_enter Tryd.func17, Tryd.ntmps17
    go_wp2_with fail
    refine (V.out _).mono ?_
    rintro e w' ⟨rfl, rfl⟩
    go_wp2_with fail
    refine (K.out _).mono ?_
    rintro e w' ⟨rfl, rfl⟩
    go_wp2_with fail
    refine (F.out _).mono ?_
    rintro e w' ⟨rfl, rfl⟩
    go_wp2_with fail
    go_ret
    exact ⟨rfl, HB.out _⟩
  · rw [if_neg (by rintro (h | h); exact h1 h; exact h2 h)]
    go_enter Tryd.func17, Tryd.ntmps17
    go_wp2_with fail
    refine (V.out _).mono ?_
    rintro e w' ⟨rfl, rfl⟩
    go_wp2_with fail
    refine (K.out _).mono ?_
    rintro e w' ⟨rfl, rfl⟩
    go_wp2_with fail
    refine (F.out _).mono ?_
    rintro e w' ⟨rfl, rfl⟩
    go_wp2_with fail
    go_ret
    exact ⟨rfl, HB.out _⟩
set_option maxRecDepth 100000 in
set_option maxHeartbeats 2000000 in
theorem ref_flags7 (v : Int) {k q : Int} {d r : Bool} {c : Array Value} (w : World) (h0 : c[0]? = some (.int .i64 k)) (h1 : c[1]? = some (.bool d)) (h2 : c[2]? = some (.bool r)) (h3 : c[3]? = some (.int .i64 q)) :
    Calls Tryd.prog 13 #[.int .i64 v, .agg c] w (FlRet (flagsF v k d r q) w) := by
  have HB := Lib.hid (fun o => below_box (w := w) o)
  have V := Lib.hid (ref_version v)
  have K := Lib.hid (ref_kind v k)
  unfold flagsF
  cases hv : verH v
  · rw [if_pos rfl]
    rw [hv] at V
    clear K hv
    go_enter Tryd.func13, Tryd.ntmps13
    go_wp2_with fail
    refine (V.out _).mono ?_
    rintro e w' ⟨rfl, rfl⟩
    go_wp2_with fail
    go_ret2
    exact ⟨rfl, HB.out _⟩
  rw [hv] at V
  rw [if_neg (by decide)]
  cases hk : kindH v k
  · rw [if_pos rfl]
    rw [hk] at K
    clear hv hk
    go_enter Tryd.func13, Tryd.ntmps13
    go_wp2_with fail
    refine (V.out _).mono ?_
    rintro e w' ⟨rfl, rfl⟩
    go_wp2_with fail
    refine (K.out _).mono ?_
    rintro e w' ⟨rfl, rfl⟩
    go_wp2_with fail
    go_ret2
    exact ⟨rfl, HB.out _⟩
  rw [hk] at K
  rw [if_neg (by decide)]
  clear hv hk
  by_cases hs : k = 6 ∨ k = 8 ∨ k = 10
  · rw [if_pos hs]
    rcases hs with rfl | rfl | rfl
    all_goals
      go_enter Tryd.func13, Tryd.ntmps13
      go_wp2_with fail
      refine (V.out _).mono ?_
      rintro e w' ⟨rfl, rfl⟩
      go_wp2_with fail
      refine (K.out _).mono ?_
      rintro e w' ⟨rfl, rfl⟩
      go_wp2_with fail
      go_ret2
      exact ⟨rfl, HB.out _⟩
  rw [if_neg hs]
  by_cases hp : k = 3
  · subst hp
    rw [if_pos rfl]
    clear hs
    by_cases q0 : q < 0
    · have e : qosOk d q = false := by unfold qosOk; rw [decide_eq_false (show ¬ 0 ≤ q by omega)]; rfl
      rw [e]; clear e
      go_enter Tryd.func13, Tryd.ntmps13
      go_wp2_with fail
      refine (V.out _).mono ?_
      rintro e w' ⟨rfl, rfl⟩
      go_wp2_with fail
      refine (K.out _).mono ?_
      rintro e w' ⟨rfl, rfl⟩
      go_wp2_with fail
      go_ret2
      exact ⟨rfl, HB.out _⟩
    by_cases q2 : 2 < q
    · have e : qosOk d q = false := by unfold qosOk; rw [decide_eq_false (show ¬ q ≤ 2 by omega)]; simp
      rw [e]; clear e
      go_enter Tryd.func13, Tryd.ntmps13
      go_wp2_with fail
      refine (V.out _).mono ?_
      rintro e w' ⟨rfl, rfl⟩
      go_wp2_with fail
      refine (K.out _).mono ?_
      rintro e w' ⟨rfl, rfl⟩
      go_wp2_with fail
      go_ret2
      exact ⟨rfl, HB.out _⟩
    obtain rfl | rfl | rfl : q = 0 ∨ q = 1 ∨ q = 2 := by omega
    all_goals
      clear q0 q2
      cases d <;> cases r
    all_goals
      go_enter Tryd.func13, Tryd.ntmps13
      go_wp2_with fail
      refine (V.out _).mono ?_
      rintro e w' ⟨rfl, rfl⟩
      go_wp2_with fail
      refine (K.out _).mono ?_
      rintro e w' ⟨rfl, rfl⟩
      go_wp2_with fail
      go_ret2
      exact ⟨rfl, HB.out _⟩
  · rw [if_neg hp]
    have e3 : (k == 3) = false := by rw [beq_eq_false_iff_ne]; exact hp
    have e6 : (k == 6) = false := by rw [beq_eq_false_iff_ne]; omega
    have e8 : (k == 8) = false := by rw [beq_eq_false_iff_ne]; omega
    have e10 : (k == 10) = false := by rw [beq_eq_false_iff_ne]; omega
    clear hs hp
    go_enter Tryd.func13, Tryd.ntmps13
    go_wp2_with fail
    refine (V.out _).mono ?_
    rintro e w' ⟨rfl, rfl⟩
    go_wp2_with fail
    refine (K.out _).mono ?_
    rintro e w' ⟨rfl, rfl⟩
    go_wp2_with fail
    go_ret2
    exact ⟨rfl, HB.out _⟩
end Go.Proofs.YtnmdbbkcbedklaaDoor
