/-
  Plain facts on topics: each filter is within itself; what is within another one matches no more; within is transitive; of a name it is matching. No condition.
-/
import Derived.Test.YthgilnmfbhmgiaaDoorTopFacts
namespace Go.Proofs.YthgilnmfbhmgiaaDoor

theorem dollar_head (s : List UInt8) : dollarL s = dollarL ((lvls s).headD []) := by
  cases s with
  | nil => simp [lvls]
  | cons c s =>
    by_cases h : c = 47
    · subst h
      rw [lvls_slash]; simp [dollarL]
    · obtain ⟨l, ls, e1, e2⟩ := lvls_other h s
      rw [e2]; simp [dollarL]
theorem wild_not_dollar {l : List UInt8} (h : wildL l = true) : dollarL l = false := by
  unfold wildL at h
  simp only [Bool.or_eq_true, decide_eq_true_eq] at h
  rcases h with rfl | rfl <;> decide
/-- A filter that begins with # is it. -/
theorem hash_alone {x : List (List UInt8)} (h : okl x) (h0 : x.headD [] = [35]) : x = [[35]] := by
  cases x with
  | nil => simp at h0
  | cons l ls =>
    have e : l = [35] := h0
    subst e
    rw [(h.2.1 (by simp)).2]
theorem opened_hash : opened [[35]] = [[43], [35]] := by decide
theorem opened_slash : opened [[], [35]] = [[], [43], [35]] := by decide
theorem opened_other {x : List (List UInt8)} (h : x ≠ [[35]]) (h' : x ≠ [[], [35]]) : opened x = x := by unfold opened; rw [if_neg h, if_neg h']
/-- What a filter's levels are then. -/
def opn (x : List (List UInt8)) : Prop := ∃ l ls, x = l :: ls ∧ l ≠ [35] ∧ (l = [] → ∃ l2 ls2, ls = l2 :: ls2 ∧ l2 ≠ [35])
theorem lvls_single {s : List UInt8} (h : lvls s = [[]]) : s = [] := by
  have := joins_lvls s
  rw [h] at this
  exact this.symm
theorem opened_opn {a : List UInt8} (h : a ≠ []) (ho : okl (lvls a)) : opn (opened (lvls a)) := by
  by_cases h1 : lvls a = [[35]]
  · rw [h1, opened_hash]
    exact ⟨[43], [[35]], rfl, by decide, fun e => by cases e⟩
  · by_cases h2 : lvls a = [[], [35]]
    · rw [h2, opened_slash]
      exact ⟨[], [[43], [35]], rfl, by decide, fun _ => ⟨[43], [[35]], rfl, by decide⟩⟩
    · rw [opened_other h1 h2]
      obtain ⟨l, ls, e⟩ := List.exists_cons_of_ne_nil (lvls_ne a)
      have hl : l ≠ [35] := fun e2 => h1 (by
        subst e2
        exact hash_alone ho (by rw [e]; rfl))
      refine ⟨l, ls, e, hl, fun e2 => ?_⟩
      subst e2
      cases ls with
      | nil => exact absurd (lvls_single e) h
      | cons l2 ls2 =>
        refine ⟨l2, ls2, rfl, fun e3 => h2 ?_⟩
        subst e3
        rw [e] at ho ⊢
        have := (ho.2.2.2.1 (by simp)).2
        rw [this]
theorem within_iff_parts (a b : List UInt8) : withinL a b = true ↔ filterL a = true ∧ filterL b = true ∧ ¬ (dollarL a = true ∧ wildL ((lvls b).headD []) = true) ∧ win (opened (lvls a)) (lvls b) = true := by
  unfold withinL
  simp only [Bool.and_eq_true, Bool.not_eq_true', Bool.and_eq_false_iff, and_assoc]
  constructor
  · rintro ⟨h1, h2, h3, h4⟩
    refine ⟨h1, h2, fun ⟨k1, k2⟩ => ?_, h4⟩
    rcases h3 with h | h
    · rw [h] at k1; cases k1
    · rw [h] at k2; cases k2
  · rintro ⟨h1, h2, h3, h4⟩
    refine ⟨h1, h2, ?_, h4⟩
    cases hd : dollarL a with
    | false => exact .inl rfl
    | true =>
      cases hw : wildL ((lvls b).headD []) with
      | false => exact .inr rfl
      | true => exact absurd ⟨hd, hw⟩ h3
theorem match_iff_parts (f n : List UInt8) : matchL f n = true ↔ filterL f = true ∧ nameL n = true ∧ ¬ (dollarL n = true ∧ wildL ((lvls f).headD []) = true) ∧ mat (lvls f) (lvls n) = true := by
  unfold matchL
  simp only [Bool.and_eq_true, Bool.not_eq_true', Bool.and_eq_false_iff, and_assoc]
  constructor
  · rintro ⟨h1, h2, h3, h4⟩
    refine ⟨h1, h2, fun ⟨k1, k2⟩ => ?_, h4⟩
    rcases h3 with h | h
    · rw [h] at k1; cases k1
    · rw [h] at k2; cases k2
  · rintro ⟨h1, h2, h3, h4⟩
    refine ⟨h1, h2, ?_, h4⟩
    cases hd : dollarL n with
    | false => exact .inl rfl
    | true =>
      cases hw : wildL ((lvls f).headD []) with
      | false => exact .inr rfl
      | true => exact absurd ⟨hd, hw⟩ h3

theorem win_opened_self {x : List (List UInt8)} (h : okl x) : win (opened x) x = true := by
  by_cases h1 : x = [[35]]
  · rw [h1, opened_hash, win_cons]; simp
  · by_cases h2 : x = [[], [35]]
    · rw [h2, opened_slash, win_cons, win_cons]; simp
    · rw [opened_other h1 h2]; exact win_refl x h
/-- Each filter is within itself. -/
theorem within_self (a : List UInt8) : withinL a a = filterL a := by
  rw [Bool.eq_iff_iff, within_iff_parts]
  constructor
  · exact fun h => h.1
  · intro h
    refine ⟨h, h, fun ⟨k1, k2⟩ => ?_, win_opened_self ((filter_iff a).1 h).2.2⟩
    have := wild_not_dollar k2
    rw [← dollar_head] at this
    rw [this] at k1; cases k1

theorem mat_opened {x n : List (List UInt8)} (hn : n ≠ []) (hn2 : n ≠ [[]]) (hm : mat x n = true) : mat (opened x) n = true := by
  obtain ⟨m, ms, rfl⟩ := List.exists_cons_of_ne_nil hn
  by_cases h1 : x = [[35]]
  · rw [h1, opened_hash, mat_cons, mat_hash]; simp
  · by_cases h2 : x = [[], [35]]
    · rw [h2, mat_cons] at hm
      rw [h2, opened_slash, mat_cons]
      simp only [Bool.or_eq_true, Bool.and_eq_true, decide_eq_true_eq] at hm ⊢
      rcases hm with hm | ⟨hm | hm, _⟩
      · exact absurd hm (by decide)
      · exact absurd hm (by decide)
      · refine .inr ⟨.inr hm, ?_⟩
        cases ms with
        | nil => subst hm; exact absurd rfl hn2
        | cons k ks => rw [mat_cons, mat_hash]; simp
    · rw [opened_other h1 h2]; exact hm
/-- What is within another filter matches no more. -/
theorem within_match {a b n : List UInt8} (h : withinL a b = true) (hm : matchL a n = true) : matchL b n = true := by
  obtain ⟨h1, h2, h3, h4⟩ := (within_iff_parts a b).1 h
  obtain ⟨m1, m2, m3, m4⟩ := (match_iff_parts a n).1 hm
  refine (match_iff_parts b n).2 ⟨h2, m2, fun ⟨k1, k2⟩ => ?_, win_mat _ _ _ h4 (mat_opened (lvls_ne n) (fun e => ((name_iff n).1 m2).1 (lvls_single e)) m4)⟩
  -- the name begins with $, b with a wildcard: then a begins with $ too
  refine h3 ⟨?_, k2⟩
  have hw : wildL ((lvls a).headD []) = false := by
    cases hw : wildL ((lvls a).headD []) with
    | false => rfl
    | true => exact absurd ⟨k1, hw⟩ m3
  obtain ⟨l, ls, ea⟩ := List.exists_cons_of_ne_nil (lvls_ne a)
  obtain ⟨c, cs, en⟩ := List.exists_cons_of_ne_nil (lvls_ne n)
  rw [ea] at hw m4
  rw [en, mat_cons] at m4
  have hw' : wildL l = false := hw
  unfold wildL at hw'
  simp only [Bool.or_eq_false_iff, decide_eq_false_iff_not] at hw'
  simp only [Bool.or_eq_true, Bool.and_eq_true, decide_eq_true_eq] at m4
  rw [dollar_head, en] at k1
  rw [dollar_head, ea]
  rcases m4 with m4 | ⟨m4 | m4, _⟩
  · exact absurd m4 hw'.2
  · exact absurd m4 hw'.1
  · show dollarL l = true
    rw [m4]; exact k1

/-- Within is transitive. -/
theorem within_trans {a b c : List UInt8} (h : withinL a b = true) (h' : withinL b c = true) : withinL a c = true := by
  obtain ⟨h1, h2, h3, h4⟩ := (within_iff_parts a b).1 h
  obtain ⟨_, k2, k3, k4⟩ := (within_iff_parts b c).1 h'
  obtain ⟨x, xs, ex, hx, hxs⟩ := opened_opn ((filter_iff a).1 h1).1 ((filter_iff a).1 h1).2.2
  have hob := ((filter_iff b).1 h2).2.2
  refine (within_iff_parts a c).2 ⟨h1, k2, fun ⟨d, wc⟩ => ?_, ?_⟩
  · have hb : dollarL b = false := by
      cases hb : dollarL b with
      | false => rfl
      | true => exact absurd ⟨hb, wc⟩ k3
    have hwb : wildL ((lvls b).headD []) = false := by
      cases hw : wildL ((lvls b).headD []) with
      | false => rfl
      | true => exact absurd ⟨d, hw⟩ h3
    obtain ⟨l, ls, ea⟩ := List.exists_cons_of_ne_nil (lvls_ne a)
    obtain ⟨m, ms, eb⟩ := List.exists_cons_of_ne_nil (lvls_ne b)
    have hd : dollarL l = true := by rw [dollar_head, ea] at d; exact d
    have hl : (lvls a).headD [] ≠ [35] := by
      rw [ea]
      intro e
      have e' : l = [35] := e
      rw [e'] at hd
      exact absurd hd (by decide)
    have hl2 : lvls a ≠ [[], [35]] := by
      rw [ea]
      intro e
      have e' : l = [] := (List.cons.inj e).1
      rw [e'] at hd
      exact absurd hd (by decide)
    rw [opened_other (fun e => hl (by rw [e]; rfl)) hl2, ea, eb, win_cons] at h4
    have hwb' : wildL m = false := by rw [eb] at hwb; exact hwb
    unfold wildL at hwb'
    simp only [Bool.or_eq_false_iff, decide_eq_false_iff_not] at hwb'
    simp only [Bool.or_eq_true, Bool.and_eq_true, decide_eq_true_eq] at h4
    rcases h4 with h4 | ⟨⟨_, h4 | h4⟩, _⟩
    · exact hwb'.2 h4
    · exact hwb'.1 h4
    · rw [dollar_head, eb] at hb
      have hb' : dollarL m = false := hb
      rw [← h4, hd] at hb'
      cases hb'
  · by_cases h0 : lvls b = [[35]]
    · rw [h0, opened_hash] at k4
      rw [ex]
      cases hc : lvls c with
      | nil => exact absurd hc (lvls_ne c)
      | cons m ms =>
        rw [hc, win_cons] at k4
        rw [win_cons]
        simp only [Bool.or_eq_true, Bool.and_eq_true, Bool.not_eq_true', decide_eq_true_eq, decide_eq_false_iff_not] at k4 ⊢
        rcases k4 with k4 | ⟨⟨_, k5⟩, k6⟩
        · exact .inl k4
        · have hm : m = [43] := k5.elim id (fun e => e.symm)
          refine .inr ⟨⟨hx, .inl hm⟩, ?_⟩
          cases ms with
          | nil => rw [win_cons_nil] at k6; cases k6
          | cons y ys =>
            rw [win_cons] at k6
            have hy : y = [35] := by simpa using k6
            subst hy
            cases xs with
            | nil => rw [win_nil_cons]; simp
            | cons z zs => rw [win_cons]; simp
    · by_cases h0' : lvls b = [[], [35]]
      · rw [h0', opened_slash] at k4
        rw [h0', ex, win_cons] at h4
        rw [ex]
        simp only [Bool.or_eq_true, Bool.and_eq_true, Bool.not_eq_true', decide_eq_true_eq, decide_eq_false_iff_not] at h4
        have hx0 : x = [] := by
          rcases h4 with h | ⟨⟨_, h | h⟩, _⟩
          · exact absurd h (by decide)
          · exact absurd h (by decide)
          · exact h
        obtain ⟨l2, ls2, rfl, hl2⟩ := hxs hx0
        subst hx0
        cases hc : lvls c with
        | nil => exact absurd hc (lvls_ne c)
        | cons m ms =>
          rw [hc, win_cons] at k4
          rw [win_cons]
          simp only [Bool.or_eq_true, Bool.and_eq_true, Bool.not_eq_true', decide_eq_true_eq, decide_eq_false_iff_not] at k4 ⊢
          rcases k4 with k4 | ⟨⟨_, k5⟩, k6⟩
          · exact .inl k4
          · refine .inr ⟨⟨hx, k5⟩, ?_⟩
            cases ms with
            | nil => rw [win_cons_nil] at k6; cases k6
            | cons y ys =>
              rw [win_cons] at k6 ⊢
              simp only [Bool.or_eq_true, Bool.and_eq_true, Bool.not_eq_true', decide_eq_true_eq, decide_eq_false_iff_not] at k6 ⊢
              rcases k6 with k6 | ⟨⟨_, k7⟩, k8⟩
              · exact .inl k6
              · have hy : y = [43] := k7.elim id (fun e => e.symm)
                refine .inr ⟨⟨hl2, .inl hy⟩, ?_⟩
                cases ys with
                | nil => rw [win_cons_nil] at k8; cases k8
                | cons z zs =>
                  rw [win_cons] at k8
                  have hz : z = [35] := by simpa using k8
                  subst hz
                  cases ls2 with
                  | nil => rw [win_nil_cons]; simp
                  | cons a1 a2 => rw [win_cons]; simp
      · rw [opened_other h0 h0'] at k4
        exact win_trans _ _ _ h4 k4

/-- A name that is taken for a filter is within another one exactly if that one matches it. -/
theorem within_name {a : List UInt8} (b : List UInt8) (h : nameL a = true) : withinL a b = matchL b a := by
  have hw : ∀ l ∈ lvls a, wildL l = false := fun l hl => wild_plain (name_levels h l hl)
  have h0 : (35 : UInt8) ∉ a := ((name_iff a).1 h).2.2.2
  have h1 : ∀ x, [35] ∈ x → lvls a ≠ x := fun x hx e => by
    have := hw [35] (by rw [e]; exact hx)
    exact absurd this (by decide)
  unfold withinL matchL
  rw [opened_other (h1 _ (by simp)) (h1 _ (by simp)), win_name _ _ hw, name_filter h, h]
  simp
end Go.Proofs.YthgilnmfbhmgiaaDoor
