/-
  Plain facts on topics: the levels of a list of bytes and how they join; what a filter is and what it matches; which filter is within which. No condition.
-/
import Derived.Test.YtaahhbjnflimnaaK04
namespace Go.Proofs.Ytaahhbjnflimnaa

/-- The levels of a topic: the parts between its slashes. -/
def lvls : List UInt8 → List (List UInt8)
  | [] => [[]]
  | c :: s => if c = 47 then [] :: lvls s else match lvls s with
    | [] => [[c]]
    | l :: ls => (c :: l) :: ls
def joins : List (List UInt8) → List UInt8
  | [] => []
  | [l] => l
  | l :: m :: ls => l ++ 47 :: joins (m :: ls)

theorem lvls_ne (s : List UInt8) : lvls s ≠ [] := by
  cases s with
  | nil => simp [lvls]
  | cons c s =>
    unfold lvls
    split
    · simp
    · split <;> simp
theorem lvls_slash (s : List UInt8) : lvls (47 :: s) = [] :: lvls s := by simp [lvls]
theorem lvls_other {c : UInt8} (h : c ≠ 47) (s : List UInt8) : ∃ l ls, lvls s = l :: ls ∧ lvls (c :: s) = (c :: l) :: ls := by
  obtain ⟨l, ls, e⟩ := List.exists_cons_of_ne_nil (lvls_ne s)
  exact ⟨l, ls, e, by rw [lvls, if_neg h, e]⟩
theorem joins_cons (l : List UInt8) {ls : List (List UInt8)} (h : ls ≠ []) : joins (l :: ls) = l ++ 47 :: joins ls := by
  cases ls with
  | nil => exact absurd rfl h
  | cons m ls => rfl
theorem joins_lvls (s : List UInt8) : joins (lvls s) = s := by
  induction s with
  | nil => rfl
  | cons c s ih =>
    by_cases h : c = 47
    · subst h
      rw [lvls_slash, joins_cons _ (lvls_ne s), ih]; rfl
    · obtain ⟨l, ls, e1, e2⟩ := lvls_other h s
      rw [e2]
      rw [e1] at ih
      cases ls with
      | nil => rw [← ih]; rfl
      | cons m ls => rw [joins_cons _ (by simp)] at ih ⊢; rw [← ih]; rfl
/-- No level has a slash. -/
def flat (ls : List (List UInt8)) : Prop := ∀ l ∈ ls, (47 : UInt8) ∉ l
theorem lvls_flat (s : List UInt8) : flat (lvls s) := by
  induction s with
  | nil => intro l hl; simp [lvls] at hl; subst hl; simp
  | cons c s ih =>
    by_cases h : c = 47
    · subst h
      rw [lvls_slash]
      intro l hl
      rcases List.mem_cons.1 hl with rfl | hl
      · simp
      · exact ih l hl
    · obtain ⟨l, ls, e1, e2⟩ := lvls_other h s
      rw [e2]
      rw [e1] at ih
      intro m hm
      rcases List.mem_cons.1 hm with rfl | hm
      · have := ih l (List.mem_cons_self ..)
        simp [this, Ne.symm h]
      · exact ih m (List.mem_cons_of_mem _ hm)
theorem lvls_one {l : List UInt8} (h : (47 : UInt8) ∉ l) : lvls l = [l] := by
  induction l with
  | nil => rfl
  | cons c l ih =>
    simp at h
    rw [lvls, if_neg (fun e => h.1 e.symm), ih h.2]
theorem lvls_append {l : List UInt8} (h : (47 : UInt8) ∉ l) (s : List UInt8) : lvls (l ++ 47 :: s) = l :: lvls s := by
  induction l with
  | nil => exact lvls_slash s
  | cons c l ih =>
    simp at h
    rw [List.cons_append, lvls, if_neg (fun e => h.1 e.symm), ih h.2]
theorem lvls_joins {ls : List (List UInt8)} (h : ls ≠ []) (hf : flat ls) : lvls (joins ls) = ls := by
  induction ls with
  | nil => exact absurd rfl h
  | cons l ls ih =>
    have hl := hf l (List.mem_cons_self ..)
    cases ls with
    | nil => exact lvls_one hl
    | cons m ls =>
      rw [joins_cons _ (by simp), lvls_append hl, ih (by simp) fun x hx => hf x (List.mem_cons_of_mem _ hx)]
theorem lvls_length (s : List UInt8) : (lvls s).length = s.count 47 + 1 := by
  induction s with
  | nil => rfl
  | cons c s ih =>
    by_cases h : c = 47
    · subst h
      rw [lvls_slash, List.length_cons, ih, List.count_cons_self]
    · obtain ⟨l, ls, e1, e2⟩ := lvls_other h s
      rw [e2, List.count_cons_of_ne h, ← ih, e1]; rfl

/-! ### Names and filters, by their levels -/
/-- In a filter a + is alone in its level, and a # alone in the last one. -/
def okl : List (List UInt8) → Prop
  | [] => True
  | l :: ls => ((43 : UInt8) ∈ l → l = [43]) ∧ ((35 : UInt8) ∈ l → l = [35] ∧ ls = []) ∧ okl ls
instance okl_dec : (ls : List (List UInt8)) → Decidable (okl ls)
  | [] => isTrue trivial
  | l :: ls => by
    have := okl_dec ls
    unfold okl
    infer_instance
def nameL (s : List UInt8) : Bool := decide (s ≠ []) && validOf s && decide ((43 : UInt8) ∉ s) && decide ((35 : UInt8) ∉ s)
def filterL (s : List UInt8) : Bool := decide (s ≠ []) && validOf s && decide (okl (lvls s))
def dollarL (s : List UInt8) : Bool := decide (s.head? = some 36)
def wildL (l : List UInt8) : Bool := decide (l = [43]) || decide (l = [35])
/-- A filter's levels match a name's. -/
def mat : List (List UInt8) → List (List UInt8) → Bool
  | [], [] => true
  | [], _ :: _ => false
  | l :: _, [] => decide (l = [35])
  | l :: ls, m :: ms => decide (l = [35]) || ((decide (l = [43]) || decide (l = m)) && mat ls ms)
def matchL (f n : List UInt8) : Bool := filterL f && nameL n && !(dollarL n && wildL ((lvls f).headD [])) && mat (lvls f) (lvls n)
/-- All that a filter's levels match another one's match. -/
def win : List (List UInt8) → List (List UInt8) → Bool
  | [], [] => true
  | _ :: _, [] => false
  | [], m :: _ => decide (m = [35])
  | l :: ls, m :: ms => decide (m = [35]) || (!decide (l = [35]) && (decide (m = [43]) || decide (l = m)) && win ls ms)
/-- Where no name is the parent of a # (of the filters # and /#), one more level is needed. -/
def opened (x : List (List UInt8)) : List (List UInt8) := if x = [[35]] then [[43], [35]] else if x = [[], [35]] then [[], [43], [35]] else x
def withinL (a b : List UInt8) : Bool := filterL a && filterL b && !(dollarL a && wildL ((lvls b).headD [])) && win (opened (lvls a)) (lvls b)

theorem mat_nil_nil : mat [] [] = true := by rw [mat]
theorem mat_nil_cons (m : List UInt8) (ms : List (List UInt8)) : mat [] (m :: ms) = false := by rw [mat]
theorem mat_cons_nil (l : List UInt8) (ls : List (List UInt8)) : mat (l :: ls) [] = decide (l = [35]) := by rw [mat]
theorem mat_cons (l m : List UInt8) (ls ms : List (List UInt8)) : mat (l :: ls) (m :: ms) = (decide (l = [35]) || ((decide (l = [43]) || decide (l = m)) && mat ls ms)) := by rw [mat]
theorem win_nil_nil : win [] [] = true := by rw [win]
theorem win_cons_nil (l : List UInt8) (ls : List (List UInt8)) : win (l :: ls) [] = false := by rw [win]
theorem win_nil_cons (m : List UInt8) (ms : List (List UInt8)) : win [] (m :: ms) = decide (m = [35]) := by rw [win]
theorem win_cons (l m : List UInt8) (ls ms : List (List UInt8)) : win (l :: ls) (m :: ms) = (decide (m = [35]) || (!decide (l = [35]) && (decide (m = [43]) || decide (l = m)) && win ls ms)) := by rw [win]

/-- What is within another one matches no more. -/
theorem win_mat : ∀ (x y n : List (List UInt8)), win x y = true → mat x n = true → mat y n = true
  | [], [], n, _, h => h
  | l :: ls, [], n, h, _ => by rw [win_cons_nil] at h; cases h
  | [], m :: ms, n, h, h2 => by
    rw [win_nil_cons] at h
    cases n with
    | nil => rw [mat_cons_nil]; exact h
    | cons a n => rw [mat_nil_cons] at h2; cases h2
  | l :: ls, m :: ms, n, h, h2 => by
    rw [win_cons] at h
    cases n with
    | nil =>
      rw [mat_cons_nil] at h2 ⊢
      simp only [Bool.or_eq_true, Bool.and_eq_true, Bool.not_eq_true', decide_eq_true_eq, decide_eq_false_iff_not] at *
      rcases h with h | h
      · exact h
      · exact absurd h2 h.1.1
    | cons a n =>
      rw [mat_cons] at h2 ⊢
      simp only [Bool.or_eq_true, Bool.and_eq_true, Bool.not_eq_true', decide_eq_true_eq, decide_eq_false_iff_not] at *
      rcases h with h | ⟨⟨h1, h3⟩, h4⟩
      · exact .inl h
      · rcases h2 with h2 | ⟨h5, h6⟩
        · exact absurd h2 h1
        · have := win_mat ls ms n h4 h6
          rcases h3 with h3 | h3
          · exact .inr ⟨.inl h3, this⟩
          · subst h3
            exact .inr ⟨h5, this⟩
/-- Within is transitive. -/
theorem win_trans : ∀ (x y z : List (List UInt8)), win x y = true → win y z = true → win x z = true
  | [], [], z, _, h => h
  | l :: ls, [], z, h, _ => by rw [win_cons_nil] at h; cases h
  | [], m :: ms, z, h, h2 => by
    rw [win_nil_cons, decide_eq_true_eq] at h
    cases z with
    | nil => rw [win_cons_nil] at h2; cases h2
    | cons c z =>
      rw [win_cons] at h2
      rw [win_nil_cons]
      simp [h] at h2
      simp [h2]
  | l :: ls, m :: ms, z, h, h2 => by
    cases z with
    | nil => rw [win_cons_nil] at h2; cases h2
    | cons c z =>
      rw [win_cons] at h h2 ⊢
      simp only [Bool.or_eq_true, Bool.and_eq_true, Bool.not_eq_true', decide_eq_true_eq, decide_eq_false_iff_not] at *
      rcases h2 with h2 | ⟨⟨k1, k2⟩, k3⟩
      · exact .inl h2
      · rcases h with h | ⟨⟨h1, h3⟩, h4⟩
        · exact absurd h k1
        · refine .inr ⟨⟨h1, ?_⟩, win_trans ls ms z h4 k3⟩
          rcases k2 with k2 | k2
          · exact .inl k2
          · subst k2; exact h3
/-- A filter's levels are within themselves, if # is last. -/
theorem win_refl : ∀ (x : List (List UInt8)), okl x → win x x = true
  | [], _ => win_nil_nil
  | l :: ls, h => by
    rw [win_cons]
    have := win_refl ls h.2.2
    by_cases e : l = [35] <;> simp [e, this]
/-- Of a name that is taken for a filter, within is matching. -/
theorem win_name : ∀ (x y : List (List UInt8)), (∀ l ∈ x, wildL l = false) → win x y = mat y x
  | [], [], _ => by rw [win_nil_nil, mat_nil_nil]
  | l :: ls, [], _ => by rw [win_cons_nil, mat_nil_cons]
  | [], m :: ms, _ => by rw [win_nil_cons, mat_cons_nil]
  | l :: ls, m :: ms, h => by
    have hl := h l (List.mem_cons_self ..)
    rw [win_cons, mat_cons, win_name ls ms fun x hx => h x (List.mem_cons_of_mem _ hx)]
    have h35 : decide (l = [35]) = false := by
      unfold wildL at hl
      simp only [Bool.or_eq_false_iff] at hl
      exact hl.2
    rw [h35]
    by_cases e : l = m
    · simp [e]
    · simp [e, Ne.symm e]
/-- A name matches itself. -/
theorem mat_self : ∀ (x : List (List UInt8)), mat x x = true
  | [] => mat_nil_nil
  | l :: ls => by rw [mat_cons, mat_self ls]; simp
end Go.Proofs.Ytaahhbjnflimnaa
