/-
  Plain facts on topics: the levels of a list of bytes and how they join; what a filter is and what it matches; which filter is within which. No condition.
  Plain facts on topics: a string is valid as its levels are; what names, filters and shared filters keep when levels are replaced. No condition.
-/
import Derived.Test.YtaahhbjnflimnaaGreatK05
namespace Go.Proofs.YtaahhbjnflimnaaGreat

/-- The levels of a topic: the parts between its slashes. -/
def lvls : List UInt8 → List (List UInt8)
  | [] => [[]]
  | c :: s => if c = 47 then [] :: lvls s else match lvls s with
    | [] => [[c]]
    | l :: ls => (c :: l) :: ls
def joins : List (List UInt8) → List UInt8
  | [] => []
  | [l] => l
  | l :: m :: ls => l ++ 47 :: joins (m :: ls)

theorem lvls_ne (s : List UInt8) : lvls s ≠ [] := by
  cases s with
  | nil => simp [lvls]
  | cons c s =>
    unfold lvls
    split
    · simp
    · split <;> simp
theorem lvls_slash (s : List UInt8) : lvls (47 :: s) = [] :: lvls s := by simp [lvls]
theorem lvls_other {c : UInt8} (h : c ≠ 47) (s : List UInt8) : ∃ l ls, lvls s = l :: ls ∧ lvls (c :: s) = (c :: l) :: ls := by
  obtain ⟨l, ls, e⟩ := List.exists_cons_of_ne_nil (lvls_ne s)
  exact ⟨l, ls, e, by rw [lvls, if_neg h, e]⟩
theorem joins_cons (l : List UInt8) {ls : List (List UInt8)} (h : ls ≠ []) : joins (l :: ls) = l ++ 47 :: joins ls := by
  cases ls with
  | nil => exact absurd rfl h
  | cons m ls => rfl
theorem joins_lvls (s : List UInt8) : joins (lvls s) = s := by
  induction s with
  | nil => rfl
  | cons c s ih =>
    by_cases h : c = 47
    · subst h
      rw [lvls_slash, joins_cons _ (lvls_ne s), ih]; rfl
    · obtain ⟨l, ls, e1, e2⟩ := lvls_other h s
      rw [e2]
      rw [e1] at ih
      cases ls with
      | nil => rw [← ih]; rfl
      | cons m ls => rw [joins_cons _ (by simp)] at ih ⊢; rw [← ih]; rfl
/-- No level has a slash. -/
def flat (ls : List (List UInt8)) : Prop := ∀ l ∈ ls, (47 : UInt8) ∉ l
theorem lvls_flat (s : List UInt8) : flat (lvls s) := by
  induction s with
  | nil => intro l hl; simp [lvls] at hl; subst hl; simp
  | cons c s ih =>
    by_cases h : c = 47
    · subst h
      rw [lvls_slash]
      intro l hl
      rcases List.mem_cons.1 hl with rfl | hl
      · simp
      · exact ih l hl
    · obtain ⟨l, ls, e1, e2⟩ := lvls_other h s
      rw [e2]
      rw [e1] at ih
      intro m hm
      rcases List.mem_cons.1 hm with rfl | hm
      · have := ih l (List.mem_cons_self ..)
        simp [this, Ne.symm h]
      · exact ih m (List.mem_cons_of_mem _ hm)
theorem lvls_one {l : List UInt8} (h : (47 : UInt8) ∉ l) : lvls l = [l] := by
  induction l with
  | nil => rfl
  | cons c l ih =>
    simp at h
    rw [lvls, if_neg (fun e => h.1 e.symm), ih h.2]
theorem lvls_append {l : List UInt8} (h : (47 : UInt8) ∉ l) (s : List UInt8) : lvls (l ++ 47 :: s) = l :: lvls s := by
  induction l with
  | nil => exact lvls_slash s
  | cons c l ih =>
    simp at h
    rw [List.cons_append, lvls, if_neg (fun e => h.1 e.symm), ih h.2]
theorem lvls_joins {ls : List (List UInt8)} (h : ls ≠ []) (hf : flat ls) : lvls (joins ls) = ls := by
  induction ls with
  | nil => exact absurd rfl h
  | cons l ls ih =>
    have hl := hf l (List.mem_cons_self ..)
    cases ls with
    | nil => exact lvls_one hl
    | cons m ls =>
      rw [joins_cons _ (by simp), lvls_append hl, ih (by simp) fun x hx => hf x (List.mem_cons_of_mem _ hx)]
theorem lvls_length (s : List UInt8) : (lvls s).length = s.count 47 + 1 := by
  induction s with
  | nil => rfl
  | cons c s ih =>
    by_cases h : c = 47
    · subst h
      rw [lvls_slash, List.length_cons, ih, List.count_cons_self]
    · obtain ⟨l, ls, e1, e2⟩ := lvls_other h s
      rw [e2, List.count_cons_of_ne h, ← ih, e1]; rfl

/-! ### Names and filters, by their levels -/
/-- In a filter a + is alone in its level, and a # alone in the last one. -/
def okl : List (List UInt8) → Prop
  | [] => True
  | l :: ls => ((43 : UInt8) ∈ l → l = [43]) ∧ ((35 : UInt8) ∈ l → l = [35] ∧ ls = []) ∧ okl ls
instance okl_dec : (ls : List (List UInt8)) → Decidable (okl ls)
  | [] => isTrue trivial
  | l :: ls => by
    have := okl_dec ls
    unfold okl
    infer_instance
def nameL (s : List UInt8) : Bool := decide (s ≠ []) && validOf s && decide ((43 : UInt8) ∉ s) && decide ((35 : UInt8) ∉ s)
def filterL (s : List UInt8) : Bool := decide (s ≠ []) && validOf s && decide (okl (lvls s))
def dollarL (s : List UInt8) : Bool := decide (s.head? = some 36)
def wildL (l : List UInt8) : Bool := decide (l = [43]) || decide (l = [35])
/-- A filter's levels match a name's. -/
def mat : List (List UInt8) → List (List UInt8) → Bool
  | [], [] => true
  | [], _ :: _ => false
  | l :: _, [] => decide (l = [35])
  | l :: ls, m :: ms => decide (l = [35]) || ((decide (l = [43]) || decide (l = m)) && mat ls ms)
def matchL (f n : List UInt8) : Bool := filterL f && nameL n && !(dollarL n && wildL ((lvls f).headD [])) && mat (lvls f) (lvls n)
/-- All that a filter's levels match another one's match. -/
def win : List (List UInt8) → List (List UInt8) → Bool
  | [], [] => true
  | _ :: _, [] => false
  | [], m :: _ => decide (m = [35])
  | l :: ls, m :: ms => decide (m = [35]) || (!decide (l = [35]) && (decide (m = [43]) || decide (l = m)) && win ls ms)
/-- Where no name is the parent of a # (of the filters # and /#), one more level is needed. -/
def opened (x : List (List UInt8)) : List (List UInt8) := if x = [[35]] then [[43], [35]] else if x = [[], [35]] then [[], [43], [35]] else x
def withinL (a b : List UInt8) : Bool := filterL a && filterL b && !(dollarL a && wildL ((lvls b).headD [])) && win (opened (lvls a)) (lvls b)

theorem mat_nil_nil : mat [] [] = true := by rw [mat]
theorem mat_nil_cons (m : List UInt8) (ms : List (List UInt8)) : mat [] (m :: ms) = false := by rw [mat]
theorem mat_cons_nil (l : List UInt8) (ls : List (List UInt8)) : mat (l :: ls) [] = decide (l = [35]) := by rw [mat]
theorem mat_cons (l m : List UInt8) (ls ms : List (List UInt8)) : mat (l :: ls) (m :: ms) = (decide (l = [35]) || ((decide (l = [43]) || decide (l = m)) && mat ls ms)) := by rw [mat]
theorem win_nil_nil : win [] [] = true := by rw [win]
theorem win_cons_nil (l : List UInt8) (ls : List (List UInt8)) : win (l :: ls) [] = false := by rw [win]
theorem win_nil_cons (m : List UInt8) (ms : List (List UInt8)) : win [] (m :: ms) = decide (m = [35]) := by rw [win]
theorem win_cons (l m : List UInt8) (ls ms : List (List UInt8)) : win (l :: ls) (m :: ms) = (decide (m = [35]) || (!decide (l = [35]) && (decide (m = [43]) || decide (l = m)) && win ls ms)) := by rw [win]

/-- What is within another one matches no more. -/
theorem win_mat : ∀ (x y n : List (List UInt8)), win x y = true → mat x n = true → mat y n = true
  | [], [], n, _, h => h
  | l :: ls, [], n, h, _ => by rw [win_cons_nil] at h; cases h
  | [], m :: ms, n, h, h2 => by
    rw [win_nil_cons] at h
    cases n with
    | nil => rw [mat_cons_nil]; exact h
    | cons a n => rw [mat_nil_cons] at h2; cases h2
  | l :: ls, m :: ms, n, h, h2 => by
    rw [win_cons] at h
    cases n with
    | nil =>
      rw [mat_cons_nil] at h2 ⊢
      simp only [Bool.or_eq_true, Bool.and_eq_true, Bool.not_eq_true', decide_eq_true_eq, decide_eq_false_iff_not] at *
      rcases h with h | h
      · exact h
      · exact absurd h2 h.1.1
    | cons a n =>
      rw [mat_cons] at h2 ⊢
      simp only [Bool.or_eq_true, Bool.and_eq_true, Bool.not_eq_true', decide_eq_true_eq, decide_eq_false_iff_not] at *
      rcases h with h | ⟨⟨h1, h3⟩, h4⟩
      · exact .inl h
      · rcases h2 with h2 | ⟨h5, h6⟩
        · exact absurd h2 h1
        · have := win_mat ls ms n h4 h6
          rcases h3 with h3 | h3
          · exact .inr ⟨.inl h3, this⟩
          · subst h3
            exact .inr ⟨h5, this⟩
/-- Within is transitive. -/
theorem win_trans : ∀ (x y z : List (List UInt8)), win x y = true → win y z = true → win x z = true
  | [], [], z, _, h => h
  | l :: ls, [], z, h, _ => by rw [win_cons_nil] at h; cases h
  | [], m :: ms, z, h, h2 => by
    rw [win_nil_cons, decide_eq_true_eq] at h
    cases z with
    | nil => rw [win_cons_nil] at h2; cases h2
    | cons c z =>
      rw [win_cons] at h2
      rw [win_nil_cons]
      simp [h] at h2
      simp [h2]
  | l :: ls, m :: ms, z, h, h2 => by
    cases z with
    | nil => rw [win_cons_nil] at h2; cases h2
    | cons c z =>
      rw [win_cons] at h h2 ⊢
      simp only [Bool.or_eq_true, Bool.and_eq_true, Bool.not_eq_true', decide_eq_true_eq, decide_eq_false_iff_not] at *
      rcases h2 with h2 | ⟨⟨k1, k2⟩, k3⟩
      · exact .inl h2
      · rcases h with h | ⟨⟨h1, h3⟩, h4⟩
        · exact absurd h k1
        · refine .inr ⟨⟨h1, ?_⟩, win_trans ls ms z h4 k3⟩
          rcases k2 with k2 | k2
          · exact .inl k2
          · subst k2; exact h3
/-- A filter's levels are within themselves, if # is last. -/
theorem win_refl : ∀ (x : List (List UInt8)), okl x → win x x = true
  | [], _ => win_nil_nil
  | l :: ls, h => by
    rw [win_cons]
    have := win_refl ls h.2.2
    by_cases e : l = [35] <;> simp [e, this]
/-- Of a name that is taken for a filter, within is matching. -/
theorem win_name : ∀ (x y : List (List UInt8)), (∀ l ∈ x, wildL l = false) → win x y = mat y x
  | [], [], _ => by rw [win_nil_nil, mat_nil_nil]
  | l :: ls, [], _ => by rw [win_cons_nil, mat_nil_cons]
  | [], m :: ms, _ => by rw [win_nil_cons, mat_cons_nil]
  | l :: ls, m :: ms, h => by
    have hl := h l (List.mem_cons_self ..)
    rw [win_cons, mat_cons, win_name ls ms fun x hx => h x (List.mem_cons_of_mem _ hx)]
    have h35 : decide (l = [35]) = false := by
      unfold wildL at hl
      simp only [Bool.or_eq_false_iff] at hl
      exact hl.2
    rw [h35]
    by_cases e : l = m
    · simp [e]
    · simp [e, Ne.symm e]
/-- A name matches itself. -/
theorem mat_self : ∀ (x : List (List UInt8)), mat x x = true
  | [] => mat_nil_nil
  | l :: ls => by rw [mat_cons, mat_self ls]; simp
end Go.Proofs.YtaahhbjnflimnaaGreat
namespace Go.Proofs.YtaahhbjnflimnaaGreat

/-- All code points of the bytes are as they should be, whatever the length. -/
def fine (l : List UInt8) : Prop := fin l = l.length
theorem fine_of_cbs {l : List UInt8} (h : fine l) : l = cbs (pts l) := by
  have h1 := take_fin l
  rw [h, List.take_length] at h1
  exact h1
theorem fine_cbs {cs : List Nat} (h : oks cs) : fine (cbs cs) := by unfold fine fin; rw [pts_cbs h]
theorem fine_join {a b : List UInt8} (ha : fine a) (hb : fine b) : fine (a ++ b) := by
  rw [fine_of_cbs ha, fine_of_cbs hb, ← cbs_append]
  exact fine_cbs fun c hc => by
    rcases List.mem_append.1 hc with h | h
    · exact pts_oks _ _ h
    · exact pts_oks _ _ h
theorem valid_fine (l : List UInt8) : validOf l = true ↔ l.length ≤ 65535 ∧ fine l := validOf_iff l
theorem validOf_eq (l : List UInt8) (h : l.length ≤ 65535) : (validOf l = true) = fine l := by
  apply propext; rw [valid_fine]; exact ⟨fun x => x.2, fun x => ⟨h, x⟩⟩

/-- No byte of a code point is a slash, but the one that is it. -/
theorem slash_cb {c : Nat} (hc : okc c) (h : (47 : UInt8) ∈ cb c) : c = 47 := by
  have hc2 : c ≤ 1114111 := by have := hc.2; omega
  unfold cb at h
  split at h
  · simp at h
    have := congrArg UInt8.toNat h
    rw [UInt8.toNat_ofNat'] at this
    have e : (47 : UInt8).toNat = 47 := rfl
    rw [e] at this
    omega
  · exfalso
    have key : ∀ n : Nat, 128 ≤ n → n < 256 → (47 : UInt8) ≠ UInt8.ofNat n := fun n h1 h2 e => by
      have := congrArg UInt8.toNat e
      rw [UInt8.toNat_ofNat'] at this
      have e2 : (47 : UInt8).toNat = 47 := rfl
      omega
    split at h
    · simp only [List.mem_cons, List.not_mem_nil, or_false] at h
      rcases h with h | h
      · exact key _ (by omega) (by omega) h
      · exact key _ (by omega) (by omega) h
    · split at h
      · simp only [List.mem_cons, List.not_mem_nil, or_false] at h
        rcases h with h | h | h
        · exact key _ (by omega) (by omega) h
        · exact key _ (by omega) (by omega) h
        · exact key _ (by omega) (by omega) h
      · simp only [List.mem_cons, List.not_mem_nil, or_false] at h
        rcases h with h | h | h | h
        · exact key _ (by omega) (by omega) h
        · exact key _ (by omega) (by omega) h
        · exact key _ (by omega) (by omega) h
        · exact key _ (by omega) (by omega) h
theorem cut_cbs : ∀ (cs : List Nat) (a b : List UInt8), oks cs → cbs cs = a ++ 47 :: b → ∃ c1 c2, a = cbs c1 ∧ b = cbs c2 ∧ oks c1 ∧ oks c2
  | [], a, b, _, h => by
    have := congrArg List.length h
    simp [cbs] at this
  | c :: cs, a, b, ho, h => by
    have hoc := ho c (List.mem_cons_self ..)
    have hos : oks cs := fun d hd => ho d (List.mem_cons_of_mem _ hd)
    rw [cbs_cons] at h
    rcases List.append_eq_append_iff.1 h with ⟨a', e1, e2⟩ | ⟨c', e1, e2⟩
    · obtain ⟨c1, c2, k1, k2, k3, k4⟩ := cut_cbs cs a' b hos e2
      refine ⟨c :: c1, c2, by rw [cbs_cons, e1, k1], k2, fun d hd => ?_, k4⟩
      rcases List.mem_cons.1 hd with rfl | hd
      · exact hoc
      · exact k3 d hd
    · cases c' with
      | nil =>
        rw [List.append_nil] at e1
        rw [List.nil_append] at e2
        obtain ⟨c1, c2, k1, k2, k3, k4⟩ := cut_cbs cs [] b hos (by rw [← e2]; rfl)
        refine ⟨c :: c1, c2, by rw [cbs_cons, ← k1, List.append_nil, ← e1], k2, fun d hd => ?_, k4⟩
        rcases List.mem_cons.1 hd with rfl | hd
        · exact hoc
        · exact k3 d hd
      | cons x c' =>
        rw [List.cons_append, List.cons.injEq] at e2
        obtain ⟨rfl, e2⟩ := e2
        have hc : c = 47 := slash_cb hoc (by rw [e1]; simp)
        subst hc
        have h47 : cb 47 = [47] := by decide
        rw [h47] at e1
        have hl := congrArg List.length e1
        simp at hl
        have ha : a = [] := List.eq_nil_of_length_eq_zero (by omega)
        have hc' : c' = [] := List.eq_nil_of_length_eq_zero (by omega)
        subst ha hc'
        exact ⟨[], cs, rfl, e2, fun d hd => by simp at hd, hos⟩
/-- At a slash a string is cut between code points. -/
theorem fine_cut (a b : List UInt8) : fine (a ++ 47 :: b) ↔ fine a ∧ fine b := by
  constructor
  · intro h
    obtain ⟨c1, c2, rfl, rfl, k3, k4⟩ := cut_cbs _ a b (pts_oks _) (fine_of_cbs h).symm
    exact ⟨fine_cbs k3, fine_cbs k4⟩
  · rintro ⟨h1, h2⟩
    have h47 : fine [47] := fine_cbs (cs := [47]) (fun d hd => by simp at hd; subst hd; exact ⟨by decide, by decide⟩)
    exact fine_join h1 (fine_join h47 h2)
theorem fine_nil : fine [] := by unfold fine fin; rw [pts_nil]; rfl
theorem fine_joins : ∀ (ls : List (List UInt8)), fine (joins ls) ↔ ∀ l ∈ ls, fine l
  | [] => by simp [joins, fine_nil]
  | [l] => by simp [joins]
  | l :: m :: ls => by
    rw [joins_cons l (by simp), fine_cut, fine_joins (m :: ls)]
    simp
theorem fine_lvls (s : List UInt8) : fine s ↔ ∀ l ∈ lvls s, fine l := by
  rw [← fine_joins, joins_lvls]

/-! ### What is in the levels is in the string -/
theorem mem_joins (c : UInt8) (hc : c ≠ 47) : ∀ (ls : List (List UInt8)), c ∈ joins ls ↔ ∃ l ∈ ls, c ∈ l
  | [] => by simp [joins]
  | [l] => by simp [joins]
  | l :: m :: ls => by
    rw [joins_cons l (by simp), List.mem_append, List.mem_cons, mem_joins c hc (m :: ls)]
    simp only [List.mem_cons, hc, false_or]
    constructor
    · rintro (h | ⟨x, hx, h⟩)
      · exact ⟨l, .inl rfl, h⟩
      · exact ⟨x, .inr hx, h⟩
    · rintro ⟨x, rfl | hx, h⟩
      · exact .inl h
      · exact .inr ⟨x, hx, h⟩
theorem mem_lvls (c : UInt8) (hc : c ≠ 47) (s : List UInt8) : c ∈ s ↔ ∃ l ∈ lvls s, c ∈ l := by
  rw [← mem_joins c hc, joins_lvls]
theorem okl_plain : ∀ (ls : List (List UInt8)), (∀ l ∈ ls, (43 : UInt8) ∉ l ∧ (35 : UInt8) ∉ l) → okl ls
  | [], _ => trivial
  | l :: ls, h => by
    have hl := h l (List.mem_cons_self ..)
    exact ⟨fun x => absurd x hl.1, fun x => absurd x hl.2, okl_plain ls fun x hx => h x (List.mem_cons_of_mem _ hx)⟩
theorem name_iff (s : List UInt8) : nameL s = true ↔ s ≠ [] ∧ validOf s = true ∧ (43 : UInt8) ∉ s ∧ (35 : UInt8) ∉ s := by
  unfold nameL; simp [and_assoc]
theorem filter_iff (s : List UInt8) : filterL s = true ↔ s ≠ [] ∧ validOf s = true ∧ okl (lvls s) := by
  unfold filterL; simp [and_assoc]
theorem name_levels {s : List UInt8} (h : nameL s = true) : ∀ l ∈ lvls s, (43 : UInt8) ∉ l ∧ (35 : UInt8) ∉ l := by
  intro l hl
  have hn := (name_iff s).1 h
  exact ⟨fun x => hn.2.2.1 ((mem_lvls 43 (by decide) s).2 ⟨l, hl, x⟩), fun x => hn.2.2.2 ((mem_lvls 35 (by decide) s).2 ⟨l, hl, x⟩)⟩
theorem name_filter {s : List UInt8} (h : nameL s = true) : filterL s = true := by
  have hn := (name_iff s).1 h
  exact (filter_iff s).2 ⟨hn.1, hn.2.1, okl_plain _ (name_levels h)⟩
theorem wild_plain {l : List UInt8} (h : (43 : UInt8) ∉ l ∧ (35 : UInt8) ∉ l) : wildL l = false := by
  unfold wildL
  simp only [Bool.or_eq_false_iff, decide_eq_false_iff_not]
  exact ⟨fun e => h.1 (by rw [e]; simp), fun e => h.2 (by rw [e]; simp)⟩
theorem headD_mem (s : List UInt8) : (lvls s).headD [] ∈ lvls s := by
  obtain ⟨l, ls, e⟩ := List.exists_cons_of_ne_nil (lvls_ne s)
  rw [e]; simp
theorem name_head {s : List UInt8} (h : nameL s = true) : wildL ((lvls s).headD []) = false := wild_plain (name_levels h _ (headD_mem s))
/-- A name matches itself. -/
theorem match_self {s : List UInt8} (h : nameL s = true) : matchL s s = true := by
  unfold matchL
  rw [name_filter h, h, name_head h, mat_self]
  simp
theorem filter_hash : filterL [35] = true := (filter_iff _).2 ⟨by decide, (validOf_iff _).2 ⟨by decide, fine_cbs (cs := [35]) (fun d hd => by simp at hd; subst hd; exact ⟨by decide, by decide⟩)⟩, by decide⟩
theorem lvls_hash : lvls [35] = [[35]] := by decide
theorem mat_hash (n : List (List UInt8)) : mat [[35]] n = true := by
  cases n with
  | nil => rw [mat_cons_nil]; simp
  | cons a n => rw [mat_cons]; simp
/-- # matches every name that does not begin with $. -/
theorem match_hash (s : List UInt8) : matchL [35] s = (nameL s && !dollarL s) := by
  unfold matchL
  rw [filter_hash, lvls_hash, mat_hash]
  cases nameL s <;> cases dollarL s <;> rfl
end Go.Proofs.YtaahhbjnflimnaaGreat
