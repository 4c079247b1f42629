/-
  Plain facts on topics: a string is valid as its levels are; what names, filters and shared filters keep when levels are replaced. No condition.
-/
import Derived.Test.YtaahhbjnflimnaaK06
namespace Go.Proofs.Ytaahhbjnflimnaa

/-- All code points of the bytes are as they should be, whatever the length. -/
def fine (l : List UInt8) : Prop := fin l = l.length
theorem fine_of_cbs {l : List UInt8} (h : fine l) : l = cbs (pts l) := by
  have h1 := take_fin l
  rw [h, List.take_length] at h1
  exact h1
theorem fine_cbs {cs : List Nat} (h : oks cs) : fine (cbs cs) := by unfold fine fin; rw [pts_cbs h]
theorem fine_join {a b : List UInt8} (ha : fine a) (hb : fine b) : fine (a ++ b) := by
  rw [fine_of_cbs ha, fine_of_cbs hb, ← cbs_append]
  exact fine_cbs fun c hc => by
    rcases List.mem_append.1 hc with h | h
    · exact pts_oks _ _ h
    · exact pts_oks _ _ h
theorem valid_fine (l : List UInt8) : validOf l = true ↔ l.length ≤ 65535 ∧ fine l := validOf_iff l
theorem validOf_eq (l : List UInt8) (h : l.length ≤ 65535) : (validOf l = true) = fine l := by
  apply propext; rw [valid_fine]; exact ⟨fun x => x.2, fun x => ⟨h, x⟩⟩

/-- No byte of a code point is a slash, but the one that is it. -/
theorem slash_cb {c : Nat} (hc : okc c) (h : (47 : UInt8) ∈ cb c) : c = 47 := by
  have hc2 : c ≤ 1114111 := by have := hc.2; omega
  unfold cb at h
  split at h
  · simp at h
    have := congrArg UInt8.toNat h
    rw [UInt8.toNat_ofNat'] at this
    have e : (47 : UInt8).toNat = 47 := rfl
    rw [e] at this
    omega
  · exfalso
    have key : ∀ n : Nat, 128 ≤ n → n < 256 → (47 : UInt8) ≠ UInt8.ofNat n := fun n h1 h2 e => by
      have := congrArg UInt8.toNat e
      rw [UInt8.toNat_ofNat'] at this
      have e2 : (47 : UInt8).toNat = 47 := rfl
      omega
    split at h
    · simp only [List.mem_cons, List.not_mem_nil, or_false] at h
      rcases h with h | h
      · exact key _ (by omega) (by omega) h
      · exact key _ (by omega) (by omega) h
    · split at h
      · simp only [List.mem_cons, List.not_mem_nil, or_false] at h
        rcases h with h | h | h
        · exact key _ (by omega) (by omega) h
        · exact key _ (by omega) (by omega) h
        · exact key _ (by omega) (by omega) h
      · simp only [List.mem_cons, List.not_mem_nil, or_false] at h
        rcases h with h | h | h | h
        · exact key _ (by omega) (by omega) h
        · exact key _ (by omega) (by omega) h
        · exact key _ (by omega) (by omega) h
        · exact key _ (by omega) (by omega) h
theorem cut_cbs : ∀ (cs : List Nat) (a b : List UInt8), oks cs → cbs cs = a ++ 47 :: b → ∃ c1 c2, a = cbs c1 ∧ b = cbs c2 ∧ oks c1 ∧ oks c2
  | [], a, b, _, h => by
    have := congrArg List.length h
    simp [cbs] at this
  | c :: cs, a, b, ho, h => by
    have hoc := ho c (List.mem_cons_self ..)
    have hos : oks cs := fun d hd => ho d (List.mem_cons_of_mem _ hd)
    rw [cbs_cons] at h
    rcases List.append_eq_append_iff.1 h with ⟨a', e1, e2⟩ | ⟨c', e1, e2⟩
    · obtain ⟨c1, c2, k1, k2, k3, k4⟩ := cut_cbs cs a' b hos e2
      refine ⟨c :: c1, c2, by rw [cbs_cons, e1, k1], k2, fun d hd => ?_, k4⟩
      rcases List.mem_cons.1 hd with rfl | hd
      · exact hoc
      · exact k3 d hd
    · cases c' with
      | nil =>
        rw [List.append_nil] at e1
        rw [List.nil_append] at e2
        obtain ⟨c1, c2, k1, k2, k3, k4⟩ := cut_cbs cs [] b hos (by rw [← e2]; rfl)
        refine ⟨c :: c1, c2, by rw [cbs_cons, ← k1, List.append_nil, ← e1], k2, fun d hd => ?_, k4⟩
        rcases List.mem_cons.1 hd with rfl | hd
        · exact hoc
        · exact k3 d hd
      | cons x c' =>
        rw [List.cons_append, List.cons.injEq] at e2
        obtain ⟨rfl, e2⟩ := e2
        have hc : c = 47 := slash_cb hoc (by rw [e1]; simp)
        subst hc
        have h47 : cb 47 = [47] := by decide
        rw [h47] at e1
        have hl := congrArg List.length e1
        simp at hl
        have ha : a = [] := List.eq_nil_of_length_eq_zero (by omega)
        have hc' : c' = [] := List.eq_nil_of_length_eq_zero (by omega)
        subst ha hc'
        exact ⟨[], cs, rfl, e2, fun d hd => by simp at hd, hos⟩
/-- At a slash a string is cut between code points. -/
theorem fine_cut (a b : List UInt8) : fine (a ++ 47 :: b) ↔ fine a ∧ fine b := by
  constructor
  · intro h
    obtain ⟨c1, c2, rfl, rfl, k3, k4⟩ := cut_cbs _ a b (pts_oks _) (fine_of_cbs h).symm
    exact ⟨fine_cbs k3, fine_cbs k4⟩
  · rintro ⟨h1, h2⟩
    have h47 : fine [47] := fine_cbs (cs := [47]) (fun d hd => by simp at hd; subst hd; exact ⟨by decide, by decide⟩)
    exact fine_join h1 (fine_join h47 h2)
theorem fine_nil : fine [] := by unfold fine fin; rw [pts_nil]; rfl
theorem fine_joins : ∀ (ls : List (List UInt8)), fine (joins ls) ↔ ∀ l ∈ ls, fine l
  | [] => by simp [joins, fine_nil]
  | [l] => by simp [joins]
  | l :: m :: ls => by
    rw [joins_cons l (by simp), fine_cut, fine_joins (m :: ls)]
    simp
theorem fine_lvls (s : List UInt8) : fine s ↔ ∀ l ∈ lvls s, fine l := by
  rw [← fine_joins, joins_lvls]

/-! ### What is in the levels is in the string -/
theorem mem_joins (c : UInt8) (hc : c ≠ 47) : ∀ (ls : List (List UInt8)), c ∈ joins ls ↔ ∃ l ∈ ls, c ∈ l
  | [] => by simp [joins]
  | [l] => by simp [joins]
  | l :: m :: ls => by
    rw [joins_cons l (by simp), List.mem_append, List.mem_cons, mem_joins c hc (m :: ls)]
    simp only [List.mem_cons, hc, false_or]
    constructor
    · rintro (h | ⟨x, hx, h⟩)
      · exact ⟨l, .inl rfl, h⟩
      · exact ⟨x, .inr hx, h⟩
    · rintro ⟨x, rfl | hx, h⟩
      · exact .inl h
      · exact .inr ⟨x, hx, h⟩
theorem mem_lvls (c : UInt8) (hc : c ≠ 47) (s : List UInt8) : c ∈ s ↔ ∃ l ∈ lvls s, c ∈ l := by
  rw [← mem_joins c hc, joins_lvls]
theorem okl_plain : ∀ (ls : List (List UInt8)), (∀ l ∈ ls, (43 : UInt8) ∉ l ∧ (35 : UInt8) ∉ l) → okl ls
  | [], _ => trivial
  | l :: ls, h => by
    have hl := h l (List.mem_cons_self ..)
    exact ⟨fun x => absurd x hl.1, fun x => absurd x hl.2, okl_plain ls fun x hx => h x (List.mem_cons_of_mem _ hx)⟩
theorem name_iff (s : List UInt8) : nameL s = true ↔ s ≠ [] ∧ validOf s = true ∧ (43 : UInt8) ∉ s ∧ (35 : UInt8) ∉ s := by
  unfold nameL; simp [and_assoc]
theorem filter_iff (s : List UInt8) : filterL s = true ↔ s ≠ [] ∧ validOf s = true ∧ okl (lvls s) := by
  unfold filterL; simp [and_assoc]
theorem name_levels {s : List UInt8} (h : nameL s = true) : ∀ l ∈ lvls s, (43 : UInt8) ∉ l ∧ (35 : UInt8) ∉ l := by
  intro l hl
  have hn := (name_iff s).1 h
  exact ⟨fun x => hn.2.2.1 ((mem_lvls 43 (by decide) s).2 ⟨l, hl, x⟩), fun x => hn.2.2.2 ((mem_lvls 35 (by decide) s).2 ⟨l, hl, x⟩)⟩
theorem name_filter {s : List UInt8} (h : nameL s = true) : filterL s = true := by
  have hn := (name_iff s).1 h
  exact (filter_iff s).2 ⟨hn.1, hn.2.1, okl_plain _ (name_levels h)⟩
theorem wild_plain {l : List UInt8} (h : (43 : UInt8) ∉ l ∧ (35 : UInt8) ∉ l) : wildL l = false := by
  unfold wildL
  simp only [Bool.or_eq_false_iff, decide_eq_false_iff_not]
  exact ⟨fun e => h.1 (by rw [e]; simp), fun e => h.2 (by rw [e]; simp)⟩
theorem headD_mem (s : List UInt8) : (lvls s).headD [] ∈ lvls s := by
  obtain ⟨l, ls, e⟩ := List.exists_cons_of_ne_nil (lvls_ne s)
  rw [e]; simp
theorem name_head {s : List UInt8} (h : nameL s = true) : wildL ((lvls s).headD []) = false := wild_plain (name_levels h _ (headD_mem s))
/-- A name matches itself. -/
theorem match_self {s : List UInt8} (h : nameL s = true) : matchL s s = true := by
  unfold matchL
  rw [name_filter h, h, name_head h, mat_self]
  simp
theorem filter_hash : filterL [35] = true := (filter_iff _).2 ⟨by decide, (validOf_iff _).2 ⟨by decide, fine_cbs (cs := [35]) (fun d hd => by simp at hd; subst hd; exact ⟨by decide, by decide⟩)⟩, by decide⟩
theorem lvls_hash : lvls [35] = [[35]] := by decide
theorem mat_hash (n : List (List UInt8)) : mat [[35]] n = true := by
  cases n with
  | nil => rw [mat_cons_nil]; simp
  | cons a n => rw [mat_cons]; simp
/-- # matches every name that does not begin with $. -/
theorem match_hash (s : List UInt8) : matchL [35] s = (nameL s && !dollarL s) := by
  unfold matchL
  rw [filter_hash, lvls_hash, mat_hash]
  cases nameL s <;> cases dollarL s <;> rfl
end Go.Proofs.Ytaahhbjnflimnaa
