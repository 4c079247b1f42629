/-
  Plain facts on topics: what a shared filter consists of, and when its parts make one. No condition but on lengths.
-/
import Derived.Test.YthgilnmfbhmgiaaDoorTopWilds
namespace Go.Proofs.YthgilnmfbhmgiaaDoor

/-- $share. -/
def share : List UInt8 := [36, 115, 104, 97, 114, 101]
/-- What Shared tells: the group, the filter, whether it is one. -/
def sharedL (s : List UInt8) : List UInt8 × List UInt8 × Bool :=
  match lvls s with
  | h :: g :: f :: ls => if validOf s = true ∧ h = share ∧ g ≠ [] ∧ (43 : UInt8) ∉ g ∧ (35 : UInt8) ∉ g ∧ filterL (joins (f :: ls)) = true then (g, joins (f :: ls), true) else ([], [], false)
  | _ => ([], [], false)

theorem share_flat : (47 : UInt8) ∉ share := by decide
theorem share_fine : fine share := fine_cbs (cs := [36, 115, 104, 97, 114, 101]) (fun d hd => by
  simp at hd
  rcases hd with rfl | rfl | rfl | rfl | rfl | rfl <;> exact ⟨by decide, by decide⟩)
theorem shared_cases (s : List UInt8) : (∃ g f, sharedL s = (g, f, true) ∧ s = share ++ 47 :: (g ++ 47 :: f) ∧ g ≠ [] ∧ filterL f = true ∧ validOf s = true ∧ (43 : UInt8) ∉ g ∧ (35 : UInt8) ∉ g ∧ (47 : UInt8) ∉ g) ∨ sharedL s = ([], [], false) := by
  unfold sharedL
  have hj := joins_lvls s
  have hf := lvls_flat s
  split
  · rename_i h g f ls e
    rw [e] at hj hf
    split
    · rename_i hc
      obtain ⟨h1, rfl, h3, h4, h5, h6⟩ := hc
      refine .inl ⟨g, joins (f :: ls), rfl, ?_, h3, h6, h1, h4, h5, hf g (by simp)⟩
      rw [← hj, joins_cons _ (by simp), joins_cons g (by simp)]
    · exact .inr rfl
  · exact .inr rfl
/-- Of a group without a slash. -/
theorem shared_made {a b : List UInt8} (ha : (47 : UInt8) ∉ a) (hl : a.length ≤ 200 ∧ b.length ≤ 200) :
    sharedL (share ++ 47 :: (a ++ 47 :: b)) = if nameL a = true ∧ filterL b = true then (a, b, true) else ([], [], false) := by
  have e : lvls (share ++ 47 :: (a ++ 47 :: b)) = share :: a :: lvls b := by rw [lvls_append share_flat, lvls_append ha]
  obtain ⟨f, ls, eb⟩ := List.exists_cons_of_ne_nil (lvls_ne b)
  have hjb : joins (f :: ls) = b := by rw [← eb, joins_lvls]
  have hlen : (share ++ 47 :: (a ++ 47 :: b)).length ≤ 65535 := by
    have : share.length = 6 := rfl
    simp only [List.length_append, List.length_cons]
    omega
  have hv : validOf (share ++ 47 :: (a ++ 47 :: b)) = true ↔ fine a ∧ fine b := by
    rw [valid_fine, fine_cut, fine_cut]
    exact ⟨fun h => h.2.2, fun h => ⟨hlen, share_fine, h⟩⟩
  unfold sharedL
  rw [e, eb]
  simp only [hjb]
  have hva : validOf a = true ↔ fine a := by rw [valid_fine]; exact ⟨fun h => h.2, fun h => ⟨by omega, h⟩⟩
  have hvb : validOf b = true ↔ fine b := by rw [valid_fine]; exact ⟨fun h => h.2, fun h => ⟨by omega, h⟩⟩
  have key : (validOf (share ++ 47 :: (a ++ 47 :: b)) = true ∧ True ∧ a ≠ [] ∧ (43 : UInt8) ∉ a ∧ (35 : UInt8) ∉ a ∧ filterL b = true) ↔ (nameL a = true ∧ filterL b = true) := by
    rw [hv, name_iff, hva]
    constructor
    · rintro ⟨⟨h1, _⟩, _, h3, h4, h5, h6⟩
      exact ⟨⟨h3, h1, h4, h5⟩, h6⟩
    · rintro ⟨⟨h3, h1, h4, h5⟩, h6⟩
      exact ⟨⟨h1, hvb.1 ((filter_iff b).1 h6).2.1⟩, trivial, h3, h4, h5, h6⟩
  by_cases hc : nameL a = true ∧ filterL b = true
  · rw [if_pos hc, if_pos (key.2 hc)]
  · rw [if_neg hc, if_neg (fun h => hc (key.1 h))]
theorem one_level (a : List UInt8) : (lvls a).length = 1 ↔ (47 : UInt8) ∉ a := by
  rw [lvls_length, ← List.count_eq_zero]
  omega
end Go.Proofs.YthgilnmfbhmgiaaDoor
