/-
  What the chapter's examples of properties give, by the document. No condition.
-/
import Derived.Test.YtgdaojihpjfjiaaPropGood
import Derived.Test.YtgdaojihpjfjiaaUsFacts
namespace Go.Proofs.Ytgdaojihpjfjiaa
open Go.RowKit

theorem ascii_cbs : ∀ (l : List UInt8), l.all (fun b => decide (0 < b.toNat) && decide (b.toNat < 128)) = true → cbs (l.map (·.toNat)) = l ∧ oks (l.map (·.toNat))
  | [], _ => ⟨rfl, fun c hc => by simp at hc⟩
  | b :: l, h => by
    rw [List.all_cons] at h
    simp only [Bool.and_eq_true, decide_eq_true_eq] at h
    obtain ⟨⟨h1, h2⟩, h3⟩ := h
    obtain ⟨e, ho⟩ := ascii_cbs l h3
    refine ⟨?_, fun c hc => ?_⟩
    · rw [List.map_cons, cbs_cons, e]
      unfold cb
      rw [if_pos h2]
      simp
    · rcases List.mem_cons.1 hc with rfl | hc
      · exact ⟨h1, .inl (show b.toNat < 55296 by omega)⟩
      · exact ho c hc
theorem ascii_ok (l : List UInt8) (h : l.all (fun b => decide (0 < b.toNat) && decide (b.toNat < 128)) = true) (hl : l.length ≤ 65535) : validOf l = true := by
  obtain ⟨e, ho⟩ := ascii_cbs l h
  have := valid_cbs ho (by rw [e]; exact hl)
  rwa [e] at this
theorem ff_bad : validOf [255] = false := valid_stop (cs := []) (r := [255]) (fun c hc => by simp at hc) (by decide) (by decide)
theorem v_nil : validOf [] = true := ascii_ok _ (by decide) (by decide)
theorem v_a : validOf [97] = true := ascii_ok _ (by decide) (by decide)
theorem v_b : validOf [98] = true := ascii_ok _ (by decide) (by decide)
theorem v_m : validOf [109] = true := ascii_ok _ (by decide) (by decide)
theorem v_odd : validOf [97, 47, 35] = true := ascii_ok _ (by decide) (by decide)
theorem n_odd : nameL [97, 47, 35] = false := by unfold nameL; rw [v_odd]; decide
def userP : Pr := ⟨38, 0, [97], [98]⟩
def oddP : List Pr := [⟨4, 0, [], []⟩, ⟨17, 0, [], []⟩, ⟨1, 2, [], []⟩, ⟨35, 0, [], []⟩, ⟨11, 0, [], []⟩, ⟨8, 0, [97, 47, 35], []⟩]
theorem c_user : checkP 3 userP = 0 := by simp only [checkP, userP, v_a, v_b]; decide
theorem c_odd : ∀ p ∈ oddP, checkP 3 p = 9 := by
  intro p hp
  simp only [oddP, List.mem_cons, List.not_mem_nil, or_false] at hp
  rcases hp with rfl | rfl | rfl | rfl | rfl | rfl
  · decide
  · decide
  · decide
  · decide
  · decide
  · simp only [checkP, v_odd, v_nil, n_odd]; decide
theorem c_unused : checkP 3 ⟨1, 0, [120], []⟩ = 2 := by decide
theorem c_bad : checkP 3 ⟨3, 0, [255], []⟩ = 6 := by simp only [checkP, ff_bad, v_nil]; decide
theorem v_twice : validP 3 [⟨35, 1, [], []⟩, ⟨35, 1, [], []⟩] = 9 := by decide
theorem v_often : validP 3 [userP, userP, ⟨11, 1, [], []⟩, ⟨11, 2, [], []⟩] = 0 := by
  have e : eachP 3 [] [userP, userP, ⟨11, 1, [], []⟩, ⟨11, 2, [], []⟩] = 0 := by
    simp only [eachP, c_user]
    decide
  unfold validP
  rw [e]
  decide
theorem v_subs : validP 8 [⟨11, 1, [], []⟩, ⟨11, 2, [], []⟩] = 9 := by decide
theorem v_lone : validP 15 [⟨22, 0, [120], []⟩] = 9 := by decide
theorem c_method : checkP 15 ⟨21, 0, [109], []⟩ = 0 := by simp only [checkP, v_m, v_nil]; decide
theorem v_both : validP 15 [⟨22, 0, [120], []⟩, ⟨21, 0, [109], []⟩] = 0 := by
  have e : eachP 15 [] [⟨22, 0, [120], []⟩, ⟨21, 0, [109], []⟩] = 0 := by
    simp only [eachP, c_method]
    decide
  unfold validP
  rw [e]
  decide
theorem v_user : validP 3 [userP] = 0 := by
  have e : eachP 3 [] [userP] = 0 := by
    simp only [eachP, c_user]
    decide
  unfold validP
  rw [e]
  decide
theorem r_user : readP 3 [7, 38, 0, 1, 97, 0, 1, 98, 122, 122] = ([userP], 8, 0) := by
  have hb : (bytesP 3 [userP]).1 = [7, 38, 0, 1, 97, 0, 1, 98] := by
    unfold bytesP
    rw [if_neg (by rw [v_user]; decide)]
    decide
  have := read_bytes v_user [122, 122]
  rw [hb] at this
  exact this
theorem r_short : readP 3 [3, 1, 1] = ([], 0, 3) := by decide
theorem r_cut : readP 3 [1, 1] = ([], 0, 5) := by decide
theorem r_none : readP 3 [2, 17, 0] = ([], 0, 9) := by decide
theorem r_empty : readP 4 [0, 122] = ([], 1, 0) := by decide
theorem r_text : readP 3 [4, 3, 0, 1, 255] = ([], 0, 6) := by
  have h1 : textP false [0, 1, 255] = ([], 0, 6) := by
    unfold textP
    rw [show rdB [0, 1, 255] = ([255], 3, 0) by decide]
    simp [ff_bad]
  have h2 : (nextP (((3 : UInt8).toNat : Nat) : Int) [0, 1, 255]).2.2 = 6 := by
    unfold nextP
    rw [show shapeP (((3 : UInt8).toNat : Nat) : Int) = 5 by decide]
    simp [h1]
  have h3 : fromP 3 4 [] [3, 0, 1, 255] = ([], 6) := by
    rw [fromP]
    rw [if_neg (by decide), if_pos (by rw [h2]; decide), h2]
  have e1 : rdE [4, 3, 0, 1, 255] = 0 := by decide
  have e2 : rdN [4, 3, 0, 1, 255] = 1 := by decide
  have e3 : rdV [4, 3, 0, 1, 255] = 4 := by decide
  unfold readP
  rw [e1, e2, e3]
  simp [h3]
end Go.Proofs.Ytgdaojihpjfjiaa
