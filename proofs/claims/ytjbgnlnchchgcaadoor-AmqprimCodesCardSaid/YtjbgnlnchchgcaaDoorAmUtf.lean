/-
  Plain facts: a text is UTF-8, zero characters allowed, if the parts between its zeros are what ustring.Bad allows. No condition.
-/
import Derived.Lib.Bytealg
import Derived.Test.YtjbgnlnchchgcaaDoorAmPlain
namespace Go.Proofs.YtjbgnlnchchgcaaDoor
open Go.RowKit

/-- What lies between the zeros. -/
def partsZ : List UInt8 → List (List UInt8)
  | [] => [[]]
  | b :: l => if b = 0 then [] :: partsZ l else match partsZ l with | [] => [[b]] | p :: ps => (b :: p) :: ps
theorem parts_none : ∀ {r : List UInt8}, (0 : UInt8) ∉ r → partsZ r = [r]
  | [], _ => rfl
  | b :: l, h => by
    have hb : b ≠ 0 := fun e => h (by simp [e])
    have hl : (0 : UInt8) ∉ l := fun e => h (by simp [e])
    rw [partsZ, if_neg hb, parts_none hl]
theorem parts_zero : ∀ {a : List UInt8} (b : List UInt8), (0 : UInt8) ∉ a → partsZ (a ++ 0 :: b) = a :: partsZ b
  | [], b, _ => by rw [List.nil_append, partsZ, if_pos rfl]
  | x :: a, b, h => by
    have hx : x ≠ 0 := fun e => h (by simp [e])
    have ha : (0 : UInt8) ∉ a := fun e => h (by simp [e])
    rw [List.cons_append, partsZ, if_neg hx, parts_zero b ha]
theorem index_none : ∀ {l : List UInt8}, Lib.indexByte l 0 < 0 → (0 : UInt8) ∉ l
  | [], _ => by simp
  | b :: l, h => by
    have hg := Lib.indexByte_ge l 0
    unfold Lib.indexByte at h
    by_cases hb : b = 0
    · subst hb; simp at h
    · have e : (b == 0) = false := by simpa using hb
      rw [e] at h
      simp only [Bool.false_eq_true, if_false] at h
      by_cases h1 : Lib.indexByte l 0 = -1
      · have := index_none (l := l) (by omega)
        simp only [List.mem_cons, not_or]
        exact ⟨fun e => hb e.symm, this⟩
      · rw [if_neg (by simpa using h1)] at h; omega
theorem index_some : ∀ {l : List UInt8}, ¬ Lib.indexByte l 0 < 0 → ∃ a b, l = a ++ 0 :: b ∧ (0 : UInt8) ∉ a ∧ Lib.indexByte l 0 = (a.length : Nat)
  | [], h => by simp [Lib.indexByte] at h
  | b :: l, h => by
    have hg := Lib.indexByte_ge l 0
    unfold Lib.indexByte at h ⊢
    by_cases hb : b = 0
    · subst hb; exact ⟨[], l, rfl, by simp, by simp⟩
    · have e : (b == 0) = false := by simpa using hb
      rw [e] at h ⊢
      simp only [Bool.false_eq_true, if_false] at h ⊢
      by_cases h1 : Lib.indexByte l 0 = -1
      · rw [if_pos (by simpa using h1)] at h; omega
      · obtain ⟨a, c, e1, e2, e3⟩ := index_some (l := l) (by omega)
        rw [if_neg (by simpa using h1), e3]
        refine ⟨b :: a, c, by rw [e1]; rfl, ?_, by simp⟩
        simp only [List.mem_cons, not_or]
        exact ⟨fun e => hb e.symm, e2⟩
theorem utf_mono : ∀ (n m : Nat) (l : List UInt8), l.length ≤ n → l.length ≤ m → utfA n l = utfA m l
  | n, m, [], _, _ => by unfold utfA; rfl
  | 0, _, _ :: _, h, _ => by simp at h
  | _ + 1, 0, _ :: _, _, h => by simp at h
  | n + 1, m + 1, b :: l, h1, h2 => by
    unfold utfA
    split
    · rfl
    · have hd : ((b :: l).drop (dl (b :: l)).2).length ≤ l.length := by
        have : 1 ≤ (dl (b :: l)).2 := by
          unfold dl; simp only []; repeat' split
          all_goals simp
        rw [List.length_drop, List.length_cons]; omega
      simp at h1 h2
      exact utf_mono n m _ (by omega) (by omega)
theorem utf_step (n : Nat) (b : UInt8) (l : List UInt8) : utfA (n + 1) (b :: l) = if (dl (b :: l)).1 = 65533 ∧ (dl (b :: l)).2 = 1 then false else utfA n ((b :: l).drop (dl (b :: l)).2) := rfl
/-- UTF-8, zeros allowed. -/
def goodU (l : List UInt8) : Bool := utfA l.length l
theorem good_nil : goodU [] = true := rfl
theorem good_pre {c : Nat} (h : okc c) (l : List UInt8) : goodU (cb c ++ l) = goodU l := by
  have hd := dl_cb h l
  have hp := cb_length_pos c
  unfold goodU
  rw [utf_mono (cb c ++ l).length ((cb c ++ l).length + 1) _ (Nat.le_refl _) (Nat.le_succ _)]
  obtain ⟨b, r, e⟩ := List.exists_cons_of_ne_nil (cb_ne c l)
  rw [e]
  rw [utf_step]
  rw [← e, hd, if_neg]
  · simp only [List.drop_left]
    exact utf_mono (cb c ++ l).length l.length l (by simp) (Nat.le_refl _)
  · rintro ⟨e1, e2⟩
    simp only at e1 e2
    subst e1
    simp [cb_length] at e2
theorem dl_zero (l : List UInt8) : dl (0 :: l) = (0, 1) := by simp [dl]
theorem good_zero (l : List UInt8) : goodU (0 :: l) = goodU l := by
  unfold goodU
  rw [show (0 :: l : List UInt8).length = l.length + 1 from rfl]
  rw [utf_step]
  rw [dl_zero, if_neg (by simp)]
  rfl
theorem good_bad {l : List UInt8} (hl : l ≠ []) (h : dl l = (65533, 1)) : goodU l = false := by
  obtain ⟨b, r, rfl⟩ := List.exists_cons_of_ne_nil hl
  unfold goodU
  rw [show (b :: r).length = r.length + 1 from rfl]
  rw [utf_step]
  rw [h, if_pos ⟨rfl, rfl⟩]
theorem good_cbs : ∀ {cs : List Nat}, oks cs → ∀ l, goodU (cbs cs ++ l) = goodU l
  | [], _, _ => rfl
  | c :: cs, h, l => by
    rw [cbs_cons, List.append_assoc, good_pre (h c (by simp)), good_cbs (fun x hx => h x (by simp [hx]))]
theorem cb_nz {c : Nat} (h : okc c) : (0 : UInt8) ∉ cb c := by
  obtain ⟨h0, h1⟩ := h
  have H : ∀ n, n < 256 → 0 < n → (0 : UInt8) ≠ UInt8.ofNat n := fun n hn hp e => by
    have := congrArg UInt8.toNat e
    rw [n8 hn] at this; simp at this; omega
  unfold cb
  split
  · simp only [List.mem_singleton]; exact H _ (by omega) h0
  · split
    · simp only [List.mem_cons, List.not_mem_nil, or_false, not_or]
      exact ⟨H _ (by omega) (by omega), H _ (by omega) (by omega)⟩
    · split
      · simp only [List.mem_cons, List.not_mem_nil, or_false, not_or]
        exact ⟨H _ (by omega) (by omega), H _ (by omega) (by omega), H _ (by omega) (by omega)⟩
      · simp only [List.mem_cons, List.not_mem_nil, or_false, not_or]
        exact ⟨H _ (by omega) (by omega), H _ (by omega) (by omega), H _ (by omega) (by omega), H _ (by omega) (by omega)⟩
theorem dl_nz {x : UInt8} (hx : x ≠ 0) (l : List UInt8) : (dl (x :: l)).1 ≠ 0 := by
  have hx0 : x.toNat ≠ 0 := fun e => hx (UInt8.toNat_inj.1 (by simpa using e))
  have hx8 := x.toNat_lt
  intro h
  unfold dl at h
  simp only [List.getD_cons_zero] at h
  repeat' split at h
  all_goals simp only [] at h
  all_goals first | omega | (simp only [Bool.and_eq_true, decide_eq_true_eq] at *; omega)
/-- No code point begins here, whatever follows a zero. -/
theorem bad_then {r : List UInt8} (hr : r ≠ []) (hz : (0 : UInt8) ∉ r) (h : hd r = none) (b : List UInt8) (hb : b = [] ∨ ∃ c, b = 0 :: c) : dl (r ++ b) = (65533, 1) := by
  have hne : r ++ b ≠ [] := by simp [hr]
  rcases dl_cases (r ++ b) hne with h1 | h1 | ⟨h1, h2, t, h3⟩
  · exact h1
  · exfalso
    obtain ⟨x, q, rfl⟩ := List.exists_cons_of_ne_nil hr
    have hx : x ≠ 0 := fun e => hz (by simp [e])
    exact dl_nz hx _ h1
  · exfalso
    have hc := cb_nz h1
    generalize (dl (r ++ b)).1 = c at *
    have hle : (cb c).length ≤ r.length := by
      rcases hb with rfl | ⟨q, rfl⟩
      · have := congrArg List.length h3; simp at this; omega
      · apply Decidable.byContradiction
        intro hgt
        have e1 : (r ++ 0 :: q)[r.length]? = some 0 := by simp
        rw [h3, List.getElem?_append_left (by omega)] at e1
        exact hc (List.mem_of_getElem? e1)
    have e2 : r = cb c ++ r.drop (cb c).length := by
      have e3 := congrArg (List.take (cb c).length) h3
      rw [List.take_left, List.take_append_of_le_length hle] at e3
      have e4 := (List.take_append_drop (cb c).length r).symm
      rw [e3] at e4
      exact e4
    rw [e2, hd_cb h1] at h
    cases h
theorem good_part {a : List UInt8} (hz : (0 : UInt8) ∉ a) (b : List UInt8) (hb : b = [] ∨ ∃ c, b = 0 :: c) : goodU (a ++ b) = (decide (badOf a < 0) && goodU b) := by
  obtain ⟨r, hl, hr⟩ := pts_rest a
  have hoks := pts_oks a
  unfold badOf
  have hf : fin a = (cbs (pts a)).length := rfl
  rw [hl] at hz
  have hzr : (0 : UInt8) ∉ r := fun e => hz (by simp [e])
  have hlen := congrArg List.length hl
  rw [List.length_append, ← hf] at hlen
  by_cases hn : r = []
  · subst hn
    simp at hlen
    rw [if_neg (by omega)]
    rw [List.append_nil] at hl
    conv => lhs; rw [hl]
    rw [good_cbs hoks]; simp
  · have hp : 0 < r.length := List.length_pos_iff.2 hn
    rw [if_pos (by omega), show decide ((fin a : Int) < 0) = false by simp, Bool.false_and]
    conv => lhs; rw [hl, List.append_assoc]
    rw [good_cbs hoks]
    exact good_bad (by simp [hn]) (bad_then hn hzr hr b hb)
theorem good_parts : ∀ (n : Nat) (l : List UInt8), l.length ≤ n → goodU l = (partsZ l).all fun p => decide (badOf p < 0)
  | n, l, h => by
    by_cases hi : Lib.indexByte l 0 < 0
    · have hz := index_none hi
      rw [parts_none hz]
      have := good_part hz [] (.inl rfl)
      rw [List.append_nil, good_nil, Bool.and_true] at this
      rw [this]; simp
    · obtain ⟨a, b, rfl, hz, -⟩ := index_some hi
      rw [parts_zero b hz, good_part hz (0 :: b) (.inr ⟨b, rfl⟩), good_zero, List.all_cons]
      match n, h with
      | 0, h => simp at h
      | n + 1, h => rw [good_parts n b (by simp at h; omega)]
end Go.Proofs.YtjbgnlnchchgcaaDoor
