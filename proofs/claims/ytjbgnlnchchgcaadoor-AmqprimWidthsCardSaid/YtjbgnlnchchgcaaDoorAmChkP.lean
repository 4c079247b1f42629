/-
  Plain facts: what amqprim.Check and fits say by their widest constructors is what the document says. Condition: a text is below 2^32 bytes.
-/
import Derived.Test.YtjbgnlnchchgcaaDoorAmWidest
import Derived.Test.YtjbgnlnchchgcaaDoorAmRoom
import Derived.Test.YtjbgnlnchchgcaaDoorAmText
namespace Go.Proofs.YtjbgnlnchchgcaaDoor
open Go.RowKit

theorem last_k : [1, 2, 3, 4, 5, 6, 7, 8, 9, 10, 11, 12, 13, 14, 15, 16, 17, 18, 19, 20, 21].map (lastK tabS) =
    [⟨64, 1, 0, false, false⟩, ⟨86, 2, 1, false, false⟩, ⟨80, 3, 1, false, false⟩, ⟨96, 4, 2, false, false⟩, ⟨112, 5, 4, false, false⟩, ⟨128, 6, 8, false, false⟩, ⟨81, 7, 1, false, false⟩, ⟨97, 8, 2, false, false⟩,
     ⟨113, 9, 4, false, false⟩, ⟨129, 10, 8, false, false⟩, ⟨114, 11, 4, false, false⟩, ⟨130, 12, 8, false, false⟩, ⟨116, 13, 4, false, false⟩, ⟨132, 14, 8, false, false⟩, ⟨148, 15, 16, false, false⟩, ⟨115, 16, 4, false, false⟩,
     ⟨131, 17, 8, false, false⟩, ⟨152, 18, 16, false, false⟩, ⟨176, 19, 4, true, false⟩, ⟨177, 20, 4, true, false⟩, ⟨179, 21, 4, true, false⟩] := by decide +kernel
theorem kinds_21 {k : Int} (h0 : 1 ≤ k) (h1 : k ≤ 21) : k = 1 ∨ k = 2 ∨ k = 3 ∨ k = 4 ∨ k = 5 ∨ k = 6 ∨ k = 7 ∨ k = 8 ∨ k = 9 ∨ k = 10 ∨ k = 11 ∨ k = 12 ∨ k = 13 ∨ k = 14 ∨ k = 15 ∨ k = 16 ∨ k = 17 ∨ k = 18 ∨ k = 19 ∨ k = 20 ∨ k = 21 := by omega
theorem wid_last {k : Int} (h0 : 1 ≤ k) (h1 : k ≤ 21) : WidOk (lastK tabS k) k := by
  have h := last_k
  simp only [List.map_cons, List.map_nil, List.cons.injEq, and_true] at h
  obtain ⟨e1, e2, e3, e4, e5, e6, e7, e8, e9, e10, e11, e12, e13, e14, e15, e16, e17, e18, e19, e20, e21⟩ := h
  rcases kinds_21 h0 h1 with rfl | rfl | rfl | rfl | rfl | rfl | rfl | rfl | rfl | rfl | rfl | rfl | rfl | rfl | rfl | rfl | rfl | rfl | rfl | rfl | rfl
  all_goals
    simp only [e1, e2, e3, e4, e5, e6, e7, e8, e9, e10, e11, e12, e13, e14, e15, e16, e17, e18, e19, e20, e21]
    unfold WidOk sgnK
    simp
set_option maxHeartbeats 2000000 in
theorem room_last {k : Int} (h0 : 1 ≤ k) (h1 : k ≤ 21) (n : Nat) (l : List UInt8) (hn : n < 18446744073709551616) (hl : l.length < 4294967296) :
    (roomP (lastK tabS k) k n l && numP k n) = (rangedA k n && (textsA k || l.isEmpty) && (!(k == 15 || k == 18) || l.length == 16)) := by
  have h := last_k
  simp only [List.map_cons, List.map_nil, List.cons.injEq, and_true] at h
  obtain ⟨e1, e2, e3, e4, e5, e6, e7, e8, e9, e10, e11, e12, e13, e14, e15, e16, e17, e18, e19, e20, e21⟩ := h
  unfold roomP
  generalize l.isEmpty = em
  rcases kinds_21 h0 h1 with rfl | rfl | rfl | rfl | rfl | rfl | rfl | rfl | rfl | rfl | rfl | rfl | rfl | rfl | rfl | rfl | rfl | rfl | rfl | rfl | rfl
  all_goals
    simp only [e1, e2, e3, e4, e5, e6, e7, e8, e9, e10, e11, e12, e13, e14, e15, e16, e17, e18, e19, e20, e21]
    rw [Bool.eq_iff_iff]
    cases em <;> simp [saysP, sgnK, numP, rangedA, bitsA, textsA, signedA, charA] <;> try omega
/-- The value's fields. -/
def svC (k : Int) (n : Nat) (l : List UInt8) (m : Nat) : Sv := ⟨k, n, l, m⟩
/-- What amqprim.Check goes by. -/
def chkP (k : Int) (n : Nat) (l : List UInt8) (m : Nat) : Nat :=
  if k < 1 ∨ 21 < k then 8 else if (roomP (lastK tabS k) k n l && numP k n && m == 0) = false then 2 else if 1048576 < l.length then 4 else if textP k l = false then 6 else 0
theorem chk_eq (k : Int) (n : Nat) (l : List UInt8) (m : Nat) (hn : n < 18446744073709551616) (hl : l.length < 4294967296) : chkP k n l m = checkV (svC k n l m) := by
  unfold chkP checkV svC
  simp only
  by_cases h : k < 1 ∨ 21 < k
  · rw [if_pos h, if_pos h]
  · rw [if_neg h, if_neg h]
    have e := room_last (by omega : 1 ≤ k) (by omega) n l hn hl
    have e2 : (roomP (lastK tabS k) k n l && numP k n && m == 0) = (rangedA k n && m == 0 && (textsA k || l.isEmpty) && (!(k == 15 || k == 18) || l.length == 16)) := by
      rw [e]
      cases rangedA k n <;> cases (m == 0) <;> simp
    rw [e2]
    split
    · rfl
    split
    · rfl
    have e3 : (textP k l = false) ↔ ((k = 20 ∧ utfA l.length l = false) ∨ (k = 21 ∧ asciiA l = false)) := by
      unfold textP goodU
      by_cases h20 : k = 20
      · subst h20; simp
      · by_cases h21 : k = 21
        · subst h21; simp
        · simp [h20, h21]
    by_cases h4 : textP k l = false
    · rw [if_pos h4, if_pos (e3.1 h4)]
    · rw [if_neg h4, if_neg (fun x => h4 (e3.2 x))]
theorem tab_small : ∀ t ∈ tabA, t.kind ≤ 21 → WidOk t t.kind := by
  intro t ht
  simp only [tabA, List.mem_cons, List.not_mem_nil, or_false] at ht
  rcases ht with rfl | rfl | rfl | rfl | rfl | rfl | rfl | rfl | rfl | rfl | rfl | rfl | rfl | rfl | rfl | rfl | rfl | rfl | rfl | rfl | rfl | rfl | rfl | rfl | rfl | rfl | rfl | rfl | rfl | rfl | rfl | rfl | rfl | rfl | rfl | rfl | rfl | rfl | rfl | rfl
  all_goals simp [WidOk, sgnK]
set_option maxHeartbeats 4000000 in
theorem room_fits : ∀ t ∈ tabA, ∀ v : Sv, (t.kind : Int) = v.kind → v.n < 18446744073709551616 → checkV v = 0 → roomP t v.kind v.n v.text = fitsC t v := by
  intro t ht v hk hn hc
  obtain ⟨⟨k0, k1⟩, hr, -, hx, hw, hl⟩ := check_v hc
  obtain ⟨kind, n, l, m⟩ := v
  simp only at *
  subst hk
  unfold roomP fitsC
  generalize hle : l.length = z at *
  have he : l.isEmpty = decide (z = 0) := by rw [← hle]; cases l <;> simp
  have hx : textsA (t.kind : Int) = false → z = 0 := fun h => by rw [← hle, hx h]; rfl
  simp only [tabA, List.mem_cons, List.not_mem_nil, or_false] at ht
  rcases ht with rfl | rfl | rfl | rfl | rfl | rfl | rfl | rfl | rfl | rfl | rfl | rfl | rfl | rfl | rfl | rfl | rfl | rfl | rfl | rfl | rfl | rfl | rfl | rfl | rfl | rfl | rfl | rfl | rfl | rfl | rfl | rfl | rfl | rfl | rfl | rfl | rfl | rfl | rfl | rfl
  all_goals first
    | (exfalso; simp at k1; done)
    | (rw [Bool.eq_iff_iff]
       simp [rangedA, bitsA, signedA, charA, textsA, he, saysP, sgnK] at hr hx hw ⊢
       try omega)
end Go.Proofs.YtjbgnlnchchgcaaDoor
