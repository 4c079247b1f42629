/-
  The walk of polyglotlaw05.PropTurns: what is said of its lists; lists that are not gone through. Condition: strings no longer than memory allows.
-/
import Derived.Test.YtgdaojihpjfjiaaPropAppend
import Derived.Test.YtgdaojihpjfjiaaPick
namespace Go.Proofs.Ytgdaojihpjfjiaa
open Go.RowKit

section
variable (kind cut : Int) (A : Option Addr) (n c : Nat) (l : List Pr) (w : World) (k0 : -9223372036854775808 ≤ kind) (k1 : kind ≤ 9223372036854775807) (hl : PL w A l) (hn : l.length = n) (hc : n ≤ c) (hcm : c ≤ 9223372036854775807) (ok : ∀ p ∈ l, PrOk p) (hm : ∀ p ∈ l, p.text.length ≤ 140737488351232 ∧ p.value.length ≤ 140737488351232)
include hl hn hm
theorem turns_dark (h : lightP l = false) :
    Calls Try.prog 6 #[.int .i64 kind, .slice A n c, .int .i64 cut] w fun e w' => e = .returned (.bool true) ∧ Below w.heap.size w w' := by
  have LT := fun W (hb : Below w.heap.size w W) => light_any A n c l W (hl.below hb) hn hm
  rw [h] at LT
  have LT := Lib.hid LT
  clear hl hn hm h
  go_enter Try.func6, Try.ntmps6
  go_wp2_with fail
  refine (lives_prop w).mono ?_
  rintro e w1 ⟨rfl, hb⟩
  go_wp2_with fail
  refine (LT.out _ hb).mono ?_
  rintro e w2 ⟨rfl, m, rfl⟩
  go_wp2_with fail
  go_ret
  exact ⟨rfl, below_draws hb _⟩
include k0 k1 hc ok
theorem turns_bad (h : lightP l = true) (hv : validP kind l ≠ 0) :
    Calls Try.prog 6 #[.int .i64 kind, .slice A n c, .int .i64 cut] w fun e w' => e = .returned (.bool true) ∧ Below w.heap.size w w' := by
  have LT := fun W (hb : Below w.heap.size w W) => light_any A n c l W (hl.below hb) hn hm
  rw [h] at LT
  have LT := Lib.hid LT
  have VL := Lib.hid (fun W (hb : Below w.heap.size w W) => valid_list kind A n c l W k0 k1 (hl.below hb) hn hc ok)
  generalize validP kind l = V at *
  have g1 : ((V : Int) == 0) = false := by simp; omega
  have g2 : ((V : Int) != 0) = true := by simp; omega
  clear hl hn hm h hv hc ok k0 k1
  go_enter Try.func6, Try.ntmps6
  go_wp2_with fail
  refine (lives_prop w).mono ?_
  rintro e w1 ⟨rfl, hb⟩
  go_wp2_with fail
  refine (LT.out _ hb).mono ?_
  rintro e w2 ⟨rfl, m, rfl⟩
  have hb2 := below_draws hb m
  clear hb
  go_wp2_with fail
  refine (VL.out _ hb2).mono ?_
  rintro e w3 ⟨rfl, hb3⟩
  have HB := Lib.hid (hb2.trans (hb3.mono hb2.size))
  clear hb2 hb3
  go_wp2_with fail
  go_ret
  exact ⟨rfl, HB.out⟩
theorem turns_far (h : lightP l = true) (hv : validP kind l = 0) (hz : n = 0 ∨ 900 < n) :
    Calls Try.prog 6 #[.int .i64 kind, .slice A n c, .int .i64 cut] w fun e w' => e = .returned (.bool true) ∧ Below w.heap.size w w' := by
  have LT := fun W (hb : Below w.heap.size w W) => light_any A n c l W (hl.below hb) hn hm
  rw [h] at LT
  have LT := Lib.hid LT
  have VL := fun W (hb : Below w.heap.size w W) => valid_list kind A n c l W k0 k1 (hl.below hb) hn hc ok
  rw [hv] at VL
  have VL := Lib.hid VL
  clear hl hn hm h hv hc ok k0 k1
  have hz2 : (n : Int) = 0 ∨ ¬ (n : Int) = 0 ∧ 900 < (n : Int) := by omega
  clear hz
  rcases hz2 with hz | ⟨hz, hz2⟩
  all_goals
    go_enter Try.func6, Try.ntmps6
    go_wp2_with fail
    refine (lives_prop w).mono ?_
    rintro e w1 ⟨rfl, hb⟩
    go_wp2_with fail
    refine (LT.out _ hb).mono ?_
    rintro e w2 ⟨rfl, m, rfl⟩
    have hb2 := below_draws hb m
    clear hb
    go_wp2_with fail
    refine (VL.out _ hb2).mono ?_
    rintro e w3 ⟨rfl, hb3⟩
    have HB := Lib.hid (hb2.trans (hb3.mono hb2.size))
    clear hb2 hb3
    go_wp2_with fail
    go_ret
    exact ⟨rfl, HB.out⟩
end
/-- What stands while the list that is longer by one is made. -/
def TuS (w : World) (g i k : Nat) (p : Pr) (l : List Pr) (W : World) : Prop :=
  W.cell? ⟨g, i + k * 4, none⟩ = some (.int .i64 p.id) ∧ W.cell? ⟨g, i + k * 4 + 1, none⟩ = some (.int .u32 p.n) ∧ W.cell? ⟨g, i + k * 4 + 2, none⟩ = some (.string (bs p.text)) ∧ W.cell? ⟨g, i + k * 4 + 3, none⟩ = some (.string (bs p.value)) ∧ (PL w (some ⟨g, i, none⟩) l ∧ l[k]? = some p ∧ Below w.heap.size w W)
theorem TuS.mk {w W : World} {g i k : Nat} {p : Pr} {l : List Pr} (hl : PL w (some ⟨g, i, none⟩) l) (hp : l[k]? = some p) (hb : Below w.heap.size w W) : TuS w g i k p l W := by
  obtain ⟨g', i', e, _, h0, h1, h2, h3⟩ := (hl.below hb).at hp
  cases e
  exact ⟨h0, h1, h2, h3, hl, hp, hb⟩
theorem TuS.call {w W W' : World} {g i k : Nat} {p : Pr} {l : List Pr} {B : Nat} (h : TuS w g i k p l W) (hb : Below B W W') (hB : w.heap.size ≤ B) : TuS w g i k p l W' := by
  obtain ⟨_, _, _, _, h1, h2, h3⟩ := h
  exact TuS.mk h1 h2 (h3.trans (hb.mono hB))
theorem TuS.alloc {w W : World} {g i k : Nat} {p : Pr} {l : List Pr} (h : TuS w g i k p l W) (o : Obj) : TuS w g i k p l (W.alloc o) := by
  obtain ⟨_, _, _, _, h1, h2, h3⟩ := h
  exact TuS.mk h1 h2 (h3.alloc h3.size _)
theorem TuS.size {w W : World} {g i k : Nat} {p : Pr} {l : List Pr} (h : TuS w g i k p l W) : w.heap.size ≤ W.heap.size := h.2.2.2.2.2.2.size
theorem TuS.b {w W : World} {g i k : Nat} {p : Pr} {l : List Pr} (h : TuS w g i k p l W) : Below w.heap.size w W := h.2.2.2.2.2.2
theorem TuS.own {w W W' : World} {g i k : Nat} {p : Pr} {l : List Pr} (h : TuS w g i k p l W) (hb : Below W.heap.size W W') : TuS w g i k p l W' ∧ w.heap.size ≤ W.heap.size ∧ W.heap.size ≤ W'.heap.size := ⟨h.call hb h.size, h.size, hb.size⟩
/-- What stands while the last line is reckoned. -/
def TuI (w : World) (g i k : Nat) (p : Pr) (l : List Pr) (W : World) : Prop :=
  W.cell? ⟨g, i + k * 4, none⟩ = some (.int .i64 p.id) ∧ (PL w (some ⟨g, i, none⟩) l ∧ l[k]? = some p ∧ Below w.heap.size w W)
theorem TuS.i {w W : World} {g i k : Nat} {p : Pr} {l : List Pr} (h : TuS w g i k p l W) : TuI w g i k p l W := ⟨h.1, h.2.2.2.2⟩
theorem TuI.call {w W W' : World} {g i k : Nat} {p : Pr} {l : List Pr} (h : TuI w g i k p l W) (hb : Below W.heap.size W W') : TuI w g i k p l W' := by
  obtain ⟨_, h1, h2, h3⟩ := h
  exact (TuS.mk h1 h2 (h3.trans (hb.mono h3.size))).i
theorem le_alloc {b : Nat} {W : World} (h : b ≤ W.heap.size) (o : Obj) : b ≤ (W.alloc o).heap.size := by rw [World.size_alloc]; omega
/-- What is said of the turned list, the lesser, the longer. -/
theorem turned_l {kind : Int} {l : List Pr} {k : Nat} {p : Pr} (hv : validP kind l = 0) (hp : l[k]? = some p) :
    (bytesP kind (l.drop k ++ l.take k)).2 = 0 ∧ (bytesP kind (l.drop k ++ l.take k)).1.length = (bytesP kind l).1.length ∧ (bytesP kind l).2 = 0 ∧ checkP kind p = 0 ∧ (p.id ≠ 21 → validP kind (l.take k ++ l.drop (k + 1)) = 0) ∧
      (l.length ≤ 900 → (bytesP kind l).1.length ≤ 100000 → (validP kind (l ++ [p]) = 0 ↔ manyP kind p.id = true)) := by
  obtain ⟨t1, t2⟩ := turn_valid k hv
  have e1 : bytesP kind (l.drop k ++ l.take k) = (vb (bodyP (l.drop k ++ l.take k)).length (sz (bodyP (l.drop k ++ l.take k)).length) ++ bodyP (l.drop k ++ l.take k), 0) := by unfold bytesP; rw [if_neg (by simp [t1])]
  have e2 : bytesP kind l = (vb (bodyP l).length (sz (bodyP l).length) ++ bodyP l, 0) := by unfold bytesP; rw [if_neg (by simp [hv])]
  have hmem := List.mem_of_getElem? hp
  have hkl : k < l.length := (List.getElem?_eq_some_iff.1 hp).1
  have hsp : l.take k ++ [p] ++ l.drop (k + 1) = l := by
    have h1 := List.take_append_drop (k + 1) l
    rw [List.take_add_one, hp] at h1
    exact h1
  refine ⟨by rw [e1], ?_, by rw [e2], ?_, ?_, ?_⟩
  · rw [e1, e2]
    show (vb _ _ ++ bodyP (l.drop k ++ l.take k)).length = (vb _ _ ++ bodyP l).length
    rw [List.length_append, List.length_append, vb_length, vb_length, t2]
  · exact ((valid_good kind l).1 hv).2.1.1 p hmem
  · intro h21
    exact less_valid (by rw [hsp]; exact hv) h21
  · intro hn hbig
    refine more_valid hv hmem (by omega) ?_
    rw [e2] at hbig
    have h3 : (bodyP l).length ≤ 100000 := by
      have : (vb (bodyP l).length (sz (bodyP l).length) ++ bodyP l).length ≤ 100000 := hbig
      rw [List.length_append] at this; omega
    have h4 : bodyP l = bodyP (l.take k) ++ (bodyP [p] ++ bodyP (l.drop (k + 1))) := by
      rw [← bodyP_append, ← bodyP_append, ← List.append_assoc, hsp]
    rw [h4] at h3
    simp only [List.length_append] at h3
    rw [bodyP_append, h4]
    simp only [List.length_append]
    omega
end Go.Proofs.Ytgdaojihpjfjiaa
