/-
  The contracts of prop.Check and of what it calls. Condition: a kind, an id and lengths are ints.
-/
import Derived.Deep.RegionHeld3
import Derived.Test.YtgdaojihpjfjiaaPropMay
import Derived.Test.YtgdaojihpjfjiaaTopNm
namespace Go.Proofs.Ytgdaojihpjfjiaa
open Go.RowKit

/-- A property as a value. -/
def propV (p : Pr) : Value := .agg #[.int .i64 p.id, .int .u32 p.n, .string (bs p.text), .string (bs p.value)]
/-- Its fields are what their types hold. -/
structure PrOk (p : Pr) : Prop where
  lo : -9223372036854775808 ≤ p.id
  hi : p.id ≤ 9223372036854775807
  n : p.n < 4294967296
  text : p.text.length ≤ 9223372036854775807
  value : p.value.length ≤ 9223372036854775807

/-- Block b is a property. -/
def PropAt (W : World) (b : Nat) (p : Pr) : Prop := W.heap[b]? = some (.cells #[.int .i64 p.id, .int .u32 p.n, .string (bs p.text), .string (bs p.value)] 25 (0, 0))
section
variable {W W' : World} {b : Nat} {p : Pr}
theorem PropAt.lt (h : PropAt W b p) : b < W.heap.size := lt_of_block h
theorem PropAt.cell (h : PropAt W b p) (j : Nat) : W.cell? ⟨b, j, none⟩ = (#[.int .i64 p.id, .int .u32 p.n, .string (bs p.text), .string (bs p.value)] : Array Value)[j]? := cell_of_row W b j _ _ (0, 0) h
theorem PropAt.c0 (h : PropAt W b p) : W.cell? ⟨b, 0, none⟩ = some (.int .i64 p.id) := h.cell 0
theorem PropAt.c1 (h : PropAt W b p) : W.cell? ⟨b, 1, none⟩ = some (.int .u32 p.n) := h.cell 1
theorem PropAt.c2 (h : PropAt W b p) : W.cell? ⟨b, 2, none⟩ = some (.string (bs p.text)) := h.cell 2
theorem PropAt.c3 (h : PropAt W b p) : W.cell? ⟨b, 3, none⟩ = some (.string (bs p.value)) := h.cell 3
theorem PropAt.of_block (h : PropAt W b p) (hb : W'.heap[b]? = W.heap[b]?) : PropAt W' b p := hb.trans h
theorem PropAt.below (h : PropAt W b p) {B : Nat} (hb : Below B W W') (hB : b < B) : PropAt W' b p := h.of_block (hb.block b hB)
theorem PropAt.made (W : World) (p : Pr) : PropAt (W.alloc (.cells #[.int .i64 p.id, .int .u32 p.n, .string (bs p.text), .string (bs p.value)] 25)) W.heap.size p := heap_alloc_new W _
end

/-- Is a field set that the shape does not use? -/
def extraP (s : Nat) (p : Pr) : Bool :=
  if s = 5 ∨ s = 6 then decide (p.n ≠ 0) || decide (p.value ≠ []) else if s = 7 then decide (p.n ≠ 0) else decide (p.text ≠ []) || decide (p.value ≠ [])
theorem str_empty (l : List UInt8) : ((bs l).toList == []) = decide (l = []) := by rw [bs_toList, Bool.eq_iff_iff]; simp

theorem extra_case (s : Nat) (_p : Pr) (w : World) (hs : s < 100) (n : Int) (st sv : ByteArray) (b1 b2 b3 R : Bool) (h1 : (n != 0) = b1) (h10 : b1 = false → n = 0) (h2 : (st.toList == []) = b2) (k2 : st.toList.isEmpty = b2) (h3 : (sv.toList == []) = b3) (k3 : sv.toList.isEmpty = b3)
    (id : Int) (hR : R = if s = 5 ∨ s = 6 then b1 || !b3 else if s = 7 then b1 else !b2 || !b3) :
    Calls Try.prog 43 #[.int .i64 s, .agg #[.int .i64 id, .int .u32 n, .string st, .string sv]] w fun e w' => e = .returned (.bool R) ∧ Below w.heap.size w w' := by
  have e1 : b1 = true → (n == 0) = false := fun h => by rw [h] at h1; simp at h1; simpa using h1
  by_cases s5 : s = 5
  · subst s5
    rw [if_pos (by decide)] at hR
    cases b1 with
    | true =>
      obtain rfl : R = true := hR
      have e1 := e1 rfl
      clear h10
      go_enter Try.func43, Try.ntmps43
      go_wp2
      go_ret
      exact ⟨rfl, (Below.refl _ _).alloc (Nat.le_refl _) _⟩
    | false =>
      obtain rfl := h10 rfl
      cases b3 <;>
      · subst hR
        clear e1 h1 h10
        go_enter Try.func43, Try.ntmps43
        go_wp2
        go_ret
        exact ⟨rfl, (Below.refl _ _).alloc (Nat.le_refl _) _⟩
  by_cases s6 : s = 6
  · subst s6
    rw [if_pos (by decide)] at hR
    cases b1 with
    | true =>
      obtain rfl : R = true := hR
      have e1 := e1 rfl
      clear h10
      go_enter Try.func43, Try.ntmps43
      go_wp2
      go_ret
      exact ⟨rfl, (Below.refl _ _).alloc (Nat.le_refl _) _⟩
    | false =>
      obtain rfl := h10 rfl
      cases b3 <;>
      · subst hR
        clear e1 h1 h10
        go_enter Try.func43, Try.ntmps43
        go_wp2
        go_ret
        exact ⟨rfl, (Below.refl _ _).alloc (Nat.le_refl _) _⟩
  rw [if_neg (by omega)] at hR
  have g5 : ((s : Int) == 5) = false := by simp; omega
  have g6 : ((s : Int) == 6) = false := by simp; omega
  by_cases s7 : s = 7
  · subst s7
    rw [if_pos rfl] at hR
    subst hR
    have h1 := Lib.hid h1
    clear e1 h10
    go_enter Try.func43, Try.ntmps43
    go_wp2
    go_ret
    exact ⟨rfl, (Below.refl _ _).alloc (Nat.le_refl _) _⟩
  · rw [if_neg s7] at hR
    have g7 : ((s : Int) == 7) = false := by simp; omega
    clear e1 h1 h10
    cases b2 <;> cases b3 <;>
    · subst hR
      go_enter Try.func43, Try.ntmps43
      go_wp2
      go_ret
      exact ⟨rfl, (Below.refl _ _).alloc (Nat.le_refl _) _⟩
theorem extra_any (s : Nat) (p : Pr) (w : World) (hs : s < 100) :
    Calls Try.prog 43 #[.int .i64 s, propV p] w fun e w' => e = .returned (.bool (extraP s p)) ∧ Below w.heap.size w w' := by
  have k2 : (bs p.text).toList.isEmpty = decide (p.text = []) := by rw [bs_toList]; cases p.text <;> simp
  have k3 : (bs p.value).toList.isEmpty = decide (p.value = []) := by rw [bs_toList]; cases p.value <;> simp
  refine extra_case s p w hs p.n (bs p.text) (bs p.value) (decide (p.n ≠ 0)) (decide (p.text = [])) (decide (p.value = [])) _ ?_ ?_ (str_empty _) k2 (str_empty _) k3 p.id ?_
  · rw [Bool.eq_iff_iff]; simp
  · intro h; simp at h; omega
  · unfold extraP
    simp
/-- The greatest number of a shape. -/
def mostC (s : Nat) : Nat := if s = 1 then 1 else if s = 2 then 65535 else if s = 4 then 268435455 else 4294967295
theorem most_any (s : Nat) (w : World) (hs : s < 100) :
    Calls Try.prog 44 #[.int .i64 s] w fun e w' => e = .returned (.int .u32 (mostC s)) ∧ w = w' := by
  unfold mostC
  by_cases s1 : s = 1
  · subst s1
    go_enter Try.func44, Try.ntmps44
    go_wp2
    go_ret
    exact ⟨rfl, rfl⟩
  by_cases s2 : s = 2
  · subst s2
    go_enter Try.func44, Try.ntmps44
    go_wp2
    go_ret
    exact ⟨rfl, rfl⟩
  by_cases s4 : s = 4
  · subst s4
    go_enter Try.func44, Try.ntmps44
    go_wp2
    go_ret
    exact ⟨rfl, rfl⟩
  rw [if_neg s1, if_neg s2, if_neg s4]
  have g1 : ((s : Int) == 1) = false := by simp; omega
  have g2 : ((s : Int) == 2) = false := by simp; omega
  have g4 : ((s : Int) == 4) = false := by simp; omega
  go_enter Try.func44, Try.ntmps44
  go_wp2
  go_ret
  exact ⟨rfl, rfl⟩
theorem binary_check (l : List UInt8) (w : World) (hl : l.length ≤ 9223372036854775807) :
    Calls Try.prog 45 #[.string (bs l)] w fun e w' => e = .returned (.int .i64 ((if 65535 < l.length then 2 else 0 : Nat) : Int)) ∧ w = w' := by
  have hsz := bs_size l
  generalize bs l = s at *
  by_cases h : 65535 < l.length
  · rw [if_pos h]
    have : 65535 < s.size := by omega
    go_enter Try.func45, Try.ntmps45
    go_wp2
    go_ret
    exact ⟨rfl, rfl⟩
  · rw [if_neg h]
    have : ¬ 65535 < s.size := by omega
    go_enter Try.func45, Try.ntmps45
    go_wp2
    go_ret
    exact ⟨rfl, rfl⟩

/-- What prop.checkTexts tells. -/
def textsP (p : Pr) : Nat := if validOf p.text = false ∨ validOf p.value = false then 6 else if p.id = 8 ∧ nameL p.text = false then 9 else 0
theorem texts_check (p : Pr) (w : World) (h : PrOk p) :
    Calls Try.prog 46 #[propV p] w fun e w' => e = .returned (.int .i64 ((textsP p : Nat) : Int)) ∧ Below w.heap.size w w' := by
  have V1 := fun W => valid_any (bs p.text) W (by rw [bs_size]; exact h.text)
  have V2 := fun W => valid_any (bs p.value) W (by rw [bs_size]; exact h.value)
  have NM := fun W => name_any (bs p.text) W (by rw [bs_size]; exact h.text)
  rw [bs_data] at V1 V2 NM
  have M := Lib.hid (PropAt.made w p)
  have hB : Below w.heap.size w (w.alloc (.cells #[.int .i64 p.id, .int .u32 p.n, .string (bs p.text), .string (bs p.value)] 25)) := (Below.refl _ _).alloc (Nat.le_refl _) _
  have hB := Lib.hid hB
  have c0 := M.out.c0
  have c2 := M.out.c2
  have c3 := M.out.c3
  unfold propV
  obtain ⟨R, hR⟩ : ∃ R, textsP p = R := ⟨_, rfl⟩
  rw [hR]
  unfold textsP at hR
  have V1 := Lib.hid V1
  have V2 := Lib.hid V2
  have NM := Lib.hid NM
  generalize validOf p.text = v1 at *
  generalize validOf p.value = v2 at *
  generalize nameL p.text = nm at *
  have HR := Lib.hid hR
  clear h hR
  go_enter Try.func46, Try.ntmps46
  cases v1 with
  | false =>
    have hr := HR.out
    rw [if_pos (.inl rfl)] at hr
    subst hr
    clear HR
    go_wp2_with fail
    refine (V1.out _).mono ?_
    rintro e w2 ⟨rfl, hb⟩
    go_wp2_with fail
    go_ret
    exact ⟨rfl, hB.out.trans (hb.mono hB.out.size)⟩
  | true =>
    go_wp2_with fail
    refine (V1.out _).mono ?_
    rintro e w2 ⟨rfl, hb⟩
    have M2 := Lib.hid (M.out.below hb M.out.lt)
    have B2 := Lib.hid (hB.out.trans (hb.mono hB.out.size))
    clear c0 c2 c3 hb
    have c3 := M2.out.c3
    go_wp2_with fail
    refine (V2.out _).mono ?_
    rintro e w3 ⟨rfl, hb⟩
    have M3 := Lib.hid (M2.out.below hb M2.out.lt)
    have B3 := Lib.hid (B2.out.trans (hb.mono B2.out.size))
    clear c3 hb
    have c0 := M3.out.c0
    have c2 := M3.out.c2
    cases v2 with
    | false =>
      have hr := HR.out
      rw [if_pos (.inr rfl)] at hr
      subst hr
      clear HR
      go_wp2_with fail
      go_ret
      exact ⟨rfl, B3.out⟩
    | true =>
      by_cases h8 : p.id = 8
      · rw [h8] at c0
        go_wp2_with fail
        refine (NM.out _).mono ?_
        rintro e w4 ⟨rfl, hb⟩
        have B4 := Lib.hid (B3.out.trans (hb.mono B3.out.size))
        cases nm with
        | false =>
          have hr := HR.out
          rw [if_neg (by simp), if_pos ⟨h8, rfl⟩] at hr
          subst hr
          clear HR
          go_wp2_with fail
          go_ret
          exact ⟨rfl, B4.out⟩
        | true =>
          have hr := HR.out
          rw [if_neg (by simp), if_neg (by simp)] at hr
          subst hr
          clear HR
          go_wp2_with fail
          go_ret
          exact ⟨rfl, B4.out⟩
      · have hr := HR.out
        rw [if_neg (by simp), if_neg (fun x => h8 x.1)] at hr
        subst hr
        clear HR
        have g8 : (p.id == 8) = false := by simpa using h8
        go_wp2_with fail
        go_ret
        exact ⟨rfl, B3.out⟩
end Go.Proofs.Ytgdaojihpjfjiaa
