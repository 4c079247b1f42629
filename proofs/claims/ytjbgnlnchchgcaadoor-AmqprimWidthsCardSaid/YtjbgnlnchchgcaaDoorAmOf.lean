/-
  The contracts of cmp.Compare at ints, of amqprim.compare, and of slices.BinarySearchFunc with it over the table of constructors. No condition. The contract of amqprim.Of. No condition.
-/
import Derived.Deep.LoopGhost
import Derived.Test.YtjbgnlnchchgcaaDoorAmTable
namespace Go.Proofs.YtjbgnlnchchgcaaDoor
open Go.RowKit

def cmpI (x y : Int) : Int := if x < y then -1 else if y < x then 1 else 0
theorem nan_any (x : Int) (w : World) : Calls Tryd.prog 75 #[.int .i64 x] w fun e W => e = .returned (.bool false) ∧ w = W := by
  have h : (x != x) = false := by simp
  go_in
  go_wp2_with fail
  go_ret
  exact ⟨by simp, rfl⟩
theorem cmp_any (x y : Int) (w : World) : Calls Tryd.prog 61 #[.int .i64 x, .int .i64 y] w fun e W => e = .returned (.int .i64 (cmpI x y)) ∧ w = W := by
  have N := Lib.hid (fun z W => nan_any z W)
  unfold cmpI
  by_cases h1 : x < y
  · rw [if_pos h1]
    go_in
    go_wp2_with (go_at_call 75; refine (N.out _ _).mono ?_; rintro e W ⟨rfl, rfl⟩)
    go_ret
    exact ⟨rfl, rfl⟩
  · rw [if_neg h1]
    by_cases h2 : y < x
    · rw [if_pos h2]
      go_in
      go_wp2_with (go_at_call 75; refine (N.out _ _).mono ?_; rintro e W ⟨rfl, rfl⟩)
      go_ret
      exact ⟨rfl, rfl⟩
    · rw [if_neg h2]
      go_in
      go_wp2_with (go_at_call 75; refine (N.out _ _).mono ?_; rintro e W ⟨rfl, rfl⟩)
      go_ret
      exact ⟨rfl, rfl⟩
theorem compare_any (t : Ct) (c : Int) (w : World) : Calls Tryd.prog 38 #[.agg (ctC t), .int .i64 c] w fun e W => e = .returned (.int .i64 (cmpI t.code c)) ∧ Below w.heap.size w W := by
  have C := Lib.hid (fun x y W => cmp_any x y W)
  have B := Lib.hid (below_box (w := w) (.cells (ctC t) 32))
  unfold ctC at *
  go_in
  go_wp2_with (go_at_call 61; refine (C.out _ _ _).mono ?_; rintro e W ⟨rfl, rfl⟩)
  go_ret
  exact ⟨rfl, B.out⟩
theorem ctCs_get : ∀ (l : List Ct) (i : Nat) (t : Ct), l[i]? = some t → ∀ j u, (ctC t)[j]? = some u → (ctCs l)[i * 5 + j]? = some u
  | [], _, _, h, _, _, _ => by simp at h
  | a :: l, 0, t, h, j, u, hu => by
    simp at h; subst h
    have hj : j < 5 := (Array.getElem?_eq_some_iff.1 hu).1
    unfold ctCs
    simp only [List.flatMap_cons, List.getElem?_toArray]
    rw [List.getElem?_append_left (by show 0 * 5 + j < 5; omega), Nat.zero_mul, Nat.zero_add]
    rw [← hu]; simp
  | a :: l, i + 1, t, h, j, u, hu => by
    have ih := ctCs_get l i t (by simpa using h) j u hu
    unfold ctCs at ih ⊢
    simp only [List.flatMap_cons, List.getElem?_toArray] at ih ⊢
    rw [List.getElem?_append_right (by show 5 ≤ (i + 1) * 5 + j; omega)]
    rw [← ih]; congr 1; show (i + 1) * 5 + j - 5 = i * 5 + j; omega
/-- Block b is the table. -/
def TabAt (W : World) (b : Nat) : Prop := W.heap[b]? = some (.cells (ctCs tabS) 59 (0, 0))
theorem TabAt.below {w W : World} {b : Nat} (h : TabAt w b) (hb : Below w.heap.size w W) : TabAt W b := (hb.block _ (lt_of_block h)).trans h
theorem TabAt.cells {w : World} {b : Nat} (h : TabAt w b) {i : Nat} {t : Ct} (ht : tabS[i]? = some t) :
    w.cell? ⟨b, i * 5, none⟩ = some (.int .i64 (t.code : Nat)) ∧ w.cell? ⟨b, i * 5 + 1, none⟩ = some (.int .i64 (t.kind : Nat)) ∧ w.cell? ⟨b, i * 5 + 2, none⟩ = some (.int .i64 (t.width : Nat)) ∧
      w.cell? ⟨b, i * 5 + 3, none⟩ = some (.bool t.sized) ∧ w.cell? ⟨b, i * 5 + 4, none⟩ = some (.bool t.items) :=
  ⟨(cell_of_row _ _ _ _ _ _ h).trans (ctCs_get _ _ _ ht 0 _ rfl), (cell_of_row _ _ _ _ _ _ h).trans (ctCs_get _ _ _ ht 1 _ rfl), (cell_of_row _ _ _ _ _ _ h).trans (ctCs_get _ _ _ ht 2 _ rfl),
    (cell_of_row _ _ _ _ _ _ h).trans (ctCs_get _ _ _ ht 3 _ rfl), (cell_of_row _ _ _ _ _ _ h).trans (ctCs_get _ _ _ ht 4 _ rfl)⟩
theorem tabS_mono {i j : Nat} {a b : Ct} (hi : tabS[i]? = some a) (hj : tabS[j]? = some b) (h : i ≤ j) : a.code ≤ b.code := by
  rcases Nat.lt_or_eq_of_le h with h | rfl
  · obtain ⟨h1, e1⟩ := List.getElem?_eq_some_iff.1 hi
    obtain ⟨h2, e2⟩ := List.getElem?_eq_some_iff.1 hj
    have := List.pairwise_iff_getElem.1 tabS_sorted i j h1 h2 h
    rw [e1, e2] at this; omega
  · rw [hi] at hj; cases hj; exact Nat.le_refl _
/-- What a search of the table has found out. -/
def SrcI (c : Int) (lo hi : Nat) : Prop := ∀ (j : Nat) (t : Ct), tabS[j]? = some t → (j < lo → (t.code : Int) < c) ∧ (hi ≤ j → c ≤ (t.code : Int))
def SrcR (c : Int) (i : Nat) (f : Bool) : Prop := (f = true → ∃ t, tabS[i]? = some t ∧ (t.code : Int) = c) ∧ (f = false → ∀ t ∈ tabS, (t.code : Int) ≠ c)
theorem src_low {c : Int} {lo hi h : Nat} {t : Ct} (I : SrcI c lo hi) (ht : tabS[h]? = some t) (hc : (t.code : Int) < c) : SrcI c (h + 1) hi := fun j u hu =>
  ⟨fun hj => by have := tabS_mono hu ht (by omega); omega, (I j u hu).2⟩
theorem src_high {c : Int} {lo hi h : Nat} {t : Ct} (I : SrcI c lo hi) (ht : tabS[h]? = some t) (hc : ¬ (t.code : Int) < c) : SrcI c lo h := fun j u hu =>
  ⟨(I j u hu).1, fun hj => by have := tabS_mono ht hu hj; omega⟩
theorem src_end {c : Int} {i : Nat} (I : SrcI c i i) (hi : i = 40) : SrcR c i false := ⟨(fun e => nomatch e), fun _ t ht e => by
  obtain ⟨j, hj, rfl⟩ := List.getElem_of_mem ht
  have h40 : j < 40 := hj
  have := (I j _ (List.getElem?_eq_getElem hj)).1 (by omega)
  omega⟩
theorem src_at {c : Int} {i : Nat} {t : Ct} (I : SrcI c i i) (ht : tabS[i]? = some t) : SrcR c i (cmpI t.code c == 0) := by
  have h0 := (I i t ht).2 (Nat.le_refl _)
  unfold cmpI
  by_cases h1 : c < (t.code : Int)
  · rw [if_neg (by omega), if_pos h1]
    refine ⟨(fun e => by simp at e), fun _ u hu e => ?_⟩
    obtain ⟨j, hj, rfl⟩ := List.getElem_of_mem hu
    have hj' := List.getElem?_eq_getElem hj
    by_cases hlt : j < i
    · have := (I j _ hj').1 hlt; omega
    · have := tabS_mono ht hj' (by omega); omega
  · rw [if_neg (by omega), if_neg h1]
    exact ⟨fun _ => ⟨t, ht, by omega⟩, (fun e => by simp at e)⟩
set_option maxRecDepth 100000 in
set_option maxHeartbeats 4000000 in
theorem search_any (b : Nat) (c : Int) (w : World) (hT : TabAt w b) :
    Calls Tryd.prog 37 #[.slice (some ⟨b, 0, none⟩) 40 40, .int .i64 c, .func (.func 38) #[] #[]] w
      fun e W => ∃ (i : Nat) (f : Bool), e = .returned (.tuple #[.int .i64 (i : Nat), .bool f]) ∧ i ≤ 40 ∧ SrcR c i f ∧ Below w.heap.size w W := by
  have HT := Lib.hid hT
  clear hT
  go_in
  go_wp2_with fail
  go_loopg [9, 10] 40 (fun gk s9 s10 wr => ∃ lo hi : Nat, s9 = .int .i64 (lo : Nat) ∧ s10 = .int .i64 (hi : Nat) ∧ lo ≤ hi ∧ hi ≤ 40 ∧ gk = hi - lo ∧ Below w.heap.size w wr ∧ Hid (SrcI c lo hi))
  case atStart => exact ⟨0, 40, rfl, rfl, by omega, by omega, rfl, Below.refl _ _, Lib.hid (fun j t ht => ⟨(fun h => absurd h (Nat.not_lt_zero _)), fun h => by have := (List.getElem?_eq_some_iff.1 ht).1; rw [tabS_length] at this; omega⟩)⟩
  case round =>
    obtain ⟨lo, hi, rfl, rfl, hlh, h40, rfl, hB, I⟩ := hrel
    have TW := HT.out.below hB
    have LB := Lib.hid hB
    clear hB
    by_cases hlt : lo < hi
    · obtain ⟨t, ht⟩ : ∃ t, tabS[(lo + hi) / 2]? = some t := ⟨_, List.getElem?_eq_getElem (by rw [tabS_length]; omega)⟩
      obtain ⟨c0, c1, c2, c3, c4⟩ := TW.cells ht
      have C := Lib.hid (compare_any t c wr)
      have HTm := Lib.hid ht
      clear TW ht
      have l1 : ¬ (lo + hi) / 2 ≥ 40 := by omega
      by_cases hc : (t.code : Int) < c
      · have e : cmpI t.code c = -1 := if_pos hc
        have HC := Lib.hid hc
        clear hc
        rw [e] at C
        clear e
        go_wp2_with (go_at_call 38; refine (C.out).mono ?_; rintro e W ⟨rfl, hb⟩)
        go_roundg (hi - ((lo + hi) / 2 + 1))
        case measure => omega
        case rel => exact ⟨(lo + hi) / 2 + 1, hi, by rw [show ((lo : Int) + (hi : Int)) / 2 + 1 = (((lo + hi) / 2 + 1 : Nat) : Int) by omega], rfl, by omega, h40, rfl, LB.out.trans (hb.mono LB.out.size), Lib.hid (src_low I.out HTm.out HC.out)⟩
      · have HC := Lib.hid hc
        have e : 0 ≤ cmpI t.code c := by unfold cmpI; rw [if_neg hc]; split <;> omega
        obtain ⟨z, hz⟩ : ∃ z, cmpI t.code c = z := ⟨_, rfl⟩
        rw [hz] at C e
        clear hc hz
        go_wp2_with (go_at_call 38; refine (C.out).mono ?_; rintro e W ⟨rfl, hb⟩)
        go_roundg ((lo + hi) / 2 - lo)
        case measure => omega
        case rel => exact ⟨lo, (lo + hi) / 2, rfl, by rw [show ((lo : Int) + (hi : Int)) / 2 = (((lo + hi) / 2 : Nat) : Int) by omega], by omega, by omega, rfl, LB.out.trans (hb.mono LB.out.size), Lib.hid (src_high I.out HTm.out (Int.not_lt.2 HC.out))⟩
    · obtain rfl : hi = lo := by omega
      clear hlt hlh
      by_cases h4 : hi = 40
      · subst h4
        have R := Lib.hid (src_end I.out rfl)
        clear TW
        go_wp2_with fail
        go_ret2
        exact ⟨40, false, rfl, Nat.le_refl _, R.out, LB.out⟩
      · obtain ⟨t, ht⟩ : ∃ t, tabS[hi]? = some t := ⟨_, List.getElem?_eq_getElem (by rw [tabS_length]; omega)⟩
        obtain ⟨c0, c1, c2, c3, c4⟩ := TW.cells ht
        have R := Lib.hid (src_at I.out ht)
        have C := Lib.hid (compare_any t c wr)
        obtain ⟨z, hz⟩ : ∃ z, cmpI t.code c = z := ⟨_, rfl⟩
        rw [hz] at C R
        have l1 : hi < 40 := by omega
        clear TW ht hz h4
        go_wp2_with (go_at_call 38; refine (C.out).mono ?_; rintro e W ⟨rfl, hb⟩)
        go_ret2
        exact ⟨hi, _, rfl, by omega, R.out, LB.out.trans (hb.mono LB.out.size)⟩
open Go.RowKit

theorem zero_ct : ctC Ct.zero = #[.int .i64 0, .int .i64 0, .int .i64 0, .bool false, .bool false] := rfl
theorem ctC_one (t : Ct) : (ctC t).all (·.oneCell') = true := by simp [ctC, Value.oneCell']
theorem src_no {c : Int} {i : Nat} (h : SrcR c i false) : ofT c = (Ct.zero, false) := by
  unfold ofT
  rw [of_none fun t ht => h.2 rfl t ((tabS_mem t).2 ht)]
theorem src_yes {c : Int} {i : Nat} (h : SrcR c i true) : ∃ t, tabS[i]? = some t ∧ ofT c = (t, true) := by
  obtain ⟨t, ht, hc⟩ := h.1 rfl
  refine ⟨t, ht, ?_⟩
  unfold ofT
  rw [of_some ((tabS_mem t).1 (List.mem_of_getElem? ht)) hc]
/-- A block that was laid ahead of two calls. -/
theorem kept_two {w W1 W2 : World} {o o' : Obj} (h1 : Below (w.alloc o).heap.size (w.alloc o) W1) (h2 : Below (W1.alloc o').heap.size (W1.alloc o') W2) :
    W2.heap[w.heap.size]? = some o ∧ Below w.heap.size w W2 := by
  have hs := h1.size
  rw [World.size_alloc] at hs
  have hb := below_box (w := W1) o'
  have hz := hb.size
  refine ⟨(h2.block _ (by omega)).trans ((hb.block _ (by omega)).trans ((h1.block _ (by simp)).trans (heap_alloc_new w o))), ?_⟩
  exact ((below_box (w := w) o).trans (h1.mono (by simp))).trans ((hb.mono (by omega)).trans (h2.mono (by omega)))
set_option maxRecDepth 100000 in
set_option maxHeartbeats 2000000 in
theorem of_any (c : Int) (w : World) : Calls Tryd.prog 13 #[.int .i64 c] w fun e W => e = .returned (.tuple #[.agg (ctC (ofT c).1), .bool (ofT c).2]) ∧ Below w.heap.size w W := by
  have T1 := Lib.hid tabS_cells
  have S := Lib.hid (fun b W (h : TabAt W b) => search_any b c W h)
  have HTab := Lib.hid (fun W => table_any W)
  go_in
  go_wp2_with (first
    | (go_at_call 36; refine (HTab.out _).mono ?_; rintro e W1 ⟨rfl, hb1⟩)
    | (refine wpList_store_row rfl _ _ _ rfl W1.heap.size (ctCs tabS) rfl rfl 59 Tryd.zeroCells59 (heap_alloc_new W1 _) (by rw [T1.out.1]; exact info_tab) (by rw [T1.out.1]; exact zero_tab) T1.out.2 ?_
       rw [World.setRow_alloc_new]))
  refine (S.out _ _ (heap_alloc_new W1 _)).mono ?_
  rintro e W2 ⟨i, f, rfl, hi, R, hb2⟩
  obtain ⟨G, HB⟩ := kept_two hb1 hb2
  replace G := Lib.hid G
  replace HB := Lib.hid HB
  have TW := Lib.hid (TabAt.below (heap_alloc_new W1 _) hb2)
  clear hb1 hb2 S HTab T1
  cases f
  · have E := Lib.hid (src_no R)
    clear R
    go_wp2_with (refine wpList_store_row rfl _ _ _ rfl w.heap.size (ctC Ct.zero) rfl rfl 32 _ G.out info_ct rfl (ctC_one _) ?_)
    refine ret_row2 (cs := ctC Ct.zero) rfl rfl rfl rfl Tryd.underlying32 rfl info_ct (setRow_heap _ _ _ _ _ _ G.out) ?_
    rw [E.out]
    exact ⟨rfl, belowRow HB.out (Nat.le_refl _) _⟩
  · obtain ⟨t, ht, e⟩ := src_yes R
    obtain ⟨c0, c1, c2, c3, c4⟩ := TW.out.cells ht
    have E := Lib.hid e
    have hi4 : i < 40 := (List.getElem?_eq_some_iff.1 ht).1
    clear R e ht hi
    go_wp2_with (refine wpList_store_row rfl _ _ _ rfl w.heap.size (ctC t) rfl rfl 32 _ G.out info_ct rfl (ctC_one _) ?_)
    refine ret_row2 (cs := ctC t) rfl rfl rfl rfl Tryd.underlying32 rfl info_ct (setRow_heap _ _ _ _ _ _ G.out) ?_
    rw [E.out]
    exact ⟨rfl, belowRow HB.out (Nat.le_refl _) _⟩
end Go.Proofs.YtjbgnlnchchgcaaDoor
