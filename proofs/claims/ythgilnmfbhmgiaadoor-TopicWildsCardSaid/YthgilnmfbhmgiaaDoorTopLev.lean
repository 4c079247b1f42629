/-
  The contracts of topic.Levels and topic.Join, and of a list of strings as it lies in memory. Condition: a string shorter than 4,000,000,000 bytes.
-/
import Derived.Test.YthgilnmfbhmgiaaDoorShStr
import Derived.Test.YthgilnmfbhmgiaaDoorTopCut
namespace Go.Proofs.YthgilnmfbhmgiaaDoor
open Go.RowKit Go.Shelf

/-- A list of strings as cells. -/
def strs (ls : List (List UInt8)) : List Value := ls.map fun l => .string (bs l)
/-- The list of strings ls lies behind the address A. -/
def SR (W : World) (A : Option Addr) (ls : List (List UInt8)) : Prop :=
  ls ≠ [] → ∃ g i, A = some ⟨g, i, none⟩ ∧ g < W.heap.size ∧ ∀ j, j < ls.length → W.cell? ⟨g, i + j, none⟩ = some (.string (bs (ls.getD j [])))
theorem SR.kept {W W' : World} {A : Option Addr} {ls : List (List UInt8)} (h : SR W A ls) (hb : Below W.heap.size W W') : SR W' A ls := fun hne => by
  obtain ⟨g, i, e, hg, hc⟩ := h hne
  exact ⟨g, i, e, Nat.lt_of_lt_of_le hg hb.size, fun j hj => (hb.cell (p := ⟨g, i + j, none⟩) hg).trans (hc j hj)⟩
theorem SR.draws {W : World} {A : Option Addr} {ls : List (List UInt8)} (h : SR W A ls) (n : Nat) : SR (W.drewN n) A ls := h
theorem SR.nil {W : World} {A : Option Addr} : SR W A [] := fun h => absurd rfl h
theorem strs_get (ls : List (List UInt8)) (j : Nat) (h : j < ls.length) : (strs ls).toArray[j]? = some (.string (bs (ls.getD j []))) := by
  simp [strs, List.getD, List.getElem?_eq_getElem h]
theorem SR.alloc {W : World} {ls : List (List UInt8)} (t : TypeId) : SR (W.alloc (.cells (strs ls).toArray t)) (some ⟨W.heap.size, 0, none⟩) ls := fun _ =>
  ⟨_, _, rfl, by simp, fun j hj => by rw [Nat.zero_add, World.cell?_alloc_at _ _ _ _ rfl]; exact strs_get ls j hj⟩
theorem bs_mk (s : ByteArray) : bs s.data.toList = s := rfl
theorem bs_data (l : List UInt8) : (bs l).data.toList = l := rfl
theorem bs_size (l : List UInt8) : (bs l).size = l.length := by simp [bs, ByteArray.size]

set_option maxHeartbeats 1000000 in
theorem split_slash (s : ByteArray) (w : World) (hs : s.size < 4000000000) :
    Calls Tryd.prog 29 #[.string s, .string ⟨#[47]⟩] w fun e w' =>
      e = .returned (.slice (some ⟨w.heap.size, 0, none⟩) (lvls s.data.toList).length (lvls s.data.toList).length) ∧ w' = w.alloc (.cells (strs (lvls s.data.toList)).toArray 9) := by
  have hle := Lib.countB_le ⟨#[47]⟩ (by decide) s.size s (Nat.le_refl _)
  have hlen := Lib.splitB_all ⟨#[47]⟩ (by decide) 0 _ s rfl
  have c : Calls Tryd.prog 38 #[.string s, .string ⟨#[47]⟩, .int .i64 0, .int .i64 (-1)] w fun e w' =>
      e = .returned (.slice (some ⟨w.heap.size, 0, none⟩) (Lib.splitB ⟨#[47]⟩ 0 (Lib.countB s ⟨#[47]⟩ + 1 - 1) s).length (Lib.countB s ⟨#[47]⟩ + 1)) ∧ w' = w.alloc (.cells (Lib.cellsOf (Lib.splitB ⟨#[47]⟩ 0 (Lib.countB s ⟨#[47]⟩ + 1 - 1) s) (Lib.countB s ⟨#[47]⟩ + 1)) 9) :=
    Any.strings_genSplit_core { lays146 with } (by kernel_rfl) s ⟨#[47]⟩ 0 (-1) (Lib.countB s ⟨#[47]⟩ + 1) w (by omega) (by decide) (by decide)
      (fun x c hx => (Any.strings_Index_one { lays146 with } x 47 _).mono fun e w' ⟨he, hw⟩ => ⟨by
        rw [he]
        have : Lib.indexByte x.data.toList 47 = Lib.indexB x ⟨#[47]⟩ := by
          show _ = Lib.index x.data.toList [47]
          rcases first_slash x.data.toList with h | ⟨a, b, h, h2⟩
          · rw [indexByte_no h, index_no h]
          · rw [h, indexByte_at a b h2, index_at a b h2]
        rw [this], hw⟩)
      ((Any.strings_Count_one { lays146 with } s 47 w).mono fun e w' ⟨he, hw⟩ => ⟨by
        rw [he]
        show _ = Ending.returned (Value.int .i64 ((Lib.count s.data.toList [47] : Nat) : Int))
        rw [Lib.count_one]
        rfl, hw⟩) (by decide) (by decide) (by rw [if_pos (by decide)]; omega)
  rw [Nat.add_sub_cancel, hlen, countB_lvls] at c
  have e2 : Lib.cellsOf (Lib.splitB ⟨#[47]⟩ 0 (Lib.countB s ⟨#[47]⟩) s) (lvls s.data.toList).length = (strs (lvls s.data.toList)).toArray := by
    rw [← countB_lvls, ← hlen, Lib.cellsOf_full, ← splitB_lvls, strs, List.map_map]
    rfl
  rw [e2] at c
  have c := Lib.hid c
  clear hle hlen e2
  go_enter Tryd.func29, Tryd.ntmps29
  go_wp2_with fail
  refine (c.out).mono ?_
  rintro e w' ⟨rfl, rfl⟩
  go_wp2_with fail
  go_ret
  exact ⟨rfl, rfl⟩
theorem levels_any (s : ByteArray) (w : World) (hs : s.size < 4000000000) :
    Calls Tryd.prog 14 #[.string s] w fun e w' =>
      e = .returned (.slice (some ⟨w.heap.size, 0, none⟩) (lvls s.data.toList).length (lvls s.data.toList).length) ∧ w' = w.alloc (.cells (strs (lvls s.data.toList)).toArray 9) := by
  have c := Lib.hid (split_slash s w hs)
  go_enter Tryd.func14, Tryd.ntmps14
  go_wp2_with fail
  refine (c.out).mono ?_
  rintro e w' ⟨rfl, rfl⟩
  go_wp2_with fail
  go_ret
  exact ⟨rfl, rfl⟩

theorem join_slash (A : Option Addr) (n c : Nat) (ls : List (List UInt8)) (w : World) (h : SR w A ls) (hn : n = ls.length) (hc : n ≤ c) (hl : (joins ls).length ≤ 4000000000) (hN : n ≤ 4000000000) :
    Calls Tryd.prog 30 #[.slice A n c, .string ⟨#[47]⟩] w fun e w' => e = .returned (.string (bs (joins ls))) ∧ Below w.heap.size w w' := by
  by_cases hne : ls = []
  · subst hne
    subst hn
    exact (Any.strings_Join_none lays156 Builder_Extra_156 A c ⟨#[47]⟩ w).mono fun e w' ⟨he, hw⟩ => ⟨he, hw ▸ Below.refl _ _⟩
  · obtain ⟨g, i, rfl, hg, hcell⟩ := h hne
    have e1 : (ls.map bs).map (·.data.toList) = ls := by rw [List.map_map]; simp [Function.comp_def, bs_data]
    have := Any.strings_Join lays156 Builder_Extra_156 g i c (ls.map bs) ⟨#[47]⟩ w (fun j x hx => by
      have hj : j < ls.length := by
        have := (List.getElem?_eq_some_iff.1 hx).1
        simpa using this
      rw [hcell j hj]
      rw [List.getElem?_map, List.getElem?_eq_getElem hj] at hx
      simp only [Option.map_some, Option.some.injEq] at hx
      rw [← hx]
      simp [List.getD, List.getElem?_eq_getElem hj]) hg (by simp; omega) (by simp; omega) (by rw [e1]; show (Lib.join ls [47]).length ≤ _; rw [join_joins]; omega)
    rw [e1, List.length_map] at this
    subst hn
    have e2 : Lib.join ls (ByteArray.mk #[47]).data.toList = joins ls := join_joins ls
    rw [e2] at this
    exact this
theorem join_any (A : Option Addr) (n c : Nat) (ls : List (List UInt8)) (w : World) (h : SR w A ls) (hn : n = ls.length) (hc : n ≤ c) (hl : (joins ls).length ≤ 4000000000) (hN : n ≤ 4000000000) :
    Calls Tryd.prog 15 #[.slice A n c] w fun e w' => e = .returned (.string (bs (joins ls))) ∧ Below w.heap.size w w' := by
  have c := Lib.hid (join_slash A n c ls w h hn hc hl hN)
  clear h hn hc hl hN
  go_enter Tryd.func15, Tryd.ntmps15
  go_wp2_with fail
  refine (c.out).mono ?_
  rintro e w' ⟨rfl, hb⟩
  go_wp2_with fail
  go_ret
  exact ⟨rfl, hb⟩
end Go.Proofs.YthgilnmfbhmgiaaDoor
