/-
  The contract of limits.sorted: the numbers in order, in new memory. Condition: at most 100,000 numbers.
-/
import Derived.Test.YtecadfnajogffaaShSort
import Derived.Test.YtecadfnajogffaaChkRow
namespace Go.Proofs.Ytecadfnajogffaa
open Go.RowKit

/-- What sorted returns. -/
def SrtRet (w : World) (n : Nat) (zs : List Int) (e : Ending) (W : World) : Prop :=
  ∃ g c, e = .returned (.slice (some ⟨g, 0, none⟩) n c) ∧ IR W (some ⟨g, 0, none⟩) (sortL zs) ∧ Below w.heap.size w W
theorem infoInt : (Try.prog.info? 3).map (fun i => (i.zero, i.size, i.bytes)) = some (some (.int .i64 0), 1, 8) := by kernel_rfl
theorem heap_putRow {α : Type} [Inhabited α] (enc : α → Value) (w : World) (g o : Nat) (d : Array α) {k : Nat} (hk : k ≠ g) : (Go.Sort.putRow enc w g o d).heap[k]? = w.heap[k]? := by
  unfold Go.Sort.putRow Go.Sort.mapBlock
  rw [Array.getElem?_modify, if_neg (fun e => hk e.symm)]
theorem cell_block {W : World} {g j : Nat} {cur : Array Value} {t : TypeId} (h : W.heap[g]? = some (.cells cur t (0, 0))) : W.cell? ⟨g, j, none⟩ = cur[j]? := by
  unfold World.cell?
  simp [h]
theorem frozen_block {W : World} {g j : Nat} {cur : Array Value} {t : TypeId} (h : W.heap[g]? = some (.cells cur t (0, 0))) : W.frozen? ⟨g, j, none⟩ = false := by
  unfold World.frozen?
  simp [h]
/-- A row made, before anything is written into it. -/
theorem made_row {w W : World} {g n : Nat} {xs : List Value} (h : W.ownsRow w.heap.size 3 1 (.slice (some ⟨g, 0, none⟩) n n) n xs) : g < W.heap.size ∧ w.heap.size ≤ g ∧ ∀ j, j < n → (W.cell? ⟨g, 0 + j, none⟩).isSome = true ∧ W.frozen? ⟨g, 0 + j, none⟩ = false := by
  rcases h.2 with ⟨h0, _⟩ | ⟨g', cap, cur, e, h2, h3, _, _, h6, _⟩
  · cases h0
  · cases e
    refine ⟨(Array.getElem?_eq_some_iff.1 h3).1, h2, fun j hj => ⟨?_, frozen_block h3⟩⟩
    rw [cell_block h3, Nat.zero_add, Array.getElem?_eq_getElem (by omega)]
    rfl
theorem copy_nothing {W : World} {A : Option Addr} {c d g : Nat} (hi : (Try.prog.info? 3).map (fun x => x.size) = some 1) :
    (Builtin.copy_ #[22, 22] 3 #[.slice (some ⟨g, 0, none⟩) 0 d, .slice A 0 c]).run Try.prog W = .ok (goInt 0) W := by
  cases A with
  | none => rfl
  | some a => exact run_copy_cells (P := Try.prog) W 22 22 3 3 g 0 0 d a 0 c [] Try.underlying22 hi rfl (fun j v hv => by cases hv) (fun j hj => absurd hj (Nat.not_lt_zero _)) (fun j hj => absurd hj (Nat.not_lt_zero _)) (fun v hv => by cases hv)
/-- The copy into a row that was made. -/
theorem copy_made {W : World} {A : Option Addr} {c d n g : Nat} {zs : List Int} (hA : IR W A zs) (hn : zs.length = n) (hm : ∀ j, j < n → (W.cell? ⟨g, 0 + j, none⟩).isSome = true ∧ W.frozen? ⟨g, 0 + j, none⟩ = false) :
    (Builtin.copy_ #[22, 22] 3 #[.slice (some ⟨g, 0, none⟩) n d, .slice A n c]).run Try.prog W = .ok (goInt n) (W.setCells g 0 (zcs zs)) ∧ Go.Sort.Holds (Value.int .i64) (W.setCells g 0 (zcs zs)) g 0 zs.toArray := by
  subst hn
  obtain ⟨i0, hi, hz0, hz1, hz2⟩ := info_parts infoInt
  have H : Go.Sort.Holds (Value.int .i64) (W.setCells g 0 (zcs zs)) g 0 zs.toArray := fun j hj => by
    rw [List.size_toArray] at hj
    refine ⟨?_, (World.frozen?_setCells ..).trans (hm j hj).2⟩
    rw [World.cell?_setCells_in g (zcs zs) 0 W (fun k hk => (hm k (by rwa [zcs_length] at hk)).1) j (by rw [zcs_length]; exact hj)]
    simp [zcs, hj]
  cases hz : zs with
  | nil => subst hz; exact ⟨copy_nothing (by rw [hi, Option.map_some, hz1]), H⟩
  | cons z r =>
    rw [← hz]
    obtain ⟨a, rfl, hg, hc⟩ := hA (by rw [hz]; exact Nat.succ_pos _)
    refine ⟨?_, H⟩
    have h := run_copy_cells (P := Try.prog) W 22 22 3 3 g 0 zs.length d a zs.length c (zcs zs) Try.underlying22 (by rw [hi, Option.map_some, hz1]) (by rw [zcs_length]; exact (Nat.min_self _).symm) (fun j v hv => by
      have hj : j < zs.length := by
        have := (List.getElem?_eq_some_iff.1 hv).1
        rwa [zcs_length] at this
      rw [hc j hj, ← hv, zcs_get hj]) (fun j hj => (hm j (by rwa [zcs_length] at hj)).1) (fun j hj => (hm j (by rwa [zcs_length] at hj)).2) (zcs_one zs)
    rw [zcs_length] at h
    exact h
theorem size_cells (b : Nat) : ∀ (vs : List Value) (o : Nat) (W : World), (W.setCells b o vs).heap.size = W.heap.size
  | [], _, _ => rfl
  | v :: vs, o, W => by
    rw [World.setCells, size_cells b vs]
    simp [World.setCell]
/-- What the sort leaves. -/
theorem SrtRet.put {w W W' : World} {g : Nat} {zs : List Int} (hb : Below w.heap.size w W) (hw : w.heap.size ≤ g) (hg : g < W.heap.size) (hH : Go.Sort.Holds (Value.int .i64) W g 0 zs.toArray)
    (h : ∃ m os, W' = Go.Sort.grow (Go.Sort.putRow (Value.int .i64) (Go.Sort.ahead W m) g 0 (zs.mergeSort fun x y => decide (x ≤ y)).toArray) os) :
    IR W' (some ⟨g, 0, none⟩) (sortL zs) ∧ Below w.heap.size w W' := by
  obtain ⟨m, os, rfl⟩ := h
  have hL : (sortL zs).toArray.size = zs.toArray.size := by rw [List.size_toArray, List.size_toArray, sort_length]
  refine ⟨fun _ => ⟨_, rfl, ?_, fun i hi => ?_⟩, ⟨hb.os, hb.tape, hb.output, ?_, fun k hk => ?_⟩⟩
  · show g < (_ ++ os).size
    rw [Array.size_append, Go.Sort.size_putRow]
    exact Nat.lt_of_lt_of_le hg (Nat.le_add_right _ _)
  · rw [Addr.add_lit]
    have h1 := Go.Sort.cell?_putRow (Value.int .i64) (Go.Sort.ahead W m) g 0 zs.toArray (sortL zs).toArray hH hL i (by rw [List.size_toArray]; exact hi)
    have e : (sortL zs).toArray[i]! = (sortL zs).getD i 0 := by simp [List.getD, hi]
    rw [e] at h1
    refine (World.cell?_of_block (a := ⟨g, 0 + i, none⟩) ?_).trans h1
    exact Array.getElem?_append_left (by rw [Go.Sort.size_putRow]; exact hg)
  · show _ ≤ (_ ++ os).size
    rw [Array.size_append, Go.Sort.size_putRow]
    exact Nat.le_trans hb.size (Nat.le_add_right _ _)
  · refine (Array.getElem?_append_left (by rw [Go.Sort.size_putRow]; exact Nat.lt_of_lt_of_le hk hb.size)).trans ?_
    rw [heap_putRow _ _ _ _ _ (by omega)]
    exact hb.block k hk
set_option maxHeartbeats 1000000 in
theorem sorted_any (A : Option Addr) (n c : Nat) (zs : List Int) (w : World) (hA : IR w A zs) (hn : zs.length = n) (hl : n ≤ 100000) :
    Calls Try.prog 9 #[.slice A n c] w (SrtRet w n zs) := by
  obtain ⟨i0, hi, hz0, hz1, hz2⟩ := info_parts infoInt
  have HA := Lib.hid hA
  have HN := Lib.hid hn
  have HL := Lib.hid hl
  have HB := Lib.hid (show i0.bytes * n ≤ 281474976710656 by rw [hz2]; omega)
  clear hA hl hn
  go_enter Try.func9, Try.ntmps9
  go_wp2_with (refine wpList_make_full w rfl _ _ 22 rfl w.heap.size 3 i0 (.int .i64 0) 1 Try.underlying22 hi hz0 hz1 .i64 .i64 (n : Int) (n : Int) n rfl rfl rfl rfl HB.out (by have := HL.out; simp only [maxLen]; omega) (Nat.le_refl _) ?_; intro w1 hown hgrow)
  obtain ⟨hg, hw, hm⟩ := made_row hown
  have LB := Lib.hid (show Below w.heap.size w w1 from (Below.refl _ _).grown hgrow (Nat.le_refl _) (fun j hj => by cases hj))
  obtain ⟨hrun, hH⟩ := copy_made (c := c) (d := n) (HA.out.kept LB.out) HN.out hm
  have LB2 := Lib.hid (below_cells hw (zcs zs) 0 w1 LB.out)
  have hg2 : w.heap.size < (w1.setCells w.heap.size 0 (zcs zs)).heap.size := by rw [size_cells]; exact hg
  obtain ⟨W2, hW2⟩ : ∃ W2, w1.setCells w.heap.size 0 (zcs zs) = W2 := ⟨_, rfl⟩
  rw [hW2] at hrun hH hg2 LB2
  have FIN := fun W' h => SrtRet.put (W' := W') LB2.out hw hg2 hH h
  have SRT : Calls Try.prog 10 _ _ _ := Any.slices_Sort_int lays189 w.heap.size 0 n zs W2 hH hg2 (by rw [HN.out]; have := HL.out; omega)
  rw [HN.out] at SRT
  have SRT := Lib.hid SRT
  have FIN := Lib.hid FIN
  clear hown hgrow hm hH hg hg2 LB2 hW2
  rw [hrun]
  clear hrun
  go_wp2_with fail
  refine SRT.out.mono ?_
  rintro e W3 ⟨rfl, h3⟩
  have F := Lib.hid (FIN.out W3 h3)
  go_wp2_with fail
  go_ret
  exact ⟨_, _, rfl, F.out.1, F.out.2⟩
end Go.Proofs.Ytecadfnajogffaa
