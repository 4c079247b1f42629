/-
  The contract of amqprim.Of. No condition.
-/
import Derived.Test.YtjbgnlnchchgcaaDoorAmCmp
namespace Go.Proofs.YtjbgnlnchchgcaaDoor
open Go.RowKit

theorem zero_ct : ctC Ct.zero = #[.int .i64 0, .int .i64 0, .int .i64 0, .bool false, .bool false] := rfl
theorem ctC_one (t : Ct) : (ctC t).all (·.oneCell') = true := by simp [ctC, Value.oneCell']
theorem src_no {c : Int} {i : Nat} (h : SrcR c i false) : ofT c = (Ct.zero, false) := by
  unfold ofT
  rw [of_none fun t ht => h.2 rfl t ((tabS_mem t).2 ht)]
theorem src_yes {c : Int} {i : Nat} (h : SrcR c i true) : ∃ t, tabS[i]? = some t ∧ ofT c = (t, true) := by
  obtain ⟨t, ht, hc⟩ := h.1 rfl
  refine ⟨t, ht, ?_⟩
  unfold ofT
  rw [of_some ((tabS_mem t).1 (List.mem_of_getElem? ht)) hc]
/-- A block that was laid ahead of two calls. -/
theorem kept_two {w W1 W2 : World} {o o' : Obj} (h1 : Below (w.alloc o).heap.size (w.alloc o) W1) (h2 : Below (W1.alloc o').heap.size (W1.alloc o') W2) :
    W2.heap[w.heap.size]? = some o ∧ Below w.heap.size w W2 := by
  have hs := h1.size
  rw [World.size_alloc] at hs
  have hb := below_box (w := W1) o'
  have hz := hb.size
  refine ⟨(h2.block _ (by omega)).trans ((hb.block _ (by omega)).trans ((h1.block _ (by simp)).trans (heap_alloc_new w o))), ?_⟩
  exact ((below_box (w := w) o).trans (h1.mono (by simp))).trans ((hb.mono (by omega)).trans (h2.mono (by omega)))
set_option maxRecDepth 100000 in
set_option maxHeartbeats 2000000 in
theorem of_any (c : Int) (w : World) : Calls Tryd.prog 13 #[.int .i64 c] w fun e W => e = .returned (.tuple #[.agg (ctC (ofT c).1), .bool (ofT c).2]) ∧ Below w.heap.size w W := by
  have T1 := Lib.hid tabS_cells
  have S := Lib.hid (fun b W (h : TabAt W b) => search_any b c W h)
  have HTab := Lib.hid (fun W => table_any W)
  go_in
  go_wp2_with (first
    | (go_at_call 36; refine (HTab.out _).mono ?_; rintro e W1 ⟨rfl, hb1⟩)
    | (refine wpList_store_row rfl _ _ _ rfl W1.heap.size (ctCs tabS) rfl rfl 59 Tryd.zeroCells59 (heap_alloc_new W1 _) (by rw [T1.out.1]; exact info_tab) (by rw [T1.out.1]; exact zero_tab) T1.out.2 ?_
       rw [World.setRow_alloc_new]))
  refine (S.out _ _ (heap_alloc_new W1 _)).mono ?_
  rintro e W2 ⟨i, f, rfl, hi, R, hb2⟩
  obtain ⟨G, HB⟩ := kept_two hb1 hb2
  replace G := Lib.hid G
  replace HB := Lib.hid HB
  have TW := Lib.hid (TabAt.below (heap_alloc_new W1 _) hb2)
  clear hb1 hb2 S HTab T1
  cases f
  · have E := Lib.hid (src_no R)
    clear R
    go_wp2_with (refine wpList_store_row rfl _ _ _ rfl w.heap.size (ctC Ct.zero) rfl rfl 32 _ G.out info_ct rfl (ctC_one _) ?_)
    refine ret_row2 (cs := ctC Ct.zero) rfl rfl rfl rfl Tryd.underlying32 rfl info_ct (setRow_heap _ _ _ _ _ _ G.out) ?_
    rw [E.out]
    exact ⟨rfl, belowRow HB.out (Nat.le_refl _) _⟩
  · obtain ⟨t, ht, e⟩ := src_yes R
    obtain ⟨c0, c1, c2, c3, c4⟩ := TW.out.cells ht
    have E := Lib.hid e
    have hi4 : i < 40 := (List.getElem?_eq_some_iff.1 ht).1
    clear R e ht hi
    go_wp2_with (refine wpList_store_row rfl _ _ _ rfl w.heap.size (ctC t) rfl rfl 32 _ G.out info_ct rfl (ctC_one _) ?_)
    refine ret_row2 (cs := ctC t) rfl rfl rfl rfl Tryd.underlying32 rfl info_ct (setRow_heap _ _ _ _ _ _ G.out) ?_
    rw [E.out]
    exact ⟨rfl, belowRow HB.out (Nat.le_refl _) _⟩
end Go.Proofs.YtjbgnlnchchgcaaDoor
