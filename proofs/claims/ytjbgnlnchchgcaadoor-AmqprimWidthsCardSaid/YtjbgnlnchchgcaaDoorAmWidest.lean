/-
  The contracts of amqprim.Codes and widest. No condition. The contract of amqprim.widest. No condition.
-/
import Derived.Test.YtjbgnlnchchgcaaDoorAmOf
import Derived.Test.YtjbgnlnchchgcaaDoorAmRow
namespace Go.Proofs.YtjbgnlnchchgcaaDoor
open Go.RowKit

/-- The codes of a kind. -/
def codeL (l : List Ct) (k : Int) : List Nat := (l.filter fun t => (t.kind : Int) == k).map (·.code)
theorem codeL_take {k : Int} {i : Nat} {t : Ct} (ht : tabS[i]? = some t) : codeL (tabS.take (i + 1)) k = codeL (tabS.take i) k ++ (if ((t.kind : Int) == k) = true then [t.code] else []) := by
  obtain ⟨h, e⟩ := List.getElem?_eq_some_iff.1 ht
  rw [List.take_succ_eq_append_getElem h, e]
  unfold codeL
  rw [List.filter_append, List.map_append]
  congr 1
  simp only [List.filter_cons, List.filter_nil]
  split <;> rfl
theorem codeL_len (k : Int) (i : Nat) : (codeL (tabS.take i) k).length ≤ 40 := by
  unfold codeL
  rw [List.length_map]
  exact Nat.le_trans (List.length_filter_le _ _) (Nat.le_trans (List.length_take_le' _ _) (Nat.le_of_eq tabS_length))
theorem ct_at {i : Nat} {t : Ct} (ht : tabS[i]? = some t) : (ctCs tabS).extract (i * 5) (i * 5 + 5) = ctC t := by
  apply Array.ext_getElem?
  intro j
  have hi : i < 40 := (List.getElem?_eq_some_iff.1 ht).1
  have hs := tabS_cells.1
  by_cases hj : j < 5
  · rw [Array.getElem?_extract, if_pos (by omega)]
    obtain ⟨u, hu⟩ : ∃ u, (ctC t)[j]? = some u := ⟨_, Array.getElem?_eq_getElem hj⟩
    rw [hu, ctCs_get _ _ _ ht j u hu]
  · rw [Array.getElem?_eq_none (by simp; omega), Array.getElem?_eq_none (by show 5 ≤ j; omega)]
theorem run_index_tab {i : Nat} {t : Ct} (ht : tabS[i]? = some t) (W : World) : (Instr.index 59 (.agg (ctCs tabS)) (.int .i64 (i : Nat))).run Tryd.prog W = .ok (.agg #[.int .i64 (t.code : Nat), .int .i64 (t.kind : Nat), .int .i64 (t.width : Nat), .bool t.sized, .bool t.items]) W := by
  have hi : i < 40 := (List.getElem?_eq_some_iff.1 ht).1
  have hn : 0 ≤ (i : Int) ∧ (i : Int) < ((40 : Nat) : Int) := by omega
  have e := ct_at ht
  unfold ctC at e
  rw [← e]
  simp [Instr.index, run_underlying Tryd.underlying59, asIntOf, hn, go_sem, part, Tryd.isAgg32, Tryd.sizeOf32]
  intro h
  omega
set_option maxRecDepth 100000 in
set_option maxHeartbeats 2000000 in
theorem codes_any (k : Int) (w : World) : Calls Tryd.prog 18 #[.int .i64 k] w fun e W => ∃ v, e = .returned v ∧ RowA W v (codeL tabS k) ∧ Below w.heap.size w W := by
  have HTab := Lib.hid (fun W => table_any W)
  have T1 := Lib.hid tabS_cells
  go_in
  go_wp2_with (go_at_call 36; refine (HTab.out _).mono ?_; rintro e W1 ⟨rfl, hb1⟩)
  have HB1 := Lib.hid hb1
  clear hb1 HTab
  go_loopg [3, 7] 40 (fun gk s3 s7 wr => ∃ i : Nat, i ≤ 40 ∧ gk = 40 - i ∧ s7 = .int .i64 (i : Nat) ∧ AmS w (codeL (tabS.take i) k) s3 wr)
  case atStart => exact ⟨0, by omega, rfl, rfl, (AmS.start w).call HB1.out⟩
  case round =>
    obtain ⟨i, hi, rfl, rfl, hS⟩ := hrel
    by_cases hlt : i < 40
    · obtain ⟨t, ht⟩ : ∃ t, tabS[i]? = some t := ⟨_, List.getElem?_eq_getElem (by rw [tabS_length]; omega)⟩
      have HS := Lib.hid hS
      have hx := fun W => run_index_tab ht W
      have hK := codeL_take (k := k) ht
      have hL := codeL_len k i
      have HL := Lib.hid hlt
      clear hS ht
      by_cases hk : (t.kind : Int) = k
      · subst hk
        rw [if_pos (by simp)] at hK
        obtain ⟨x', W', hrun, SN⟩ := (HS.out.call (below_box (.cells (ctC t) 32))).app t.code (by omega) 0
        rw [← hK] at SN
        replace hrun : (Builtin.append_ #[41, 41] 41 #[u3, .slice (some ⟨(wr.alloc (.cells (ctC t) 32)).heap.size, 0, none⟩) 1 1]).run Tryd.prog ((wr.alloc (.cells (ctC t) 32)).alloc (.cells #[.int .i64 (t.code : Nat)] 3)) = .ok x' W' := hrun
        have SN := Lib.hid SN
        rw [World.size_alloc] at hrun
        unfold ctC at hrun
        clear hK hL HS
        go_wp2_with (at_builtin; refine wpList_of_app rfl _ _ _ _ rfl rfl rfl hrun ?_)
        go_roundg (40 - (i + 1))
        case measure => have := HL.out; omega
        case rel => exact ⟨i + 1, HL.out, rfl, by go_num, SN.out⟩
      · have hb : ((t.kind : Int) == k) = false := by simpa using hk
        rw [hb, if_neg (by simp), List.append_nil] at hK
        rw [← hK] at HS
        clear hK hL
        go_wp2_with fail
        go_roundg (40 - (i + 1))
        case measure => have := HL.out; omega
        case rel => exact ⟨i + 1, HL.out, rfl, by go_num, HS.out.call (below_box _)⟩
    · obtain rfl : i = 40 := by omega
      have e : tabS.take 40 = tabS := List.take_of_length_le (Nat.le_of_eq tabS_length)
      rw [e] at hS
      have HS := Lib.hid hS
      clear hS
      go_wp2_with fail
      go_ret
      exact ⟨_, rfl, HS.out.row, HS.out.low⟩
open Go.RowKit

/-- The last constructor of a kind. -/
def lastK (l : List Ct) (k : Int) : Ct := l.foldl (fun a t => if (t.kind : Int) = k then t else a) Ct.zero
theorem lastK_take {k : Int} {i : Nat} {t : Ct} (ht : tabS[i]? = some t) : lastK (tabS.take (i + 1)) k = if (t.kind : Int) = k then t else lastK (tabS.take i) k := by
  obtain ⟨h, e⟩ := List.getElem?_eq_some_iff.1 ht
  rw [List.take_succ_eq_append_getElem h, e]
  unfold lastK
  rw [List.foldl_append]; rfl
/-- What stands while the table is gone through. -/
structure WdS (w : World) (t : Ct) (W : World) : Prop where
  low : Below w.heap.size w W
  res : W.heap[w.heap.size]? = some (.cells (ctC Ct.zero) 32 (0, 0))
  last : W.heap[w.heap.size + 1]? = some (.cells (ctC t) 32 (0, 0))
theorem WdS.call {w W W' : World} {t : Ct} (h : WdS w t W) (hb : Below W.heap.size W W') : WdS w t W' :=
  ⟨h.low.trans (hb.mono h.low.size), (hb.block _ (lt_of_block h.res)).trans h.res, (hb.block _ (lt_of_block h.last)).trans h.last⟩
theorem WdS.set {w W : World} {t : Ct} (h : WdS w t W) (u : Ct) : WdS w u (W.setRow (w.heap.size + 1) (ctC u)) :=
  ⟨belowRow h.low (Nat.le_succ _) _, (setRow_other _ _ _ _ (by omega)).trans h.res, setRow_heap _ _ _ _ _ _ h.last⟩
set_option maxRecDepth 100000 in
set_option maxHeartbeats 2000000 in
theorem widest_any (k : Int) (w : World) : Calls Tryd.prog 33 #[.int .i64 k] w fun e W => e = .returned (.agg (ctC (lastK tabS k))) ∧ Below w.heap.size w W := by
  have HTab := Lib.hid (fun W => table_any W)
  have S0 : WdS w Ct.zero ((w.alloc (.cells (ctC Ct.zero) 32)).alloc (.cells (ctC Ct.zero) 32)) :=
    ⟨(below_box (w := w) _).trans ((below_box _).mono (by simp)), (heap_alloc_old _ _ (by simp)).trans (heap_alloc_new w _), by have := heap_alloc_new (w.alloc (.cells (ctC Ct.zero) 32)) (.cells (ctC Ct.zero) 32); rwa [World.size_alloc] at this⟩
  have S0 := Lib.hid S0
  go_in
  go_wp2_with (go_at_call 36; refine (HTab.out _).mono ?_; rintro e W1 ⟨rfl, hb1⟩)
  have S1 := Lib.hid (S0.out.call hb1)
  clear hb1 HTab S0
  go_loopg [7] 40 (fun gk s7 wr => ∃ i : Nat, i ≤ 40 ∧ gk = 40 - i ∧ s7 = .int .i64 (i : Nat) ∧ WdS w (lastK (tabS.take i) k) wr)
  case atStart => exact ⟨0, by omega, rfl, rfl, S1.out⟩
  case round =>
    obtain ⟨i, hi, rfl, rfl, hS⟩ := hrel
    by_cases hlt : i < 40
    · obtain ⟨t, ht⟩ : ∃ t, tabS[i]? = some t := ⟨_, List.getElem?_eq_getElem (by rw [tabS_length]; omega)⟩
      have HS := Lib.hid (hS.call (below_box (.cells (ctC t) 32)))
      have hx := fun W => run_index_tab ht W
      have hK := lastK_take (k := k) ht
      have HL := Lib.hid hlt
      clear hS ht S1
      by_cases hk : (t.kind : Int) = k
      · subst hk
        rw [if_pos rfl] at hK
        have HK := Lib.hid hK
        clear hK
        go_wp2_with (refine wpList_store_row rfl _ _ _ rfl (w.heap.size + 1) (ctC t) rfl rfl 32 _ HS.out.last info_ct rfl (ctC_one _) ?_)
        go_roundg (40 - (i + 1))
        case measure => have := HL.out; omega
        case rel => exact ⟨i + 1, HL.out, rfl, by go_num, by rw [HK.out]; exact HS.out.set t⟩
      · have hb : ((t.kind : Int) == k) = false := by simpa using hk
        rw [if_neg hk] at hK
        rw [← hK] at HS
        clear hK
        go_wp2_with fail
        go_roundg (40 - (i + 1))
        case measure => have := HL.out; omega
        case rel => exact ⟨i + 1, HL.out, rfl, by go_num, HS.out⟩
    · obtain rfl : i = 40 := by omega
      have e : tabS.take 40 = tabS := List.take_of_length_le (Nat.le_of_eq tabS_length)
      obtain ⟨t, hT⟩ : ∃ t, lastK tabS k = t := ⟨_, rfl⟩
      rw [e, hT] at hS
      have HT := Lib.hid hT
      clear hT
      have HS := Lib.hid hS
      clear hS S1
      go_wp2_with (first
        | (refine wpList_load_row rfl _ _ rfl (w.heap.size + 1) rfl 32 _ (0, 0) _ HS.out.last Tryd.underlying32 rfl info_ct ?_)
        | (refine wpList_store_row rfl _ _ _ rfl w.heap.size (ctC t) rfl rfl 32 _ HS.out.res info_ct rfl (ctC_one _) ?_))
      exact ret_row (cs := ctC t) rfl rfl rfl Tryd.underlying32 rfl info_ct (setRow_heap _ _ _ _ _ _ HS.out.res) ⟨by rw [HT.out], belowRow HS.out.low (Nat.le_refl _) _⟩
end Go.Proofs.YtjbgnlnchchgcaaDoor
