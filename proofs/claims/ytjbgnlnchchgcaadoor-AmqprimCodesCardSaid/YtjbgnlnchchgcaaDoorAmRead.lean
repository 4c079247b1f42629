/-
  The contract of amqprim.read. Condition: the bytes are no more than an int says; the constructor is one of a scalar.
-/
import Derived.Deep.RegionWith
import Derived.Test.YtjbgnlnchchgcaaDoorAmReadP
namespace Go.Proofs.YtjbgnlnchchgcaaDoor
open Go.RowKit

/-- What stands while a value is read. -/
structure RdS (w : World) (cb : Nat) (t : Ct) (s : ByteArray) (X : Array Value) (i : Nat) (e : Int) (W : World) : Prop where
  lt : cb < w.heap.size
  cur : Cur W cb s i e
  box : W.heap[w.heap.size]? = some (.cells (ctC t) 32 (0, 0))
  res : W.heap[w.heap.size + 1]? = some (.cells (vC 0 0 ⟨#[]⟩ (.slice none 0 0)) 26 (0, 0))
  val : W.heap[w.heap.size + 1 + 1]? = some (.cells X 26 (0, 0))
  gr : w.grownBy W (some cb)
section
variable {w W W' : World} {cb : Nat} {t : Ct} {s : ByteArray} {X : Array Value} {i i' : Nat} {e e' : Int}
theorem RdS.step (h : RdS w cb t s X i e W) (hc : Cur W' cb s i' e') (hg : W.grownBy W' (some cb)) : RdS w cb t s X i' e' W' := by
  have hl := h.lt
  have k : ∀ j, w.heap.size ≤ j → ∀ {o : Obj}, W.heap[j]? = some o → W'.heap[j]? = some o := fun j hj o ho => (hg.block j (lt_of_block ho) (fun x => by cases x; omega)).trans ho
  exact ⟨hl, hc, k _ (by omega) h.box, k _ (by omega) h.res, k _ (by omega) h.val, grown_then h.gr hg⟩
theorem RdS.cells (h : RdS w cb t s X i e W) : W.cell? ⟨w.heap.size, 0, none⟩ = some (.int .i64 (t.code : Nat)) ∧ W.cell? ⟨w.heap.size, 1, none⟩ = some (.int .i64 (t.kind : Nat)) ∧ W.cell? ⟨w.heap.size, 2, none⟩ = some (.int .i64 (t.width : Nat)) ∧ W.cell? ⟨w.heap.size, 3, none⟩ = some (.bool t.sized) :=
  ⟨cell_of_row _ _ 0 _ _ _ h.box, cell_of_row _ _ 1 _ _ _ h.box, cell_of_row _ _ 2 _ _ _ h.box, cell_of_row _ _ 3 _ _ _ h.box⟩
theorem RdS.vcell (h : RdS w cb t s X i e W) (j : Nat) : W.cell? ⟨w.heap.size + 1 + 1, j, none⟩ = X[j]? ∧ W.frozen? ⟨w.heap.size + 1 + 1, j, none⟩ = false := ⟨cell_of_row _ _ j _ _ _ h.val, by simp [World.frozen?, h.val]⟩
theorem RdS.set (h : RdS w cb t s X i e W) (j : Nat) (u : Value) : RdS w cb t s (X.setIfInBounds j u) i e (W.setCell ⟨w.heap.size + 1 + 1, j, none⟩ u) := by
  have hl := h.lt
  have k : ∀ m, m ≠ w.heap.size + 1 + 1 → (W.setCell ⟨w.heap.size + 1 + 1, j, none⟩ u).heap[m]? = W.heap[m]? := fun m hm => Below.heap_setCell W ⟨w.heap.size + 1 + 1, j, none⟩ u m (fun x => hm x)
  refine ⟨hl, (k cb (by omega)).trans h.cur, (k _ (by omega)).trans h.box, (k _ (by omega)).trans h.res, setCell_block h.val j u, ?_⟩
  exact ⟨h.gr.os, h.gr.tape, h.gr.output, by have := h.gr.size; simpa [World.setCell] using this, fun m hm hne => (k m (by omega)).trans (h.gr.block m hm hne)⟩
theorem RdS.draws (h : RdS w cb t s X i e W) (n : Nat) : RdS w cb t s X i e (W.drewN n) := ⟨h.lt, h.cur, h.box, h.res, h.val, ⟨h.gr.os, h.gr.tape, h.gr.output, h.gr.size, h.gr.block⟩⟩
/-- The value is returned. -/
theorem RdS.ret (h : RdS w cb t s X i e W) (hX : X.size = 4) : ∃ W', W' = W.setRow (w.heap.size + 1) X ∧ W'.heap[w.heap.size + 1]? = some (.cells X 26 (0, 0)) ∧ Cur W' cb s i e ∧ w.grownBy W' (some cb) := by
  have hl := h.lt
  refine ⟨_, rfl, setRow_heap _ _ _ _ _ _ h.res, (setRow_other _ _ _ _ (by omega)).trans h.cur, ?_⟩
  exact ⟨h.gr.os, h.gr.tape, h.gr.output, by have := h.gr.size; simpa [World.setRow] using this, fun m hm hne => (setRow_other _ _ _ _ (by omega)).trans (h.gr.block m hm hne)⟩
theorem RdS.start (w : World) (cb : Nat) (t : Ct) (s : ByteArray) (hc : Cur w cb s 0 0) :
    RdS w cb t s (vC t.kind 0 ⟨#[]⟩ (.slice none 0 0)) 0 0 (((w.alloc (.cells (ctC t) 32)).alloc (.cells (vC 0 0 ⟨#[]⟩ (.slice none 0 0)) 26)).alloc (.cells (vC t.kind 0 ⟨#[]⟩ (.slice none 0 0)) 26)) := by
  have o : ∀ {W : World} {k : Nat} {x y : Obj}, W.heap[k]? = some x → (W.alloc y).heap[k]? = some x := fun h => (Below.heap_alloc _ _ _ (lt_of_block h)).trans h
  have n : ∀ {W : World} {k : Nat} {x : Obj}, W.heap.size = k → (W.alloc x).heap[k]? = some x := fun h => h ▸ World.alloc_heap_new _ _
  refine ⟨hc.lt, o (o (o hc)), o (o (n rfl)), o (n (by simp)), n (by simp), ?_⟩
  have hb : Below w.heap.size w (((w.alloc (.cells (ctC t) 32)).alloc (.cells (vC 0 0 ⟨#[]⟩ (.slice none 0 0)) 26)).alloc (.cells (vC t.kind 0 ⟨#[]⟩ (.slice none 0 0)) 26)) :=
    (((Below.refl _ w).alloc (Nat.le_refl _) _).alloc (by simp) _).alloc (by simp; omega) _
  exact ⟨hb.os, hb.tape, hb.output, hb.size, fun m hm _ => hb.block m hm⟩
theorem vC_one (k : Int) (n : Nat) (s : ByteArray) : (vC k n s (.slice none 0 0)).all (·.oneCell') = true := by simp [vC, Value.oneCell']
end
theorem three_laid (w : World) (cb : Nat) (s : ByteArray) (hc : Cur w cb s 0 0) (o1 o2 o3 : Obj) : (((w.alloc o1).alloc o2).alloc o3).heap[w.heap.size + 1]? = some o2 ∧ Cur (((w.alloc o1).alloc o2).alloc o3) cb s 0 0 ∧ w.grownBy (((w.alloc o1).alloc o2).alloc o3) (some cb) := by
  have o : ∀ {W : World} {k : Nat} {x y : Obj}, W.heap[k]? = some x → (W.alloc y).heap[k]? = some x := fun h => (Below.heap_alloc _ _ _ (lt_of_block h)).trans h
  have n : ∀ {W : World} {k : Nat} {x : Obj}, W.heap.size = k → (W.alloc x).heap[k]? = some x := fun h => h ▸ World.alloc_heap_new _ _
  have hb : Below w.heap.size w (((w.alloc o1).alloc o2).alloc o3) := (((Below.refl _ w).alloc (Nat.le_refl _) _).alloc (by simp) _).alloc (by simp; omega) _
  exact ⟨o (n (by simp)), o (o (o hc)), hb.os, hb.tape, hb.output, hb.size, fun m hm _ => hb.block m hm⟩
/-- What read returns. -/
def RdRet (w : World) (cb : Nat) (t : Ct) (s : ByteArray) (E : Ending) (W : World) : Prop :=
  ∃ (n : Nat) (x : ByteArray) (i : Nat) (e : Int), E = .returned (.agg (vC t.kind n x (.slice none 0 0))) ∧ Cur W cb s i e ∧ w.grownBy W (some cb) ∧ RdOk t s.data.toList n x.data.toList i e
section
variable {w : World} {cb : Nat} {s : ByteArray} (code kind width : Nat) (items : Bool)
set_option maxRecDepth 100000 in
set_option maxHeartbeats 4000000 in
theorem read_true (hc : Cur w cb s 0 0) (h16 : ((width : Int) == 16) = false) (h0 : width = 0) : Calls Tryd.prog 40 #[.agg (ctC ⟨65, kind, width, false, items⟩), .pointer (some ⟨cb, 0, none⟩)] w (RdRet w cb ⟨65, kind, width, false, items⟩ s) := by
  have S0 := Lib.hid (RdS.start w cb ⟨65, kind, width, false, items⟩ s hc)
  have HO := Lib.hid (show RdOk ⟨65, kind, width, false, items⟩ s.data.toList 1 [] 0 0 from by subst h0; unfold RdOk partV; simp)
  have HE := Lib.hid (fun o1 o2 o3 => three_laid w cb s hc o1 o2 o3)
  clear hc h0
  unfold ctC
  go_in
  go_wp2_with fail
  exact ret_row (cs := vC kind 1 ⟨#[]⟩ (.slice none 0 0)) rfl rfl rfl Tryd.underlying26 rfl info_va (HE.out _ _ _).1 ⟨1, ⟨#[]⟩, 0, 0, rfl, (HE.out _ _ _).2.1, (HE.out _ _ _).2.2, HO.out⟩
set_option maxRecDepth 100000 in
set_option maxHeartbeats 4000000 in
theorem read_wide_ok (hc : Cur w cb s 0 0) (hm : s.size ≤ 9223372036854775807) (hs : 16 ≤ s.size) : Calls Tryd.prog 40 #[.agg (ctC ⟨code, kind, 16, false, items⟩), .pointer (some ⟨cb, 0, none⟩)] w (RdRet w cb ⟨code, kind, 16, false, items⟩ s) := by
  have S0 := Lib.hid (RdS.start w cb ⟨code, kind, 16, false, items⟩ s hc)
  have hl : s.data.toList.length = s.size := by simp
  have HO := Lib.hid (show RdOk ⟨code, kind, 16, false, items⟩ s.data.toList 0 (s.extract 0 (0 + 16)).data.toList (0 + 16) 0 from by
    rw [ext_data, List.drop_zero]; unfold RdOk partV; rw [if_neg (by rw [hl]; show ¬ s.size < 16; omega)]; simp)
  have TK := Lib.hid (fun W (h : Cur W cb s 0 0) => take_ok 16 h (by omega) hm)
  clear hc hl hs hm
  unfold ctC vC at S0
  unfold ctC
  go_in
  go_wp2_with fail
  refine (TK.out _ S0.out.cur).mono ?_
  rintro e W ⟨rfl, hcur, hg⟩
  have HS := Lib.hid (S0.out.step hcur hg)
  clear hcur hg
  have V2 : W.cell? ⟨w.heap.size + 1 + 1, 2, none⟩ = some (.string ⟨#[]⟩) := (HS.out.vcell 2).1
  have F2 := (HS.out.vcell 2).2
  have HT := Lib.hid (show RdS w cb ⟨code, kind, 16, false, items⟩ s (vC kind 0 (s.extract 0 (0 + 16)) (.slice none 0 0)) _ _ _ from HS.out.set 2 (.string (s.extract 0 (0 + 16))))
  obtain ⟨WR, hWR, hR, hC, hG⟩ := HT.out.ret rfl
  have HR := Lib.hid hR
  have HC := Lib.hid hC
  have HG := Lib.hid hG
  clear hR hC hG
  go_wp2_with (first
    | (refine wpList_load_row rfl _ _ rfl (w.heap.size + 1 + 1) rfl 26 _ (0, 0) _ HT.out.val Tryd.underlying26 rfl info_va ?_)
    | (refine wpList_store_row rfl _ _ _ rfl (w.heap.size + 1) (vC kind 0 (s.extract 0 (0 + 16)) (.slice none 0 0)) rfl rfl 26 _ HT.out.res info_va rfl (vC_one _ _ _) ?_))
  rw [← hWR]
  exact ret_row (cs := vC kind 0 (s.extract 0 (0 + 16)) (.slice none 0 0)) rfl rfl rfl Tryd.underlying26 rfl info_va HR.out ⟨_, _, _, _, rfl, HC.out, HG.out, HO.out⟩
set_option maxRecDepth 100000 in
set_option maxHeartbeats 4000000 in
theorem read_wide_no (hc : Cur w cb s 0 0) (hm : s.size ≤ 9223372036854775807) (hs : ¬ 16 ≤ s.size) : Calls Tryd.prog 40 #[.agg (ctC ⟨code, kind, 16, false, items⟩), .pointer (some ⟨cb, 0, none⟩)] w (RdRet w cb ⟨code, kind, 16, false, items⟩ s) := by
  have S0 := Lib.hid (RdS.start w cb ⟨code, kind, 16, false, items⟩ s hc)
  have hl : s.data.toList.length = s.size := by simp
  have HO := Lib.hid (show RdOk ⟨code, kind, 16, false, items⟩ s.data.toList 0 [] 0 3 from by unfold RdOk partV; rw [if_pos (by rw [hl]; show s.size < 16; omega)])
  have TK := Lib.hid (fun W (h : Cur W cb s 0 0) => take_past 16 h (Nat.zero_le _) hm (by omega))
  clear hc hl hs hm
  unfold ctC vC at S0
  unfold ctC
  go_in
  go_wp2_with fail
  refine (TK.out _ S0.out.cur).mono ?_
  rintro e W ⟨rfl, hcur, hg⟩
  have HS := Lib.hid (S0.out.step hcur hg)
  clear hcur hg
  have V2 : W.cell? ⟨w.heap.size + 1 + 1, 2, none⟩ = some (.string ⟨#[]⟩) := (HS.out.vcell 2).1
  have F2 := (HS.out.vcell 2).2
  have HT := Lib.hid (show RdS w cb ⟨code, kind, 16, false, items⟩ s (vC kind 0 ⟨#[]⟩ (.slice none 0 0)) _ _ _ from HS.out.set 2 (.string ⟨#[]⟩))
  obtain ⟨WR, hWR, hR, hC, hG⟩ := HT.out.ret rfl
  have HR := Lib.hid hR
  have HC := Lib.hid hC
  have HG := Lib.hid hG
  clear hR hC hG
  go_wp2_with (first
    | (refine wpList_load_row rfl _ _ rfl (w.heap.size + 1 + 1) rfl 26 _ (0, 0) _ HT.out.val Tryd.underlying26 rfl info_va ?_)
    | (refine wpList_store_row rfl _ _ _ rfl (w.heap.size + 1) (vC kind 0 ⟨#[]⟩ (.slice none 0 0)) rfl rfl 26 _ HT.out.res info_va rfl (vC_one _ _ _) ?_))
  rw [← hWR]
  exact ret_row (cs := vC kind 0 ⟨#[]⟩ (.slice none 0 0)) rfl rfl rfl Tryd.underlying26 rfl info_va HR.out ⟨_, _, _, _, rfl, HC.out, HG.out, HO.out⟩
set_option maxRecDepth 100000 in
set_option maxHeartbeats 4000000 in
theorem read_sized_no (hc : Cur w cb s 0 0) (hm : s.size ≤ 9223372036854775807) (hs : s.size < width) : Calls Tryd.prog 40 #[.agg (ctC ⟨code, kind, width, true, items⟩), .pointer (some ⟨cb, 0, none⟩)] w (RdRet w cb ⟨code, kind, width, true, items⟩ s) := by
  have S0 := Lib.hid (RdS.start w cb ⟨code, kind, width, true, items⟩ s hc)
  have hl : s.data.toList.length = s.size := by simp
  have HO := Lib.hid (show RdOk ⟨code, kind, width, true, items⟩ s.data.toList 0 [] 0 3 from by unfold RdOk partV; rw [if_pos (by rw [hl]; exact hs)])
  have NB := Lib.hid (fun W (h : Cur W cb s 0 0) => number_past (width : Int) h (Nat.zero_le _) hm (by omega))
  have TK := Lib.hid (fun W (h : Cur W cb s 0 3) => take_err 0 h rfl)
  clear hc hl hs hm
  unfold ctC vC at S0
  unfold ctC
  go_in
  go_wp2_with fail
  refine (NB.out _ S0.out.cur).mono ?_
  rintro e W ⟨rfl, hcur, hg⟩
  have HS := Lib.hid (S0.out.step hcur hg)
  clear hcur hg
  go_wp2_with fail
  refine (TK.out _ HS.out.cur).mono ?_
  rintro e W' ⟨rfl, rfl⟩
  have V2 : W.cell? ⟨w.heap.size + 1 + 1, 2, none⟩ = some (.string ⟨#[]⟩) := (HS.out.vcell 2).1
  have F2 := (HS.out.vcell 2).2
  have HT := Lib.hid (show RdS w cb ⟨code, kind, width, true, items⟩ s (vC kind 0 ⟨#[]⟩ (.slice none 0 0)) _ _ _ from HS.out.set 2 (.string ⟨#[]⟩))
  obtain ⟨WR, hWR, hR, hC, hG⟩ := HT.out.ret rfl
  have HR := Lib.hid hR
  have HC := Lib.hid hC
  have HG := Lib.hid hG
  clear hR hC hG
  go_wp2_with (first
    | (refine wpList_load_row rfl _ _ rfl (w.heap.size + 1 + 1) rfl 26 _ (0, 0) _ HT.out.val Tryd.underlying26 rfl info_va ?_)
    | (refine wpList_store_row rfl _ _ _ rfl (w.heap.size + 1) (vC kind 0 ⟨#[]⟩ (.slice none 0 0)) rfl rfl 26 _ HT.out.res info_va rfl (vC_one _ _ _) ?_))
  rw [← hWR]
  exact ret_row (cs := vC kind 0 ⟨#[]⟩ (.slice none 0 0)) rfl rfl rfl Tryd.underlying26 rfl info_va HR.out ⟨_, _, _, _, rfl, HC.out, HG.out, HO.out⟩
set_option maxRecDepth 100000 in
set_option maxHeartbeats 4000000 in
theorem read_sized_ok (hc : Cur w cb s 0 0) (hm : s.size ≤ 9223372036854775807) (hw : width = 1 ∨ width = 4) (hs : width ≤ s.size) (hz2 : num (s.data.toList.take width) ≤ s.size - width) : Calls Tryd.prog 40 #[.agg (ctC ⟨code, kind, width, true, items⟩), .pointer (some ⟨cb, 0, none⟩)] w (RdRet w cb ⟨code, kind, width, true, items⟩ s) := by
  have S0 := Lib.hid (RdS.start w cb ⟨code, kind, width, true, items⟩ s hc)
  have hl : s.data.toList.length = s.size := by simp
  obtain ⟨z, hz⟩ : ∃ z, num (s.data.toList.take width) = z := ⟨_, rfl⟩
  have hzl : (z : Int) ≤ 9223372036854775807 := by
    have h1 := num_lt (s.data.toList.take width)
    rw [hz, List.length_take, hl, Nat.min_eq_left hs] at h1
    rcases hw with rfl | rfl <;> omega
  have hz0 : (0 : Int) ≤ (z : Int) := by omega
  have en : numOf (s.extract 0 (0 + width)) = z := by rw [numOf_8 s 0 width (by omega) (by omega), List.drop_zero, hz]
  have NB := fun W (h : Cur W cb s 0 0) => number_ok width h (by omega) hm
  rw [en] at NB
  replace NB := Lib.hid NB
  rw [hz] at hz2
  have HO := Lib.hid (show RdOk ⟨code, kind, width, true, items⟩ s.data.toList 0 (s.extract width (width + z)).data.toList (width + z) 0 from by
    rw [ext_data]; unfold RdOk partV
    simp only [if_true]
    rw [if_neg (by rw [hl]; omega), hz, if_neg (by rw [hl]; omega)]
    simp)
  have TK := Lib.hid (fun W (h : Cur W cb s width 0) => take_ok z h (by omega) hm)
  clear hc hl hs hm hz hw en hz2
  unfold ctC vC at S0
  unfold ctC
  go_in
  go_wp2_with fail
  refine (NB.out _ S0.out.cur).mono ?_
  rintro e W ⟨rfl, hcur, hg⟩
  rw [Nat.zero_add] at hcur
  have HS0 := Lib.hid (S0.out.step hcur hg)
  clear hcur hg
  go_wp2_with fail
  refine (TK.out _ HS0.out.cur).mono ?_
  rintro e W1 ⟨rfl, hcur, hg⟩
  have HS := Lib.hid (HS0.out.step hcur hg)
  clear hcur hg HS0
  have V2 : W1.cell? ⟨w.heap.size + 1 + 1, 2, none⟩ = some (.string ⟨#[]⟩) := (HS.out.vcell 2).1
  have F2 := (HS.out.vcell 2).2
  have HT := Lib.hid (show RdS w cb ⟨code, kind, width, true, items⟩ s (vC kind 0 (s.extract width (width + z)) (.slice none 0 0)) _ _ _ from HS.out.set 2 (.string (s.extract width (width + z))))
  obtain ⟨WR, hWR, hR, hC, hG⟩ := HT.out.ret rfl
  have HR := Lib.hid hR
  have HC := Lib.hid hC
  have HG := Lib.hid hG
  clear hR hC hG
  go_wp2_with (first
    | (refine wpList_load_row rfl _ _ rfl (w.heap.size + 1 + 1) rfl 26 _ (0, 0) _ HT.out.val Tryd.underlying26 rfl info_va ?_)
    | (refine wpList_store_row rfl _ _ _ rfl (w.heap.size + 1) (vC kind 0 (s.extract width (width + z)) (.slice none 0 0)) rfl rfl 26 _ HT.out.res info_va rfl (vC_one _ _ _) ?_))
  rw [← hWR]
  exact ret_row (cs := vC kind 0 (s.extract width (width + z)) (.slice none 0 0)) rfl rfl rfl Tryd.underlying26 rfl info_va HR.out ⟨_, _, _, _, rfl, HC.out, HG.out, HO.out⟩
set_option maxRecDepth 100000 in
set_option maxHeartbeats 4000000 in
theorem read_sized_past (hc : Cur w cb s 0 0) (hm : s.size ≤ 9223372036854775807) (hw : width = 1 ∨ width = 4) (hs : width ≤ s.size) (hz2 : s.size - width < num (s.data.toList.take width)) : Calls Tryd.prog 40 #[.agg (ctC ⟨code, kind, width, true, items⟩), .pointer (some ⟨cb, 0, none⟩)] w (RdRet w cb ⟨code, kind, width, true, items⟩ s) := by
  have S0 := Lib.hid (RdS.start w cb ⟨code, kind, width, true, items⟩ s hc)
  have hl : s.data.toList.length = s.size := by simp
  obtain ⟨z, hz⟩ : ∃ z, num (s.data.toList.take width) = z := ⟨_, rfl⟩
  have hzl : (z : Int) ≤ 9223372036854775807 := by
    have h1 := num_lt (s.data.toList.take width)
    rw [hz, List.length_take, hl, Nat.min_eq_left hs] at h1
    rcases hw with rfl | rfl <;> omega
  have hz0 : (0 : Int) ≤ (z : Int) := by omega
  have en : numOf (s.extract 0 (0 + width)) = z := by rw [numOf_8 s 0 width (by omega) (by omega), List.drop_zero, hz]
  have NB := fun W (h : Cur W cb s 0 0) => number_ok width h (by omega) hm
  rw [en] at NB
  replace NB := Lib.hid NB
  rw [hz] at hz2
  have HO := Lib.hid (show RdOk ⟨code, kind, width, true, items⟩ s.data.toList 0 [] width 3 from by
    unfold RdOk partV
    simp only [if_true]
    rw [if_neg (by rw [hl]; omega), hz, if_pos (by rw [hl]; omega)]
    trivial)
  have TK := Lib.hid (fun W (h : Cur W cb s width 0) => take_past (z : Int) h (by omega) hm (by omega))
  clear hc hl hs hm hz hw en hz2
  unfold ctC vC at S0
  unfold ctC
  go_in
  go_wp2_with fail
  refine (NB.out _ S0.out.cur).mono ?_
  rintro e W ⟨rfl, hcur, hg⟩
  rw [Nat.zero_add] at hcur
  have HS0 := Lib.hid (S0.out.step hcur hg)
  clear hcur hg
  go_wp2_with fail
  refine (TK.out _ HS0.out.cur).mono ?_
  rintro e W1 ⟨rfl, hcur, hg⟩
  have HS := Lib.hid (HS0.out.step hcur hg)
  clear hcur hg HS0
  have V2 : W1.cell? ⟨w.heap.size + 1 + 1, 2, none⟩ = some (.string ⟨#[]⟩) := (HS.out.vcell 2).1
  have F2 := (HS.out.vcell 2).2
  have HT := Lib.hid (show RdS w cb ⟨code, kind, width, true, items⟩ s (vC kind 0 ⟨#[]⟩ (.slice none 0 0)) _ _ _ from HS.out.set 2 (.string ⟨#[]⟩))
  obtain ⟨WR, hWR, hR, hC, hG⟩ := HT.out.ret rfl
  have HR := Lib.hid hR
  have HC := Lib.hid hC
  have HG := Lib.hid hG
  clear hR hC hG
  go_wp2_with (first
    | (refine wpList_load_row rfl _ _ rfl (w.heap.size + 1 + 1) rfl 26 _ (0, 0) _ HT.out.val Tryd.underlying26 rfl info_va ?_)
    | (refine wpList_store_row rfl _ _ _ rfl (w.heap.size + 1) (vC kind 0 ⟨#[]⟩ (.slice none 0 0)) rfl rfl 26 _ HT.out.res info_va rfl (vC_one _ _ _) ?_))
  rw [← hWR]
  exact ret_row (cs := vC kind 0 ⟨#[]⟩ (.slice none 0 0)) rfl rfl rfl Tryd.underlying26 rfl info_va HR.out ⟨_, _, _, _, rfl, HC.out, HG.out, HO.out⟩
end
end Go.Proofs.YtjbgnlnchchgcaaDoor
