/-
  What amqprim.read reads, plainly; the cursor's Take and Number at whatever place. Condition: the bytes are no more than an int says. The contract of amqprim.read. Condition: the bytes are no more than an int says; the constructor is one of a scalar. The contract of amqprim.read at numbers. Condition: the bytes are no more than an int says.
-/
import Derived.Deep.RegionWith
import Derived.Test.YtjbgnlnchchgcaaDoorOctAt
import Derived.Test.YtjbgnlnchchgcaaDoorAmFits
namespace Go.Proofs.YtjbgnlnchchgcaaDoor
open Go.RowKit

/-- What stands behind a reading: it was too short, or this is the value, and how many bytes it took. -/
def RdOk (t : Ct) (l : List UInt8) (n : Nat) (x : List UInt8) (i : Nat) (e : Int) : Prop :=
  match partV t l with
  | none => e = 3
  | some r => e = 0 ∧ i = r.2 ∧ r.1 = ⟨t.kind, n, x, 0⟩
theorem ext_data (s : ByteArray) (i n : Nat) : (s.extract i (i + n)).data.toList = (s.data.toList.drop i).take n := by
  simp [List.extract_eq_take_drop]
theorem numOf_8 (s : ByteArray) (i n : Nat) (h : i + n ≤ s.size) (h8 : n ≤ 8) : numOf (s.extract i (i + n)) = num ((s.data.toList.drop i).take n) := by
  unfold numOf
  rw [show (s.extract i (i + n)).size - 8 = 0 by simp; omega, List.drop_zero, ext_data]
/-- A number's bytes, in its kind. -/
theorem numK_whole : ∀ t ∈ tabA, t.kind ≤ 21 → t.sized = false → t.width ≠ 16 → ∀ l : List UInt8, l.length = t.width → numK t.kind l = wholeV (num l) t.kind t.width := by
  intro t ht hk hs h16 l hl
  have hb := num_lt l
  rw [hl] at hb
  unfold numK wholeV extW
  rw [hl]
  simp only [tabA, List.mem_cons, List.not_mem_nil, or_false] at ht
  rcases ht with rfl | rfl | rfl | rfl | rfl | rfl | rfl | rfl | rfl | rfl | rfl | rfl | rfl | rfl | rfl | rfl | rfl | rfl | rfl | rfl | rfl | rfl | rfl | rfl | rfl | rfl | rfl | rfl | rfl | rfl | rfl | rfl | rfl | rfl | rfl | rfl | rfl | rfl | rfl | rfl
  all_goals first
    | (simp at hk; done)
    | (simp at hs; done)
    | (simp at h16; done)
    | (simp [sgnK, bitsA] at hb ⊢
       done)
    | (simp [sgnK, bitsA] at hb ⊢
       omega)
set_option maxHeartbeats 1000000 in
theorem numk_nil (k : Int) (w : World) : Calls Tryd.prog 64 #[.int .i64 k, .string ⟨#[]⟩] w fun e W => e = .returned (.int .u64 0) ∧ w = W := by
  have G := get_of ⟨#[]⟩ w (by decide)
  rw [numOf_nil] at G
  have SG := fun W => sgn_any k W
  generalize sgnK k = b at *
  replace G := Lib.hid G
  replace SG := Lib.hid SG
  cases b
  all_goals
    go_in
    go_wp2_with (first
      | (go_at_call 78; refine (G.out).mono ?_; rintro e W ⟨rfl, rfl⟩)
      | (go_at_call 79; refine (SG.out _).mono ?_; rintro e W ⟨rfl, rfl⟩))
    go_ret
    exact ⟨by first | rfl | simp [wrap64], rfl⟩
open Go.RowKit

/-- What stands while a value is read. -/
structure RdS (w : World) (cb : Nat) (t : Ct) (s : ByteArray) (X : Array Value) (i : Nat) (e : Int) (W : World) : Prop where
  lt : cb < w.heap.size
  cur : Cur W cb s i e
  box : W.heap[w.heap.size]? = some (.cells (ctC t) 32 (0, 0))
  res : W.heap[w.heap.size + 1]? = some (.cells (vC 0 0 ⟨#[]⟩ (.slice none 0 0)) 26 (0, 0))
  val : W.heap[w.heap.size + 1 + 1]? = some (.cells X 26 (0, 0))
  gr : w.grownBy W (some cb)
section
variable {w W W' : World} {cb : Nat} {t : Ct} {s : ByteArray} {X : Array Value} {i i' : Nat} {e e' : Int}
theorem RdS.step (h : RdS w cb t s X i e W) (hc : Cur W' cb s i' e') (hg : W.grownBy W' (some cb)) : RdS w cb t s X i' e' W' := by
  have hl := h.lt
  have k : ∀ j, w.heap.size ≤ j → ∀ {o : Obj}, W.heap[j]? = some o → W'.heap[j]? = some o := fun j hj o ho => (hg.block j (lt_of_block ho) (fun x => by cases x; omega)).trans ho
  exact ⟨hl, hc, k _ (by omega) h.box, k _ (by omega) h.res, k _ (by omega) h.val, grown_then h.gr hg⟩
theorem RdS.cells (h : RdS w cb t s X i e W) : W.cell? ⟨w.heap.size, 0, none⟩ = some (.int .i64 (t.code : Nat)) ∧ W.cell? ⟨w.heap.size, 1, none⟩ = some (.int .i64 (t.kind : Nat)) ∧ W.cell? ⟨w.heap.size, 2, none⟩ = some (.int .i64 (t.width : Nat)) ∧ W.cell? ⟨w.heap.size, 3, none⟩ = some (.bool t.sized) :=
  ⟨cell_of_row _ _ 0 _ _ _ h.box, cell_of_row _ _ 1 _ _ _ h.box, cell_of_row _ _ 2 _ _ _ h.box, cell_of_row _ _ 3 _ _ _ h.box⟩
theorem RdS.vcell (h : RdS w cb t s X i e W) (j : Nat) : W.cell? ⟨w.heap.size + 1 + 1, j, none⟩ = X[j]? ∧ W.frozen? ⟨w.heap.size + 1 + 1, j, none⟩ = false := ⟨cell_of_row _ _ j _ _ _ h.val, by simp [World.frozen?, h.val]⟩
theorem RdS.set (h : RdS w cb t s X i e W) (j : Nat) (u : Value) : RdS w cb t s (X.setIfInBounds j u) i e (W.setCell ⟨w.heap.size + 1 + 1, j, none⟩ u) := by
  have hl := h.lt
  have k : ∀ m, m ≠ w.heap.size + 1 + 1 → (W.setCell ⟨w.heap.size + 1 + 1, j, none⟩ u).heap[m]? = W.heap[m]? := fun m hm => Below.heap_setCell W ⟨w.heap.size + 1 + 1, j, none⟩ u m (fun x => hm x)
  refine ⟨hl, (k cb (by omega)).trans h.cur, (k _ (by omega)).trans h.box, (k _ (by omega)).trans h.res, setCell_block h.val j u, ?_⟩
  exact ⟨h.gr.os, h.gr.tape, h.gr.output, by have := h.gr.size; simpa [World.setCell] using this, fun m hm hne => (k m (by omega)).trans (h.gr.block m hm hne)⟩
theorem RdS.draws (h : RdS w cb t s X i e W) (n : Nat) : RdS w cb t s X i e (W.drewN n) := ⟨h.lt, h.cur, h.box, h.res, h.val, ⟨h.gr.os, h.gr.tape, h.gr.output, h.gr.size, h.gr.block⟩⟩
/-- The value is returned. -/
theorem RdS.ret (h : RdS w cb t s X i e W) (hX : X.size = 4) : ∃ W', W' = W.setRow (w.heap.size + 1) X ∧ W'.heap[w.heap.size + 1]? = some (.cells X 26 (0, 0)) ∧ Cur W' cb s i e ∧ w.grownBy W' (some cb) := by
  have hl := h.lt
  refine ⟨_, rfl, setRow_heap _ _ _ _ _ _ h.res, (setRow_other _ _ _ _ (by omega)).trans h.cur, ?_⟩
  exact ⟨h.gr.os, h.gr.tape, h.gr.output, by have := h.gr.size; simpa [World.setRow] using this, fun m hm hne => (setRow_other _ _ _ _ (by omega)).trans (h.gr.block m hm hne)⟩
theorem RdS.start (w : World) (cb : Nat) (t : Ct) (s : ByteArray) (hc : Cur w cb s 0 0) :
    RdS w cb t s (vC t.kind 0 ⟨#[]⟩ (.slice none 0 0)) 0 0 (((w.alloc (.cells (ctC t) 32)).alloc (.cells (vC 0 0 ⟨#[]⟩ (.slice none 0 0)) 26)).alloc (.cells (vC t.kind 0 ⟨#[]⟩ (.slice none 0 0)) 26)) := by
  have o : ∀ {W : World} {k : Nat} {x y : Obj}, W.heap[k]? = some x → (W.alloc y).heap[k]? = some x := fun h => (Below.heap_alloc _ _ _ (lt_of_block h)).trans h
  have n : ∀ {W : World} {k : Nat} {x : Obj}, W.heap.size = k → (W.alloc x).heap[k]? = some x := fun h => h ▸ World.alloc_heap_new _ _
  refine ⟨hc.lt, o (o (o hc)), o (o (n rfl)), o (n (by simp)), n (by simp), ?_⟩
  have hb : Below w.heap.size w (((w.alloc (.cells (ctC t) 32)).alloc (.cells (vC 0 0 ⟨#[]⟩ (.slice none 0 0)) 26)).alloc (.cells (vC t.kind 0 ⟨#[]⟩ (.slice none 0 0)) 26)) :=
    (((Below.refl _ w).alloc (Nat.le_refl _) _).alloc (by simp) _).alloc (by simp; omega) _
  exact ⟨hb.os, hb.tape, hb.output, hb.size, fun m hm _ => hb.block m hm⟩
theorem vC_one (k : Int) (n : Nat) (s : ByteArray) : (vC k n s (.slice none 0 0)).all (·.oneCell') = true := by simp [vC, Value.oneCell']
end
theorem three_laid (w : World) (cb : Nat) (s : ByteArray) (hc : Cur w cb s 0 0) (o1 o2 o3 : Obj) : (((w.alloc o1).alloc o2).alloc o3).heap[w.heap.size + 1]? = some o2 ∧ Cur (((w.alloc o1).alloc o2).alloc o3) cb s 0 0 ∧ w.grownBy (((w.alloc o1).alloc o2).alloc o3) (some cb) := by
  have o : ∀ {W : World} {k : Nat} {x y : Obj}, W.heap[k]? = some x → (W.alloc y).heap[k]? = some x := fun h => (Below.heap_alloc _ _ _ (lt_of_block h)).trans h
  have n : ∀ {W : World} {k : Nat} {x : Obj}, W.heap.size = k → (W.alloc x).heap[k]? = some x := fun h => h ▸ World.alloc_heap_new _ _
  have hb : Below w.heap.size w (((w.alloc o1).alloc o2).alloc o3) := (((Below.refl _ w).alloc (Nat.le_refl _) _).alloc (by simp) _).alloc (by simp; omega) _
  exact ⟨o (n (by simp)), o (o (o hc)), hb.os, hb.tape, hb.output, hb.size, fun m hm _ => hb.block m hm⟩
/-- What read returns. -/
def RdRet (w : World) (cb : Nat) (t : Ct) (s : ByteArray) (E : Ending) (W : World) : Prop :=
  ∃ (n : Nat) (x : ByteArray) (i : Nat) (e : Int), E = .returned (.agg (vC t.kind n x (.slice none 0 0))) ∧ Cur W cb s i e ∧ w.grownBy W (some cb) ∧ RdOk t s.data.toList n x.data.toList i e
section
variable {w : World} {cb : Nat} {s : ByteArray} (code kind width : Nat) (items : Bool)
set_option maxRecDepth 100000 in
set_option maxHeartbeats 4000000 in
theorem read_true (hc : Cur w cb s 0 0) (h16 : ((width : Int) == 16) = false) (h0 : width = 0) : Calls Tryd.prog 40 #[.agg (ctC ⟨65, kind, width, false, items⟩), .pointer (some ⟨cb, 0, none⟩)] w (RdRet w cb ⟨65, kind, width, false, items⟩ s) := by
  have S0 := Lib.hid (RdS.start w cb ⟨65, kind, width, false, items⟩ s hc)
  have HO := Lib.hid (show RdOk ⟨65, kind, width, false, items⟩ s.data.toList 1 [] 0 0 from by subst h0; unfold RdOk partV; simp)
  have HE := Lib.hid (fun o1 o2 o3 => three_laid w cb s hc o1 o2 o3)
  clear hc h0
  unfold ctC
  go_in
  go_wp2_with fail
  exact ret_row (cs := vC kind 1 ⟨#[]⟩ (.slice none 0 0)) rfl rfl rfl Tryd.underlying26 rfl info_va (HE.out _ _ _).1 ⟨1, ⟨#[]⟩, 0, 0, rfl, (HE.out _ _ _).2.1, (HE.out _ _ _).2.2, HO.out⟩
set_option maxRecDepth 100000 in
set_option maxHeartbeats 4000000 in
theorem read_wide_ok (hc : Cur w cb s 0 0) (hm : s.size ≤ 9223372036854775807) (hs : 16 ≤ s.size) : Calls Tryd.prog 40 #[.agg (ctC ⟨code, kind, 16, false, items⟩), .pointer (some ⟨cb, 0, none⟩)] w (RdRet w cb ⟨code, kind, 16, false, items⟩ s) := by
  have S0 := Lib.hid (RdS.start w cb ⟨code, kind, 16, false, items⟩ s hc)
  have hl : s.data.toList.length = s.size := by simp
  have HO := Lib.hid (show RdOk ⟨code, kind, 16, false, items⟩ s.data.toList 0 (s.extract 0 (0 + 16)).data.toList (0 + 16) 0 from by
    rw [ext_data, List.drop_zero]; unfold RdOk partV; rw [if_neg (by rw [hl]; show ¬ s.size < 16; omega)]; simp)
  have TK := Lib.hid (fun W (h : Cur W cb s 0 0) => take_ok 16 h (by omega) hm)
  clear hc hl hs hm
  unfold ctC vC at S0
  unfold ctC
  go_in
  go_wp2_with fail
  refine (TK.out _ S0.out.cur).mono ?_
  rintro e W ⟨rfl, hcur, hg⟩
  have HS := Lib.hid (S0.out.step hcur hg)
  clear hcur hg
  have V2 : W.cell? ⟨w.heap.size + 1 + 1, 2, none⟩ = some (.string ⟨#[]⟩) := (HS.out.vcell 2).1
  have F2 := (HS.out.vcell 2).2
  have HT := Lib.hid (show RdS w cb ⟨code, kind, 16, false, items⟩ s (vC kind 0 (s.extract 0 (0 + 16)) (.slice none 0 0)) _ _ _ from HS.out.set 2 (.string (s.extract 0 (0 + 16))))
  obtain ⟨WR, hWR, hR, hC, hG⟩ := HT.out.ret rfl
  have HR := Lib.hid hR
  have HC := Lib.hid hC
  have HG := Lib.hid hG
  clear hR hC hG
  go_wp2_with (first
    | (refine wpList_load_row rfl _ _ rfl (w.heap.size + 1 + 1) rfl 26 _ (0, 0) _ HT.out.val Tryd.underlying26 rfl info_va ?_)
    | (refine wpList_store_row rfl _ _ _ rfl (w.heap.size + 1) (vC kind 0 (s.extract 0 (0 + 16)) (.slice none 0 0)) rfl rfl 26 _ HT.out.res info_va rfl (vC_one _ _ _) ?_))
  rw [← hWR]
  exact ret_row (cs := vC kind 0 (s.extract 0 (0 + 16)) (.slice none 0 0)) rfl rfl rfl Tryd.underlying26 rfl info_va HR.out ⟨_, _, _, _, rfl, HC.out, HG.out, HO.out⟩
set_option maxRecDepth 100000 in
set_option maxHeartbeats 4000000 in
theorem read_wide_no (hc : Cur w cb s 0 0) (hm : s.size ≤ 9223372036854775807) (hs : ¬ 16 ≤ s.size) : Calls Tryd.prog 40 #[.agg (ctC ⟨code, kind, 16, false, items⟩), .pointer (some ⟨cb, 0, none⟩)] w (RdRet w cb ⟨code, kind, 16, false, items⟩ s) := by
  have S0 := Lib.hid (RdS.start w cb ⟨code, kind, 16, false, items⟩ s hc)
  have hl : s.data.toList.length = s.size := by simp
  have HO := Lib.hid (show RdOk ⟨code, kind, 16, false, items⟩ s.data.toList 0 [] 0 3 from by unfold RdOk partV; rw [if_pos (by rw [hl]; show s.size < 16; omega)])
  have TK := Lib.hid (fun W (h : Cur W cb s 0 0) => take_past 16 h (Nat.zero_le _) hm (by omega))
  clear hc hl hs hm
  unfold ctC vC at S0
  unfold ctC
  go_in
  go_wp2_with fail
  refine (TK.out _ S0.out.cur).mono ?_
  rintro e W ⟨rfl, hcur, hg⟩
  have HS := Lib.hid (S0.out.step hcur hg)
  clear hcur hg
  have V2 : W.cell? ⟨w.heap.size + 1 + 1, 2, none⟩ = some (.string ⟨#[]⟩) := (HS.out.vcell 2).1
  have F2 := (HS.out.vcell 2).2
  have HT := Lib.hid (show RdS w cb ⟨code, kind, 16, false, items⟩ s (vC kind 0 ⟨#[]⟩ (.slice none 0 0)) _ _ _ from HS.out.set 2 (.string ⟨#[]⟩))
  obtain ⟨WR, hWR, hR, hC, hG⟩ := HT.out.ret rfl
  have HR := Lib.hid hR
  have HC := Lib.hid hC
  have HG := Lib.hid hG
  clear hR hC hG
  go_wp2_with (first
    | (refine wpList_load_row rfl _ _ rfl (w.heap.size + 1 + 1) rfl 26 _ (0, 0) _ HT.out.val Tryd.underlying26 rfl info_va ?_)
    | (refine wpList_store_row rfl _ _ _ rfl (w.heap.size + 1) (vC kind 0 ⟨#[]⟩ (.slice none 0 0)) rfl rfl 26 _ HT.out.res info_va rfl (vC_one _ _ _) ?_))
  rw [← hWR]
  exact ret_row (cs := vC kind 0 ⟨#[]⟩ (.slice none 0 0)) rfl rfl rfl Tryd.underlying26 rfl info_va HR.out ⟨_, _, _, _, rfl, HC.out, HG.out, HO.out⟩
set_option maxRecDepth 100000 in
set_option maxHeartbeats 4000000 in
theorem read_sized_no (hc : Cur w cb s 0 0) (hm : s.size ≤ 9223372036854775807) (hs : s.size < width) : Calls Tryd.prog 40 #[.agg (ctC ⟨code, kind, width, true, items⟩), .pointer (some ⟨cb, 0, none⟩)] w (RdRet w cb ⟨code, kind, width, true, items⟩ s) := by
  have S0 := Lib.hid (RdS.start w cb ⟨code, kind, width, true, items⟩ s hc)
  have hl : s.data.toList.length = s.size := by simp
  have HO := Lib.hid (show RdOk ⟨code, kind, width, true, items⟩ s.data.toList 0 [] 0 3 from by unfold RdOk partV; rw [if_pos (by rw [hl]; exact hs)])
  have NB := Lib.hid (fun W (h : Cur W cb s 0 0) => number_past (width : Int) h (Nat.zero_le _) hm (by omega))
  have TK := Lib.hid (fun W (h : Cur W cb s 0 3) => take_err 0 h rfl)
  clear hc hl hs hm
  unfold ctC vC at S0
  unfold ctC
  go_in
  go_wp2_with fail
  refine (NB.out _ S0.out.cur).mono ?_
  rintro e W ⟨rfl, hcur, hg⟩
  have HS := Lib.hid (S0.out.step hcur hg)
  clear hcur hg
  go_wp2_with fail
  refine (TK.out _ HS.out.cur).mono ?_
  rintro e W' ⟨rfl, rfl⟩
  have V2 : W.cell? ⟨w.heap.size + 1 + 1, 2, none⟩ = some (.string ⟨#[]⟩) := (HS.out.vcell 2).1
  have F2 := (HS.out.vcell 2).2
  have HT := Lib.hid (show RdS w cb ⟨code, kind, width, true, items⟩ s (vC kind 0 ⟨#[]⟩ (.slice none 0 0)) _ _ _ from HS.out.set 2 (.string ⟨#[]⟩))
  obtain ⟨WR, hWR, hR, hC, hG⟩ := HT.out.ret rfl
  have HR := Lib.hid hR
  have HC := Lib.hid hC
  have HG := Lib.hid hG
  clear hR hC hG
  go_wp2_with (first
    | (refine wpList_load_row rfl _ _ rfl (w.heap.size + 1 + 1) rfl 26 _ (0, 0) _ HT.out.val Tryd.underlying26 rfl info_va ?_)
    | (refine wpList_store_row rfl _ _ _ rfl (w.heap.size + 1) (vC kind 0 ⟨#[]⟩ (.slice none 0 0)) rfl rfl 26 _ HT.out.res info_va rfl (vC_one _ _ _) ?_))
  rw [← hWR]
  exact ret_row (cs := vC kind 0 ⟨#[]⟩ (.slice none 0 0)) rfl rfl rfl Tryd.underlying26 rfl info_va HR.out ⟨_, _, _, _, rfl, HC.out, HG.out, HO.out⟩
set_option maxRecDepth 100000 in
set_option maxHeartbeats 4000000 in
theorem read_sized_ok (hc : Cur w cb s 0 0) (hm : s.size ≤ 9223372036854775807) (hw : width = 1 ∨ width = 4) (hs : width ≤ s.size) (hz2 : num (s.data.toList.take width) ≤ s.size - width) : Calls Tryd.prog 40 #[.agg (ctC ⟨code, kind, width, true, items⟩), .pointer (some ⟨cb, 0, none⟩)] w (RdRet w cb ⟨code, kind, width, true, items⟩ s) := by
  have S0 := Lib.hid (RdS.start w cb ⟨code, kind, width, true, items⟩ s hc)
  have hl : s.data.toList.length = s.size := by simp
  obtain ⟨z, hz⟩ : ∃ z, num (s.data.toList.take width) = z := ⟨_, rfl⟩
  have hzl : (z : Int) ≤ 9223372036854775807 := by
    have h1 := num_lt (s.data.toList.take width)
    rw [hz, List.length_take, hl, Nat.min_eq_left hs] at h1
    rcases hw with rfl | rfl <;> omega
  have hz0 : (0 : Int) ≤ (z : Int) := by omega
  have en : numOf (s.extract 0 (0 + width)) = z := by rw [numOf_8 s 0 width (by omega) (by omega), List.drop_zero, hz]
  have NB := fun W (h : Cur W cb s 0 0) => number_ok width h (by omega) hm
  rw [en] at NB
  replace NB := Lib.hid NB
  rw [hz] at hz2
  have HO := Lib.hid (show RdOk ⟨code, kind, width, true, items⟩ s.data.toList 0 (s.extract width (width + z)).data.toList (width + z) 0 from by
    rw [ext_data]; unfold RdOk partV
    simp only [if_true]
    rw [if_neg (by rw [hl]; omega), hz, if_neg (by rw [hl]; omega)]
    simp)
  have TK := Lib.hid (fun W (h : Cur W cb s width 0) => take_ok z h (by omega) hm)
  clear hc hl hs hm hz hw en hz2
  unfold ctC vC at S0
  unfold ctC
  go_in
  go_wp2_with fail
  refine (NB.out _ S0.out.cur).mono ?_
  rintro e W ⟨rfl, hcur, hg⟩
  rw [Nat.zero_add] at hcur
  have HS0 := Lib.hid (S0.out.step hcur hg)
  clear hcur hg
  go_wp2_with fail
  refine (TK.out _ HS0.out.cur).mono ?_
  rintro e W1 ⟨rfl, hcur, hg⟩
  have HS := Lib.hid (HS0.out.step hcur hg)
  clear hcur hg HS0
  have V2 : W1.cell? ⟨w.heap.size + 1 + 1, 2, none⟩ = some (.string ⟨#[]⟩) := (HS.out.vcell 2).1
  have F2 := (HS.out.vcell 2).2
  have HT := Lib.hid (show RdS w cb ⟨code, kind, width, true, items⟩ s (vC kind 0 (s.extract width (width + z)) (.slice none 0 0)) _ _ _ from HS.out.set 2 (.string (s.extract width (width + z))))
  obtain ⟨WR, hWR, hR, hC, hG⟩ := HT.out.ret rfl
  have HR := Lib.hid hR
  have HC := Lib.hid hC
  have HG := Lib.hid hG
  clear hR hC hG
  go_wp2_with (first
    | (refine wpList_load_row rfl _ _ rfl (w.heap.size + 1 + 1) rfl 26 _ (0, 0) _ HT.out.val Tryd.underlying26 rfl info_va ?_)
    | (refine wpList_store_row rfl _ _ _ rfl (w.heap.size + 1) (vC kind 0 (s.extract width (width + z)) (.slice none 0 0)) rfl rfl 26 _ HT.out.res info_va rfl (vC_one _ _ _) ?_))
  rw [← hWR]
  exact ret_row (cs := vC kind 0 (s.extract width (width + z)) (.slice none 0 0)) rfl rfl rfl Tryd.underlying26 rfl info_va HR.out ⟨_, _, _, _, rfl, HC.out, HG.out, HO.out⟩
set_option maxRecDepth 100000 in
set_option maxHeartbeats 4000000 in
theorem read_sized_past (hc : Cur w cb s 0 0) (hm : s.size ≤ 9223372036854775807) (hw : width = 1 ∨ width = 4) (hs : width ≤ s.size) (hz2 : s.size - width < num (s.data.toList.take width)) : Calls Tryd.prog 40 #[.agg (ctC ⟨code, kind, width, true, items⟩), .pointer (some ⟨cb, 0, none⟩)] w (RdRet w cb ⟨code, kind, width, true, items⟩ s) := by
  have S0 := Lib.hid (RdS.start w cb ⟨code, kind, width, true, items⟩ s hc)
  have hl : s.data.toList.length = s.size := by simp
  obtain ⟨z, hz⟩ : ∃ z, num (s.data.toList.take width) = z := ⟨_, rfl⟩
  have hzl : (z : Int) ≤ 9223372036854775807 := by
    have h1 := num_lt (s.data.toList.take width)
    rw [hz, List.length_take, hl, Nat.min_eq_left hs] at h1
    rcases hw with rfl | rfl <;> omega
  have hz0 : (0 : Int) ≤ (z : Int) := by omega
  have en : numOf (s.extract 0 (0 + width)) = z := by rw [numOf_8 s 0 width (by omega) (by omega), List.drop_zero, hz]
  have NB := fun W (h : Cur W cb s 0 0) => number_ok width h (by omega) hm
  rw [en] at NB
  replace NB := Lib.hid NB
  rw [hz] at hz2
  have HO := Lib.hid (show RdOk ⟨code, kind, width, true, items⟩ s.data.toList 0 [] width 3 from by
    unfold RdOk partV
    simp only [if_true]
    rw [if_neg (by rw [hl]; omega), hz, if_pos (by rw [hl]; omega)]
    trivial)
  have TK := Lib.hid (fun W (h : Cur W cb s width 0) => take_past (z : Int) h (by omega) hm (by omega))
  clear hc hl hs hm hz hw en hz2
  unfold ctC vC at S0
  unfold ctC
  go_in
  go_wp2_with fail
  refine (NB.out _ S0.out.cur).mono ?_
  rintro e W ⟨rfl, hcur, hg⟩
  rw [Nat.zero_add] at hcur
  have HS0 := Lib.hid (S0.out.step hcur hg)
  clear hcur hg
  go_wp2_with fail
  refine (TK.out _ HS0.out.cur).mono ?_
  rintro e W1 ⟨rfl, hcur, hg⟩
  have HS := Lib.hid (HS0.out.step hcur hg)
  clear hcur hg HS0
  have V2 : W1.cell? ⟨w.heap.size + 1 + 1, 2, none⟩ = some (.string ⟨#[]⟩) := (HS.out.vcell 2).1
  have F2 := (HS.out.vcell 2).2
  have HT := Lib.hid (show RdS w cb ⟨code, kind, width, true, items⟩ s (vC kind 0 ⟨#[]⟩ (.slice none 0 0)) _ _ _ from HS.out.set 2 (.string ⟨#[]⟩))
  obtain ⟨WR, hWR, hR, hC, hG⟩ := HT.out.ret rfl
  have HR := Lib.hid hR
  have HC := Lib.hid hC
  have HG := Lib.hid hG
  clear hR hC hG
  go_wp2_with (first
    | (refine wpList_load_row rfl _ _ rfl (w.heap.size + 1 + 1) rfl 26 _ (0, 0) _ HT.out.val Tryd.underlying26 rfl info_va ?_)
    | (refine wpList_store_row rfl _ _ _ rfl (w.heap.size + 1) (vC kind 0 ⟨#[]⟩ (.slice none 0 0)) rfl rfl 26 _ HT.out.res info_va rfl (vC_one _ _ _) ?_))
  rw [← hWR]
  exact ret_row (cs := vC kind 0 ⟨#[]⟩ (.slice none 0 0)) rfl rfl rfl Tryd.underlying26 rfl info_va HR.out ⟨_, _, _, _, rfl, HC.out, HG.out, HO.out⟩
end
open Go.RowKit

section
variable {w : World} {cb : Nat} {s : ByteArray} (code kind width : Nat) (items : Bool)
set_option maxRecDepth 100000 in
set_option maxHeartbeats 4000000 in
theorem read_num_no (hc : Cur w cb s 0 0) (hm : s.size ≤ 9223372036854775807) (h16 : ((width : Int) == 16) = false) (h65 : ((code : Int) == 65) = false) (hs : s.size < width) : Calls Tryd.prog 40 #[.agg (ctC ⟨code, kind, width, false, items⟩), .pointer (some ⟨cb, 0, none⟩)] w (RdRet w cb ⟨code, kind, width, false, items⟩ s) := by
  have S0 := Lib.hid (RdS.start w cb ⟨code, kind, width, false, items⟩ s hc)
  have hl : s.data.toList.length = s.size := by simp
  have HO := Lib.hid (show RdOk ⟨code, kind, width, false, items⟩ s.data.toList 0 [] 0 3 from by unfold RdOk partV; rw [if_pos (by rw [hl]; exact hs)])
  have TK := Lib.hid (fun W (h : Cur W cb s 0 0) => take_past (width : Int) h (Nat.zero_le _) hm (by omega))
  have NK := Lib.hid (fun W => numk_nil kind W)
  clear hc hl hs hm
  unfold ctC vC at S0
  unfold ctC
  go_in
  go_wp2_with fail
  go_region_with (first
    | (go_at_call 62; refine (TK.out _ (by exact S0.out.cur)).mono ?_; rintro e W1 ⟨rfl, hcur, hg⟩; have HS := Lib.hid ((S0.out.draws _).step hcur hg); have V1 : W1.cell? ⟨w.heap.size + 1 + 1, 1, none⟩ = some (.int .u64 (0 : Nat)) := (HS.out.vcell 1).1; have F1 := (HS.out.vcell 1).2; have k1 : W1.cell? ⟨w.heap.size, 1, none⟩ = some (.int .i64 (kind : Nat)) := HS.out.cells.2.1; clear hcur hg)
    | (go_at_call 64; refine (NK.out _).mono ?_; rintro e W2 ⟨rfl, rfl⟩))
  all_goals
    have HT := Lib.hid (show RdS w cb ⟨code, kind, width, false, items⟩ s (vC kind 0 ⟨#[]⟩ (.slice none 0 0)) _ _ _ from HS.out.set 1 (.int .u64 (0 : Nat)))
    obtain ⟨WR, hWR, hR, hC, hG⟩ := HT.out.ret rfl
    have HR := Lib.hid hR
    have HC := Lib.hid hC
    have HG := Lib.hid hG
    clear hR hC hG V1 F1 k1
    go_wp2_with (first
      | (refine wpList_load_row rfl _ _ rfl (w.heap.size + 1 + 1) rfl 26 _ (0, 0) _ HT.out.val Tryd.underlying26 rfl info_va ?_)
      | (refine wpList_store_row rfl _ _ _ rfl (w.heap.size + 1) (vC kind 0 ⟨#[]⟩ (.slice none 0 0)) rfl rfl 26 _ HT.out.res info_va rfl (vC_one _ _ _) ?_))
    refine ret_row (cs := vC kind 0 ⟨#[]⟩ (.slice none 0 0)) rfl rfl rfl Tryd.underlying26 rfl info_va (hWR ▸ HR.out) ⟨_, _, _, _, rfl, hWR ▸ HC.out, hWR ▸ HG.out, HO.out⟩
set_option maxRecDepth 100000 in
set_option maxHeartbeats 4000000 in
theorem read_num_ok (hc : Cur w cb s 0 0) (hm : s.size ≤ 9223372036854775807) (h16 : ((width : Int) == 16) = false) (h65 : ((code : Int) == 65) = false) (hw : width = 0 ∨ width = 1 ∨ width = 2 ∨ width = 4 ∨ width = 8) (hk : sgnK kind = true → width ≠ 0) (hv : numK kind (s.data.toList.take width) = wholeV (num (s.data.toList.take width)) kind width) (hs : width ≤ s.size) : Calls Tryd.prog 40 #[.agg (ctC ⟨code, kind, width, false, items⟩), .pointer (some ⟨cb, 0, none⟩)] w (RdRet w cb ⟨code, kind, width, false, items⟩ s) := by
  have S0 := Lib.hid (RdS.start w cb ⟨code, kind, width, false, items⟩ s hc)
  have hl : s.data.toList.length = s.size := by simp
  have ed : (s.extract 0 width).data.toList = s.data.toList.take width := by have := ext_data s 0 width; rw [Nat.zero_add, List.drop_zero] at this; exact this
  have n16 : width ≠ 16 := fun e => by subst e; simp at h16
  have n65 : code ≠ 65 := fun e => by subst e; simp at h65
  have TK := fun W (h : Cur W cb s 0 0) => take_ok width h (by omega) hm
  simp only [Nat.zero_add] at TK
  have es : (s.extract 0 width).size = width := by simp; omega
  have NK := fun W => numk_any kind (s.extract 0 width) W (by omega) (by rw [es]; exact hk)
  rw [ed] at NK
  obtain ⟨N, hN⟩ : ∃ N, numK kind (s.data.toList.take width) = N := ⟨_, rfl⟩
  have HO := Lib.hid (show RdOk ⟨code, kind, width, false, items⟩ s.data.toList N [] width 0 from by
    unfold RdOk partV
    simp only [Bool.false_eq_true, if_false]
    rw [if_neg (by rw [hl]; omega), if_neg n16, if_neg n65, ← hv, hN]
    exact ⟨by trivial, rfl, rfl⟩)
  rw [hN] at NK
  replace TK := Lib.hid TK
  replace NK := Lib.hid NK
  clear hc hl hs hm hw hk hv ed n16 n65 hN es
  unfold ctC vC at S0
  unfold ctC
  go_in
  go_wp2_with fail
  go_region_with (first
    | (go_at_call 62; refine (TK.out _ (by exact S0.out.cur)).mono ?_; rintro e W1 ⟨rfl, hcur, hg⟩; have HS := Lib.hid ((S0.out.draws _).step hcur hg); have V1 : W1.cell? ⟨w.heap.size + 1 + 1, 1, none⟩ = some (.int .u64 (0 : Nat)) := (HS.out.vcell 1).1; have F1 := (HS.out.vcell 1).2; have k1 : W1.cell? ⟨w.heap.size, 1, none⟩ = some (.int .i64 (kind : Nat)) := HS.out.cells.2.1; clear hcur hg)
    | (go_at_call 64; refine (NK.out _).mono ?_; rintro e W2 ⟨rfl, rfl⟩))
  all_goals
    have HT := Lib.hid (show RdS w cb ⟨code, kind, width, false, items⟩ s (vC kind N ⟨#[]⟩ (.slice none 0 0)) _ _ _ from HS.out.set 1 (.int .u64 (N : Nat)))
    obtain ⟨WR, hWR, hR, hC, hG⟩ := HT.out.ret rfl
    have HR := Lib.hid hR
    have HC := Lib.hid hC
    have HG := Lib.hid hG
    clear hR hC hG V1 F1 k1
    go_wp2_with (first
      | (refine wpList_load_row rfl _ _ rfl (w.heap.size + 1 + 1) rfl 26 _ (0, 0) _ HT.out.val Tryd.underlying26 rfl info_va ?_)
      | (refine wpList_store_row rfl _ _ _ rfl (w.heap.size + 1) (vC kind N ⟨#[]⟩ (.slice none 0 0)) rfl rfl 26 _ HT.out.res info_va rfl (vC_one _ _ _) ?_))
    refine ret_row (cs := vC kind N ⟨#[]⟩ (.slice none 0 0)) rfl rfl rfl Tryd.underlying26 rfl info_va (hWR ▸ HR.out) ⟨_, _, _, _, rfl, hWR ▸ HC.out, hWR ▸ HG.out, HO.out⟩
end
/-- amqprim.read. -/
theorem read_any (t : Ct) (ht : t ∈ tabA) (hk : t.kind ≤ 21) (w : World) (cb : Nat) (s : ByteArray) (hc : Cur w cb s 0 0) (hm : s.size ≤ 9223372036854775807) : Calls Tryd.prog 40 #[.agg (ctC t), .pointer (some ⟨cb, 0, none⟩)] w (RdRet w cb t s) := by
  have hw := tab_small t ht hk
  have hv := numK_whole t ht hk
  have h65 : t.code = 65 → t.width = 0 := fun e => by
    have H : ∀ u ∈ tabA, u.code = 65 → u.width = 0 := by decide +kernel
    exact H t ht e
  have hl : s.data.toList.length = s.size := by simp
  obtain ⟨code, kind, width, sized, items⟩ := t
  unfold WidOk at hw
  simp only at hw hv h65
  cases sized
  · simp only [Bool.false_eq_true, if_false] at hw
    by_cases h16 : width = 16
    · subst h16
      by_cases hs : 16 ≤ s.size
      · exact read_wide_ok _ _ _ hc hm hs
      · exact read_wide_no _ _ _ hc hm hs
    · have e16 : ((width : Int) == 16) = false := by simp; omega
      by_cases h6 : code = 65
      · subst h6
        exact read_true _ _ _ hc e16 (h65 rfl)
      · have e65 : ((code : Int) == 65) = false := by simp; omega
        by_cases hs : width ≤ s.size
        · exact read_num_ok _ _ _ _ hc hm e16 e65 (by omega) hw.2 (hv rfl h16 _ (by rw [List.length_take, hl]; omega)) hs
        · exact read_num_no _ _ _ _ hc hm e16 e65 (by omega)
  · simp only [if_true] at hw
    by_cases hs : width ≤ s.size
    · by_cases hz : num (s.data.toList.take width) ≤ s.size - width
      · exact read_sized_ok _ _ _ _ hc hm hw hs hz
      · exact read_sized_past _ _ _ _ hc hm hw hs (by omega)
    · exact read_sized_no _ _ _ _ hc hm (by omega)
end Go.Proofs.YtjbgnlnchchgcaaDoor
