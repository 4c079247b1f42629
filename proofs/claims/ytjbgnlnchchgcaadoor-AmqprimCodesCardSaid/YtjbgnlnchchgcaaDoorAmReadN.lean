/-
  The contract of amqprim.read at numbers. Condition: the bytes are no more than an int says.
-/
import Derived.Deep.RegionWith
import Derived.Test.YtjbgnlnchchgcaaDoorAmRead
namespace Go.Proofs.YtjbgnlnchchgcaaDoor
open Go.RowKit

section
variable {w : World} {cb : Nat} {s : ByteArray} (code kind width : Nat) (items : Bool)
set_option maxRecDepth 100000 in
set_option maxHeartbeats 4000000 in
theorem read_num_no (hc : Cur w cb s 0 0) (hm : s.size ≤ 9223372036854775807) (h16 : ((width : Int) == 16) = false) (h65 : ((code : Int) == 65) = false) (hs : s.size < width) : Calls Tryd.prog 40 #[.agg (ctC ⟨code, kind, width, false, items⟩), .pointer (some ⟨cb, 0, none⟩)] w (RdRet w cb ⟨code, kind, width, false, items⟩ s) := by
  have S0 := Lib.hid (RdS.start w cb ⟨code, kind, width, false, items⟩ s hc)
  have hl : s.data.toList.length = s.size := by simp
  have HO := Lib.hid (show RdOk ⟨code, kind, width, false, items⟩ s.data.toList 0 [] 0 3 from by unfold RdOk partV; rw [if_pos (by rw [hl]; exact hs)])
  have TK := Lib.hid (fun W (h : Cur W cb s 0 0) => take_past (width : Int) h (Nat.zero_le _) hm (by omega))
  have NK := Lib.hid (fun W => numk_nil kind W)
  clear hc hl hs hm
  unfold ctC vC at S0
  unfold ctC
  go_in
  go_wp2_with fail
  go_region_with (first
    | (go_at_call 62; refine (TK.out _ (by exact S0.out.cur)).mono ?_; rintro e W1 ⟨rfl, hcur, hg⟩; have HS := Lib.hid ((S0.out.draws _).step hcur hg); have V1 : W1.cell? ⟨w.heap.size + 1 + 1, 1, none⟩ = some (.int .u64 (0 : Nat)) := (HS.out.vcell 1).1; have F1 := (HS.out.vcell 1).2; have k1 : W1.cell? ⟨w.heap.size, 1, none⟩ = some (.int .i64 (kind : Nat)) := HS.out.cells.2.1; clear hcur hg)
    | (go_at_call 64; refine (NK.out _).mono ?_; rintro e W2 ⟨rfl, rfl⟩))
  all_goals
    have HT := Lib.hid (show RdS w cb ⟨code, kind, width, false, items⟩ s (vC kind 0 ⟨#[]⟩ (.slice none 0 0)) _ _ _ from HS.out.set 1 (.int .u64 (0 : Nat)))
    obtain ⟨WR, hWR, hR, hC, hG⟩ := HT.out.ret rfl
    have HR := Lib.hid hR
    have HC := Lib.hid hC
    have HG := Lib.hid hG
    clear hR hC hG V1 F1 k1
    go_wp2_with (first
      | (refine wpList_load_row rfl _ _ rfl (w.heap.size + 1 + 1) rfl 26 _ (0, 0) _ HT.out.val Tryd.underlying26 rfl info_va ?_)
      | (refine wpList_store_row rfl _ _ _ rfl (w.heap.size + 1) (vC kind 0 ⟨#[]⟩ (.slice none 0 0)) rfl rfl 26 _ HT.out.res info_va rfl (vC_one _ _ _) ?_))
    refine ret_row (cs := vC kind 0 ⟨#[]⟩ (.slice none 0 0)) rfl rfl rfl Tryd.underlying26 rfl info_va (hWR ▸ HR.out) ⟨_, _, _, _, rfl, hWR ▸ HC.out, hWR ▸ HG.out, HO.out⟩
set_option maxRecDepth 100000 in
set_option maxHeartbeats 4000000 in
theorem read_num_ok (hc : Cur w cb s 0 0) (hm : s.size ≤ 9223372036854775807) (h16 : ((width : Int) == 16) = false) (h65 : ((code : Int) == 65) = false) (hw : width = 0 ∨ width = 1 ∨ width = 2 ∨ width = 4 ∨ width = 8) (hk : sgnK kind = true → width ≠ 0) (hv : numK kind (s.data.toList.take width) = wholeV (num (s.data.toList.take width)) kind width) (hs : width ≤ s.size) : Calls Tryd.prog 40 #[.agg (ctC ⟨code, kind, width, false, items⟩), .pointer (some ⟨cb, 0, none⟩)] w (RdRet w cb ⟨code, kind, width, false, items⟩ s) := by
  have S0 := Lib.hid (RdS.start w cb ⟨code, kind, width, false, items⟩ s hc)
  have hl : s.data.toList.length = s.size := by simp
  have ed : (s.extract 0 width).data.toList = s.data.toList.take width := by have := ext_data s 0 width; rw [Nat.zero_add, List.drop_zero] at this; exact this
  have n16 : width ≠ 16 := fun e => by subst e; simp at h16
  have n65 : code ≠ 65 := fun e => by subst e; simp at h65
  have TK := fun W (h : Cur W cb s 0 0) => take_ok width h (by omega) hm
  simp only [Nat.zero_add] at TK
  have es : (s.extract 0 width).size = width := by simp; omega
  have NK := fun W => numk_any kind (s.extract 0 width) W (by omega) (by rw [es]; exact hk)
  rw [ed] at NK
  obtain ⟨N, hN⟩ : ∃ N, numK kind (s.data.toList.take width) = N := ⟨_, rfl⟩
  have HO := Lib.hid (show RdOk ⟨code, kind, width, false, items⟩ s.data.toList N [] width 0 from by
    unfold RdOk partV
    simp only [Bool.false_eq_true, if_false]
    rw [if_neg (by rw [hl]; omega), if_neg n16, if_neg n65, ← hv, hN]
    exact ⟨by trivial, rfl, rfl⟩)
  rw [hN] at NK
  replace TK := Lib.hid TK
  replace NK := Lib.hid NK
  clear hc hl hs hm hw hk hv ed n16 n65 hN es
  unfold ctC vC at S0
  unfold ctC
  go_in
  go_wp2_with fail
  go_region_with (first
    | (go_at_call 62; refine (TK.out _ (by exact S0.out.cur)).mono ?_; rintro e W1 ⟨rfl, hcur, hg⟩; have HS := Lib.hid ((S0.out.draws _).step hcur hg); have V1 : W1.cell? ⟨w.heap.size + 1 + 1, 1, none⟩ = some (.int .u64 (0 : Nat)) := (HS.out.vcell 1).1; have F1 := (HS.out.vcell 1).2; have k1 : W1.cell? ⟨w.heap.size, 1, none⟩ = some (.int .i64 (kind : Nat)) := HS.out.cells.2.1; clear hcur hg)
    | (go_at_call 64; refine (NK.out _).mono ?_; rintro e W2 ⟨rfl, rfl⟩))
  all_goals
    have HT := Lib.hid (show RdS w cb ⟨code, kind, width, false, items⟩ s (vC kind N ⟨#[]⟩ (.slice none 0 0)) _ _ _ from HS.out.set 1 (.int .u64 (N : Nat)))
    obtain ⟨WR, hWR, hR, hC, hG⟩ := HT.out.ret rfl
    have HR := Lib.hid hR
    have HC := Lib.hid hC
    have HG := Lib.hid hG
    clear hR hC hG V1 F1 k1
    go_wp2_with (first
      | (refine wpList_load_row rfl _ _ rfl (w.heap.size + 1 + 1) rfl 26 _ (0, 0) _ HT.out.val Tryd.underlying26 rfl info_va ?_)
      | (refine wpList_store_row rfl _ _ _ rfl (w.heap.size + 1) (vC kind N ⟨#[]⟩ (.slice none 0 0)) rfl rfl 26 _ HT.out.res info_va rfl (vC_one _ _ _) ?_))
    refine ret_row (cs := vC kind N ⟨#[]⟩ (.slice none 0 0)) rfl rfl rfl Tryd.underlying26 rfl info_va (hWR ▸ HR.out) ⟨_, _, _, _, rfl, hWR ▸ HC.out, hWR ▸ HG.out, HO.out⟩
end
/-- amqprim.read. -/
theorem read_any (t : Ct) (ht : t ∈ tabA) (hk : t.kind ≤ 21) (w : World) (cb : Nat) (s : ByteArray) (hc : Cur w cb s 0 0) (hm : s.size ≤ 9223372036854775807) : Calls Tryd.prog 40 #[.agg (ctC t), .pointer (some ⟨cb, 0, none⟩)] w (RdRet w cb t s) := by
  have hw := tab_small t ht hk
  have hv := numK_whole t ht hk
  have h65 : t.code = 65 → t.width = 0 := fun e => by
    have H : ∀ u ∈ tabA, u.code = 65 → u.width = 0 := by decide +kernel
    exact H t ht e
  have hl : s.data.toList.length = s.size := by simp
  obtain ⟨code, kind, width, sized, items⟩ := t
  unfold WidOk at hw
  simp only at hw hv h65
  cases sized
  · simp only [Bool.false_eq_true, if_false] at hw
    by_cases h16 : width = 16
    · subst h16
      by_cases hs : 16 ≤ s.size
      · exact read_wide_ok _ _ _ hc hm hs
      · exact read_wide_no _ _ _ hc hm hs
    · have e16 : ((width : Int) == 16) = false := by simp; omega
      by_cases h6 : code = 65
      · subst h6
        exact read_true _ _ _ hc e16 (h65 rfl)
      · have e65 : ((code : Int) == 65) = false := by simp; omega
        by_cases hs : width ≤ s.size
        · exact read_num_ok _ _ _ _ hc hm e16 e65 (by omega) hw.2 (hv rfl h16 _ (by rw [List.length_take, hl]; omega)) hs
        · exact read_num_no _ _ _ _ hc hm e16 e65 (by omega)
  · simp only [if_true] at hw
    by_cases hs : width ≤ s.size
    · by_cases hz : num (s.data.toList.take width) ≤ s.size - width
      · exact read_sized_ok _ _ _ _ hc hm hw hs hz
      · exact read_sized_past _ _ _ _ hc hm hw hs (by omega)
    · exact read_sized_no _ _ _ _ hc hm (by omega)
end Go.Proofs.YtjbgnlnchchgcaaDoor
