/-
  The contracts of the reference's Bytes and Read (layer 7). Condition: the length of the string.
-/
import Derived.Deep.RegionWith
import Derived.Test.YtnmdbbkcbedklaaDoorK11
import Derived.Test.YtnmdbbkcbedklaaDoorK29
import Derived.Test.YtnmdbbkcbedklaaDoorK21
import Derived.Test.YtnmdbbkcbedklaaDoorK32
import Derived.Test.YtnmdbbkcbedklaaDoorK33
import Derived.Test.YtnmdbbkcbedklaaDoorK28
namespace Go.Proofs.YtnmdbbkcbedklaaDoor
open Go.RowKit

set_option maxRecDepth 100000 in
theorem ref_bytes7 (v : Int) (h : Hd) (w : World) : Calls Tryd.prog 15 #[.int .i64 v, hdV h] w (BytRet v h w) := by
  have C := Lib.hid (ref_check7 v h)
  have HB := Lib.hid (fun o => below_box (w := w) o)
  unfold BytRet bytesH
  by_cases hc : checkH v h = 0
  · rw [hc] at C
    rw [if_pos hc, hc]
    have hz := check_zero.1 hc
    have hk := kind_range hz.2.1
    have hf := flags_range hz.2.2.1
    obtain ⟨k, f, l⟩ := h
    obtain ⟨x, rfl⟩ : ∃ x : Nat, k = (x : Int) := ⟨k.toNat, by have : 1 ≤ k := hk.1; omega⟩
    obtain ⟨y, rfl⟩ : ∃ x : Nat, f = (x : Int) := ⟨f.toNat, by have : 0 ≤ f := hf.1; omega⟩
    obtain ⟨n, rfl⟩ : ∃ x : Nat, l = (x : Int) := ⟨l.toNat, by have : 0 ≤ l := hz.2.2.2.1; omega⟩
    have hx : x < 16 := by have : (x : Int) ≤ 15 := hk.2; omega
    have hy : y < 16 := by have : (y : Int) ≤ 15 := hf.2; omega
    have hn : n ≤ 268435455 := by have : (n : Int) ≤ 268435455 := hz.2.2.2.2; omega
    have hor : 16 * (x : Int) + (y : Int) = ((16 * x + y : Nat) : Int) := by omega
    have hraw : bs [UInt8.ofNat (16 * x + y)] ++ bs (vb n (sz n)) = bs (rawH ⟨x, y, n⟩) := by
      rw [bs_two]
      unfold rawH firstH
      congr 2
    have hcat : ¬ 9223372036854775807 < (bs [UInt8.ofNat (16 * x + y)]).size + (bs (vb n (sz n))).size := by
      rw [bs_len, bs_len, vb_length]
      have := sz_cases n hn
      simp only [List.length_cons, List.length_nil]; omega
    have hx2 : (x : Int) ≤ 15 := by omega
    have hy2 : (y : Int) ≤ 15 := by omega
    have P := Lib.hid (fun W => ref_put (16 * x + y) 1 W (by omega) (by decide) (by decide))
    rw [show be (16 * x + y) 1 = [UInt8.ofNat (16 * x + y)] from be_first _] at P
    have V := Lib.hid (fun W => ref_bytes_some n W hn)
    have hz2 : ((16 * x + y : Nat) : Int) ≤ 255 := by omega
    generalize bs (rawH ⟨x, y, n⟩) = R at *
    generalize bs [UInt8.ofNat (16 * x + y)] = A at *
    generalize bs (vb n (sz n)) = B at *
    generalize 16 * x + y = z at *
    have HR := Lib.hid hraw
    clear hraw hz hk hf hn hy hx hc
    unfold hdV at *
    go_enter Tryd.func15, Tryd.ntmps15
    go_wp2_with fail
    refine (C.out _).mono ?_
    rintro e w' ⟨rfl, hb⟩
    have B2 := Lib.hid (below_then (HB.out _) hb)
    have h0 := hb.cell (p := ⟨w.heap.size, 0, none⟩) (by simp)
    have h1 := hb.cell (p := ⟨w.heap.size, 1, none⟩) (by simp)
    have h2 := hb.cell (p := ⟨w.heap.size, 2, none⟩) (by simp)
    rw [World.cell?_alloc_at _ _ _ _ rfl] at h0 h1 h2
    have HS := Lib.hid (show w.heap.size < w'.heap.size by have := hb.size; rw [World.size_alloc] at this; omega)
    clear hb
    go_wp2_with fail
    refine (V.out _).mono ?_
    rintro e w2 ⟨rfl, hb⟩
    have B3 := Lib.hid (below_then B2.out hb)
    replace h0 := (hb.cell (p := ⟨w.heap.size, 0, none⟩) HS.out).trans h0
    replace h1 := (hb.cell (p := ⟨w.heap.size, 1, none⟩) HS.out).trans h1
    clear hb h2
    go_wp2_with fail
    refine (P.out _).mono ?_
    rintro e w3 ⟨rfl, hb⟩
    have B4 := Lib.hid (below_then B3.out hb)
    clear hb h0 h1
    go_wp2_with fail
    go_ret2
    exact ⟨congrArg (fun b => Ending.returned (Value.tuple #[.string b, .int .i64 0])) HR.out, B4.out⟩
  · rw [if_neg hc]
    have hn : (((checkH v h : Nat) : Int) == 0) = false := by simp; omega
    generalize checkH v h = z at *
    clear hc
    unfold hdV at *
    go_enter Tryd.func15, Tryd.ntmps15
    go_wp2_with fail
    refine (C.out _).mono ?_
    rintro e w' ⟨rfl, hb⟩
    have B2 := Lib.hid (below_then (HB.out _) hb)
    clear hb
    go_wp2_with fail
    go_ret2
    exact ⟨rfl, B2.out⟩

set_option maxRecDepth 100000 in
set_option maxHeartbeats 4000000 in
theorem ref_read7 (v : Int) (s : ByteArray) (w : World) (hm : s.size ≤ 9223372036854775807) : Calls Tryd.prog 16 #[.int .i64 v, .string s] w (HdRdRet v s.data.toList w) := by
  have V := Lib.hid (ref_version v)
  have hb0 : Below w.heap.size w (w.alloc (.cells #[.int .i64 0, .int .i64 0, .int .i64 0] 26)) := below_box _
  have B0 := Lib.hid hb0
  have N0 := Lib.hid (heap_alloc_new w (.cells #[.int .i64 0, .int .i64 0, .int .i64 0] 26))
  clear hb0
  cases hv : verH v
  · have hr : HdRd v s.data.toList = .returned (.tuple #[.agg #[.int .i64 0, .int .i64 0, .int .i64 0], .int .i64 0, .int .i64 2]) := by
      unfold HdRd
      cases s.data.toList with
      | nil => rw [readH_nil, if_pos hv]; rfl
      | cons b r =>
        rw [readH_cons]
        have hc : checkH v (ofByte b) = 2 := by unfold checkH; rw [if_pos hv]
        rw [if_pos (by rw [hc]; decide), hc]; rfl
    have HR := Lib.hid hr
    rw [hv] at V
    clear hr hv
    go_enter Tryd.func16, Tryd.ntmps16
    go_wp2_with fail
    refine (V.out _).mono ?_
    rintro e w' ⟨rfl, rfl⟩
    go_wp2_with fail
    exact ret_hd rfl rfl rfl rfl rfl rfl N0.out ⟨HR.out.symm, B0.out⟩
  rw [hv] at V
  by_cases hs : s.size = 0
  · have hl : s.data.toList = [] := List.eq_nil_of_length_eq_zero (by simpa using hs)
    have hr : HdRd v s.data.toList = .returned (.tuple #[.agg #[.int .i64 0, .int .i64 0, .int .i64 0], .int .i64 0, .int .i64 3]) := by
      unfold HdRd
      rw [hl, readH_nil, if_neg (by rw [hv]; decide)]; rfl
    have HR := Lib.hid hr
    have s1 : s.toList = [] := by rw [toList_data, hl]
    have s2 : s.toList.isEmpty = true := by rw [s1]; rfl
    clear hr hs hv hl
    go_enter Tryd.func16, Tryd.ntmps16
    go_wp2_with fail
    refine (V.out _).mono ?_
    rintro e w' ⟨rfl, rfl⟩
    go_wp2_with fail
    exact ret_hd rfl rfl rfl rfl rfl rfl N0.out ⟨HR.out.symm, B0.out⟩
  obtain ⟨b, r, hbr⟩ : ∃ b r, s.data.toList = b :: r := by
    cases h : s.data.toList with
    | nil => exact absurd (show s.size = 0 by rw [show s.size = s.data.toList.length by simp, h]; rfl) hs
    | cons b r => exact ⟨b, r, rfl⟩
  have hbn := b.toNat_lt
  have h0s : 0 < s.size := by omega
  have hs0 : s[0] = b := by
    have h1 : s.data.toList[0]? = some s[0] := by
      rw [List.getElem?_eq_getElem (by simpa using h0s)]; rfl
    rw [hbr] at h1
    simpa using h1.symm
  have hx2 : (s.extract 1 s.size).data.toList = r := by
    rw [show (s.extract 1 s.size).data.toList = (s.data.toList.drop 1).take (s.size - 1) by simp [Array.toList_extract, List.extract_eq_take_drop], hbr]
    show r.take (s.size - 1) = r
    exact List.take_of_length_le (by rw [show s.size = s.data.toList.length by simp, hbr]; simp)
  obtain ⟨x, hx⟩ : ∃ x, b.toNat = x := ⟨_, rfl⟩
  have hx255 : (x : Int) ≤ 255 := by omega
  obtain ⟨K, hK⟩ : ∃ K, (x : Int) / 16 = K := ⟨_, rfl⟩
  obtain ⟨F, hF⟩ : ∃ F, (x : Int) % 16 = F := ⟨_, rfl⟩
  have hof : ofByte b = ⟨K, F, 0⟩ := by
    unfold ofByte
    rw [← hK, ← hF, ← hx]
    simp
  have CH := Lib.hid (ref_check7 v (ofByte b))
  have hrd : readH v s.data.toList = readH v (b :: r) := by rw [hbr]
  rw [readH_cons] at hrd
  rw [hof] at CH hrd
  have e1 : ((b.toNat / 16 : Nat) : Int) = K := by rw [hx, ← hK]; simp
  have e2 : ((b.toNat % 16 : Nat) : Int) = F := by rw [hx, ← hF]; simp
  rw [e1, e2] at hrd
  have s0 : s[0].toNat = x := by rw [hs0]; exact hx
  have sne : ¬ s = ByteArray.empty := by intro h; rw [h] at h0s; exact absurd h0s (by decide)
  have s1 : ¬ s.toList = [] := by rw [toList_data, hbr]; simp
  have s2 : s.toList.isEmpty = false := by rw [toList_data, hbr]; rfl
  clear e1 e2 hof hbn hx hbr hs0
  have RD := Lib.hid (fun W => ref_read_any (s.extract 1 s.size) W (by simp; omega))
  rw [hx2] at RD
  have hs1 : 1 ≤ s.size := by omega
  have wx : IntKind.i64.wrap (x : Int) = (x : Int) := by simp only [IntKind.wrap_i64]; omega
  have wq : IntKind.i64.wrap K = K := by simp only [IntKind.wrap_i64]; omega
  have wr : (x : Int).tmod 16 = F := by rw [Int.tmod_eq_emod_of_nonneg (by omega)]; exact hF
  clear hs hx2 hv
  unfold hdV at CH
  by_cases hc0 : checkH v ⟨K, F, 0⟩ ≠ 0
  · rw [if_pos hc0] at hrd
    have hr : HdRd v s.data.toList = .returned (.tuple #[.agg #[.int .i64 0, .int .i64 0, .int .i64 0], .int .i64 0, .int .i64 (checkH v ⟨K, F, 0⟩ : Nat)]) := by
      unfold HdRd
      rw [hrd]; rfl
    have HR := Lib.hid hr
    have hne : (((checkH v ⟨K, F, 0⟩ : Nat) : Int) == 0) = false := by simp; exact hc0
    generalize checkH v ⟨K, F, 0⟩ = z at *
    clear hr hrd hc0 RD
    go_enter Tryd.func16, Tryd.ntmps16
    go_wp2_with fail
    refine (V.out _).mono ?_
    rintro e w' ⟨rfl, rfl⟩
    go_wp2_with fail
    go_region_with (fail)
    all_goals
      have GA : ((w.alloc (.cells #[.int .i64 0, .int .i64 0, .int .i64 0] 26)).alloc (.cells #[.int .i64 K, .int .i64 F, .int .i64 0] 26)).drew.heap[w.heap.size]? = some (.cells #[.int .i64 0, .int .i64 0, .int .i64 0] 26) := heap_alloc2_old _ _ _
      have GB : ((w.alloc (.cells #[.int .i64 0, .int .i64 0, .int .i64 0] 26)).alloc (.cells #[.int .i64 K, .int .i64 F, .int .i64 0] 26)).drew.heap[w.heap.size + 1]? = some (.cells #[.int .i64 K, .int .i64 F, .int .i64 0] 26) := heap_alloc2_new _ _ _
      have LB : Below w.heap.size w ((w.alloc (.cells #[.int .i64 0, .int .i64 0, .int .i64 0] 26)).alloc (.cells #[.int .i64 K, .int .i64 F, .int .i64 0] 26)).drew := (below_then (below_box _) (below_box _)).drew
      generalize ((w.alloc (.cells #[.int .i64 0, .int .i64 0, .int .i64 0] 26)).alloc (.cells #[.int .i64 K, .int .i64 F, .int .i64 0] 26)).drew = W1 at *
      have GA2 := Lib.hid GA
      have GB2 := Lib.hid GB
      have LB2 := Lib.hid LB
      clear GA GB LB
      clear wx wq wr s0 hK hF
      go_wp2_with (refine wpList_load_row rfl _ _ rfl (w.heap.size + 1) rfl 26 _ (0, 0) _ GB2.out Tryd.underlying26 rfl info_hd ?_)
      refine (CH.out _).mono ?_
      rintro e w4 ⟨rfl, hb⟩
      have N4 := Lib.hid ((hb.block _ (lt_of_block GA2.out)).trans GA2.out)
      have M4 := Lib.hid ((hb.block _ (lt_of_block GB2.out)).trans GB2.out)
      have B4 := Lib.hid (below_then LB2.out hb)
      clear hb
      go_wp2_with (refine wpList_store_row rfl _ _ _ rfl w.heap.size _ rfl rfl 26 _ N4.out info_hd rfl (by simp [Value.oneCell']) ?_)
      exact ret_hd rfl rfl rfl rfl rfl rfl (setRow_heap _ _ _ _ _ _ N4.out) ⟨HR.out.symm, belowRow B4.out (Nat.le_refl _) _⟩
  have hc0' : checkH v ⟨K, F, 0⟩ = 0 := Classical.byContradiction hc0
  rw [if_neg hc0] at hrd
  rw [hc0'] at CH
  clear hc0 hc0'
  unfold ReadSame ReadRet at RD
  by_cases he0 : rdE r ≠ 0
  · rw [if_pos he0] at hrd
    have hr : HdRd v s.data.toList = .returned (.tuple #[.agg #[.int .i64 0, .int .i64 0, .int .i64 0], .int .i64 0, .int .i64 (rdE r : Nat)]) := by
      unfold HdRd
      rw [hrd]; rfl
    have HR := Lib.hid hr
    have hne : (((rdE r : Nat) : Int) == 0) = false := by simp; exact he0
    generalize rdE r = z at *
    generalize rdV r = y at *
    generalize rdN r = n at *
    clear hr hrd he0
    go_enter Tryd.func16, Tryd.ntmps16
    go_wp2_with fail
    refine (V.out _).mono ?_
    rintro e w' ⟨rfl, rfl⟩
    go_wp2_with fail
    go_region_with (fail)
    all_goals
      have GA : ((w.alloc (.cells #[.int .i64 0, .int .i64 0, .int .i64 0] 26)).alloc (.cells #[.int .i64 K, .int .i64 F, .int .i64 0] 26)).drew.heap[w.heap.size]? = some (.cells #[.int .i64 0, .int .i64 0, .int .i64 0] 26) := heap_alloc2_old _ _ _
      have GB : ((w.alloc (.cells #[.int .i64 0, .int .i64 0, .int .i64 0] 26)).alloc (.cells #[.int .i64 K, .int .i64 F, .int .i64 0] 26)).drew.heap[w.heap.size + 1]? = some (.cells #[.int .i64 K, .int .i64 F, .int .i64 0] 26) := heap_alloc2_new _ _ _
      have LB : Below w.heap.size w ((w.alloc (.cells #[.int .i64 0, .int .i64 0, .int .i64 0] 26)).alloc (.cells #[.int .i64 K, .int .i64 F, .int .i64 0] 26)).drew := (below_then (below_box _) (below_box _)).drew
      generalize ((w.alloc (.cells #[.int .i64 0, .int .i64 0, .int .i64 0] 26)).alloc (.cells #[.int .i64 K, .int .i64 F, .int .i64 0] 26)).drew = W1 at *
      have GA2 := Lib.hid GA
      have GB2 := Lib.hid GB
      have LB2 := Lib.hid LB
      clear GA GB LB
      clear wx wq wr s0 hK hF
      go_wp2_with (refine wpList_load_row rfl _ _ rfl (w.heap.size + 1) rfl 26 _ (0, 0) _ GB2.out Tryd.underlying26 rfl info_hd ?_)
      refine (CH.out _).mono ?_
      rintro e w4 ⟨rfl, hb⟩
      have N4 := Lib.hid ((hb.block _ (lt_of_block GA2.out)).trans GA2.out)
      have M4 := Lib.hid ((hb.block _ (lt_of_block GB2.out)).trans GB2.out)
      have B4 := Lib.hid (below_then LB2.out hb)
      clear hb
      go_wp2_with fail
      refine (RD.out _).mono ?_
      rintro e w6 ⟨rfl, rfl⟩
      go_wp2_with (refine wpList_store_row rfl _ _ _ rfl w.heap.size _ rfl rfl 26 _ N4.out info_hd rfl (by simp [Value.oneCell']) ?_)
      exact ret_hd rfl rfl rfl rfl rfl rfl (setRow_heap _ _ _ _ _ _ N4.out) ⟨HR.out.symm, belowRow B4.out (Nat.le_refl _) _⟩
  · have he0' : rdE r = 0 := Classical.byContradiction he0
    rw [if_neg he0] at hrd
    rw [he0'] at RD
    have hr : HdRd v s.data.toList = .returned (.tuple #[.agg #[.int .i64 K, .int .i64 F, .int .i64 (rdV r : Nat)], .int .i64 (1 + rdN r : Nat), .int .i64 0]) := by
      unfold HdRd
      rw [hrd]; rfl
    have hn4 : (rdN r : Int) ≤ 4 := by have := rdN_le r; omega
    have h1n : ((1 + rdN r : Nat) : Int) = 1 + (rdN r : Int) := by omega
    rw [h1n] at hr
    have HR := Lib.hid hr
    generalize rdV r = y at *
    generalize rdN r = n at *
    clear hr hrd he0 he0' h1n
    go_enter Tryd.func16, Tryd.ntmps16
    go_wp2_with fail
    refine (V.out _).mono ?_
    rintro e w' ⟨rfl, rfl⟩
    go_wp2_with fail
    go_region_with (fail)
    all_goals
      have GA : ((w.alloc (.cells #[.int .i64 0, .int .i64 0, .int .i64 0] 26)).alloc (.cells #[.int .i64 K, .int .i64 F, .int .i64 0] 26)).drew.heap[w.heap.size]? = some (.cells #[.int .i64 0, .int .i64 0, .int .i64 0] 26) := heap_alloc2_old _ _ _
      have GB : ((w.alloc (.cells #[.int .i64 0, .int .i64 0, .int .i64 0] 26)).alloc (.cells #[.int .i64 K, .int .i64 F, .int .i64 0] 26)).drew.heap[w.heap.size + 1]? = some (.cells #[.int .i64 K, .int .i64 F, .int .i64 0] 26) := heap_alloc2_new _ _ _
      have LB : Below w.heap.size w ((w.alloc (.cells #[.int .i64 0, .int .i64 0, .int .i64 0] 26)).alloc (.cells #[.int .i64 K, .int .i64 F, .int .i64 0] 26)).drew := (below_then (below_box _) (below_box _)).drew
      generalize ((w.alloc (.cells #[.int .i64 0, .int .i64 0, .int .i64 0] 26)).alloc (.cells #[.int .i64 K, .int .i64 F, .int .i64 0] 26)).drew = W1 at *
      have GA2 := Lib.hid GA
      have GB2 := Lib.hid GB
      have LB2 := Lib.hid LB
      clear GA GB LB
      clear wx wq wr s0 hK hF
      go_wp2_with (refine wpList_load_row rfl _ _ rfl (w.heap.size + 1) rfl 26 _ (0, 0) _ GB2.out Tryd.underlying26 rfl info_hd ?_)
      refine (CH.out _).mono ?_
      rintro e w4 ⟨rfl, hb⟩
      have N4 := Lib.hid ((hb.block _ (lt_of_block GA2.out)).trans GA2.out)
      have M4 := Lib.hid ((hb.block _ (lt_of_block GB2.out)).trans GB2.out)
      have B4 := Lib.hid (below_then LB2.out hb)
      clear hb
      go_wp2_with fail
      refine (RD.out _).mono ?_
      rintro e w6 ⟨rfl, rfl⟩
      have N7 := Lib.hid ((heap_setCell_other w4 ⟨w.heap.size + 1, 2, none⟩ w.heap.size (.int .i64 y) (by show w.heap.size ≠ w.heap.size + 1; omega)).trans N4.out)
      have M7 := Lib.hid (setCell_block M4.out 2 (.int .i64 y))
      have B7 := Lib.hid (B4.out.setCell (p := ⟨w.heap.size + 1, 2, none⟩) (by show w.heap.size ≤ w.heap.size + 1; omega) (.int .i64 y))
      have N8 := Lib.hid (setRow_heap _ _ _ #[.int .i64 K, .int .i64 F, .int .i64 y] _ _ N7.out)
      have fz : w4.frozen? ⟨w.heap.size + 1, 2, none⟩ = false := frozen_of_row _ _ _ _ _ M4.out
      have cz : w4.cell? ⟨w.heap.size + 1, 2, none⟩ = some (.int .i64 0) := cell_of_row _ _ 2 _ _ _ M4.out
      go_wp2_with (first
        | (refine wpList_load_row rfl _ _ rfl (w.heap.size + 1) rfl 26 _ (0, 0) _ M7.out Tryd.underlying26 rfl info_hd ?_)
        | (refine wpList_store_row rfl _ _ _ rfl w.heap.size #[.int .i64 K, .int .i64 F, .int .i64 y] rfl rfl 26 _ N7.out info_hd rfl (by simp [Value.oneCell']) ?_))
      exact ret_hd rfl rfl rfl rfl rfl rfl N8.out ⟨HR.out.symm, belowRow B7.out (Nat.le_refl _) _⟩
end Go.Proofs.YtnmdbbkcbedklaaDoor
