/-
  The contracts of connect's join, octets, pieces, when and props: the parts of a body. Condition: their lengths.
-/
import Derived.Test.YtbgpcmbaodjibaaGreatK20
import Derived.Test.YtbgpcmbaodjibaaGreatK38
import Derived.Test.YtbgpcmbaodjibaaGreatK15
namespace Go.Proofs.YtbgpcmbaodjibaaGreat
open Go.RowKit

/-- Strings that lie in a row. -/
theorem SR.cells {W : World} {g i : Nat} {ls : List (List UInt8)} (h : SR W (some ⟨g, i, none⟩) ls) (hne : ls ≠ []) : g < W.heap.size ∧ ∀ j, j < ls.length → W.cell? ⟨g, i + j, none⟩ = some (.string (bs (ls.getD j []))) := by
  obtain ⟨g', i', e, hg, hc⟩ := h hne
  cases e
  exact ⟨hg, hc⟩
theorem con_join (g i c : Nat) (ls : List (List UInt8)) (w : World) (h : SR w (some ⟨g, i, none⟩) ls) (hne : ls ≠ []) (hc : ls.length ≤ c) (hl : ls.flatten.length ≤ 4000000000) (hN : ls.length ≤ 4000000000) :
    Calls Tryz.prog 23 #[.slice (some ⟨g, i, none⟩) ls.length c] w fun e w' => e = .returned (.string (bs ls.flatten)) ∧ Below w.heap.size w w' := by
  obtain ⟨hg, hcell⟩ := h.cells hne
  have J := Lib.hid (join_parts g i c ls w hcell hg hc hl hN)
  clear h hcell hg hc hl hN
  generalize ls.length = n at *
  go_enter Tryz.func23, Tryz.ntmps23
  go_wp2_with fail
  refine (J.out).mono ?_
  rintro e w' ⟨rfl, hb⟩
  go_wp2_with fail
  go_ret
  exact ⟨rfl, hb⟩
theorem con_when (b : Bool) (g i c : Nat) (ls : List (List UInt8)) (w : World) (h : SR w (some ⟨g, i, none⟩) ls) (hne : ls ≠ []) (hc : ls.length ≤ c) (hl : ls.flatten.length ≤ 4000000000) (hN : ls.length ≤ 4000000000) :
    Calls Tryz.prog 29 #[.bool b, .slice (some ⟨g, i, none⟩) ls.length c] w fun e w' => e = .returned (.string (bs (if b then ls.flatten else []))) ∧ Below w.heap.size w w' := by
  have J := Lib.hid (con_join g i c ls w h hne hc hl hN)
  clear h hc hl hN
  generalize ls.length = n at *
  cases b with
  | true =>
    go_enter Tryz.func29, Tryz.ntmps29
    go_wp2_with fail
    refine (J.out).mono ?_
    rintro e w' ⟨rfl, hb⟩
    go_wp2_with fail
    go_ret
    exact ⟨rfl, hb⟩
  | false =>
    go_enter Tryz.func29, Tryz.ntmps29
    go_wp2_with fail
    go_ret
    exact ⟨rfl, Below.refl _ _⟩
theorem con_props (v kind : Int) (A : Option Addr) (n c : Nat) (l : List Pr) (w : World) (hi : -9223372036854775808 ≤ kind) (hj : kind ≤ 9223372036854775807) (hl : PL w A l) (hn : l.length = n) (hc : n ≤ c) (ok : ∀ p ∈ l, PrOk p) :
    Calls Tryz.prog 26 #[.int .i64 v, .int .i64 kind, .slice A n c] w fun e w' => e = .returned (.string (bs (tailC v kind l))) ∧ Below w.heap.size w w' := by
  unfold tailC
  by_cases h5 : v = 5
  · subst h5
    rw [if_pos rfl]
    have BY := Lib.hid (bytes_list kind A n c l w hi hj hl hn hc ok)
    clear hl ok hi hj hc
    generalize bytesP kind l = z at *
    obtain ⟨z1, z2⟩ := z
    go_enter Tryz.func26, Tryz.ntmps26
    go_wp2_with fail
    refine (BY.out).mono ?_
    rintro e w' ⟨rfl, hb⟩
    go_wp2_with fail
    go_ret
    exact ⟨rfl, hb⟩
  · rw [if_neg h5]
    have h5' : (v == 5) = false := beq_eq_false_iff_ne.2 h5
    have h5n : (v != 5) = true := by rw [show (v != 5) = !(v == 5) from rfl, h5']; rfl
    clear h5 h5' hl ok hi hj hc
    go_enter Tryz.func26, Tryz.ntmps26
    go_wp2_with fail
    go_ret
    exact ⟨rfl, Below.refl _ _⟩
set_option maxRecDepth 100000 in
set_option maxHeartbeats 1000000 in
/-- Two numbers, each in a byte. -/
theorem con_octets (g c : Nat) (x y : Int) (w : World) (hg : g < w.heap.size) (hx0 : 0 ≤ x) (hx1 : x < 256) (hy0 : 0 ≤ y) (hy1 : y < 256) (h0 : w.cell? ⟨g, 0, none⟩ = some (.int .i64 x)) (h1 : w.cell? ⟨g, 1, none⟩ = some (.int .i64 y)) :
    Calls Tryz.prog 24 #[.slice (some ⟨g, 0, none⟩) 2 c] w fun e w' => e = .returned (.string (bs [UInt8.ofNat x.toNat, UInt8.ofNat y.toNat])) ∧ Below w.heap.size w w' := by
  obtain ⟨m, rfl⟩ := Int.eq_ofNat_of_zero_le hx0
  obtain ⟨n, rfl⟩ := Int.eq_ofNat_of_zero_le hy0
  have e1 : (min (1 : Int) 16).toNat = 1 := by decide
  have PX : ∀ W, Calls Tryz.prog 27 #[.int .u64 (m : Int), .int .i64 1] W fun e w' => e = .returned (.string (bs [UInt8.ofNat m])) ∧ Below W.heap.size W w' := fun W => by
    have := put_any m 1 W (by omega)
    rw [e1, beC_one] at this
    exact this
  have PY : ∀ W, Calls Tryz.prog 27 #[.int .u64 (n : Int), .int .i64 1] W fun e w' => e = .returned (.string (bs [UInt8.ofNat n])) ∧ Below W.heap.size W w' := fun W => by
    have := put_any n 1 W (by omega)
    rw [e1, beC_one] at this
    exact this
  have hR : (⟨#[]⟩ : ByteArray) ++ bs [UInt8.ofNat m] ++ bs [UInt8.ofNat n] = bs [UInt8.ofNat m, UInt8.ofNat n] := by
    show bs [] ++ _ ++ _ = _
    rw [bs_append, bs_append]; rfl
  rw [Int.toNat_natCast, Int.toNat_natCast, ← hR]
  have sX : (bs [UInt8.ofNat m]).size = 1 := rfl
  have sY : (bs [UInt8.ofNat n]).size = 1 := rfl
  generalize bs [UInt8.ofNat m] = X at *
  generalize bs [UInt8.ofNat n] = Y at *
  have e0 : (⟨#[]⟩ : ByteArray) ++ X = X := by apply ByteArray.ext; simp
  rw [e0]
  have E0 := Lib.hid e0
  have hs1 : ¬ 9223372036854775807 < X.size + Y.size := by omega
  have PXh := Lib.hid PX
  have PYh := Lib.hid PY
  have hm : (m : Int) < 256 := hx1
  have hn : (n : Int) < 256 := hy1
  have hm0 : (0 : Int) ≤ m := hx0
  have hn0 : (0 : Int) ≤ n := hy0
  clear hR hx1 hy1 hx0 hy0 e1 PX PY e0
  go_enter Tryz.func24, Tryz.ntmps24
  go_wp2_with fail
  refine wp_loop_rounds 3 ?_
  rw [rounds_succ]
  go_wp2_with fail
  refine (PXh.out _).mono ?_
  rintro e W ⟨rfl, hb⟩
  have h1' : W.cell? ⟨g, 1, none⟩ = some (.int .i64 n) := (hb.cell (p := ⟨g, 1, none⟩) hg).trans h1
  have B1 := Lib.hid hb
  clear hb h0 h1
  go_wp2_with fail
  rw [rounds_succ]
  go_wp2_with fail
  refine (PYh.out _).mono ?_
  rintro e W2 ⟨rfl, hb⟩
  have B2 := Lib.hid (below_then B1.out hb)
  clear hb h1'
  go_wp2_with fail
  rw [rounds_succ]
  go_wp2_with fail
  go_ret
  exact ⟨rfl, B2.out⟩
theorem make_strs1 (w : World) : (Instr.makeSlice 89 (.int .i64 1) (.int .i64 1)).run Tryz.prog w = .ok (.slice (some ⟨w.heap.size, 0, none⟩) 1 1) (w.alloc (.cells #[.string ⟨#[]⟩] 9)) := by kernel_rfl
set_option maxRecDepth 100000 in
set_option maxHeartbeats 1000000 in
/-- A text with its length. -/
theorem con_piece1 (g c : Nat) (t : List UInt8) (w : World) (hg : g < w.heap.size) (ht : t.length ≤ 65535) (k0 : w.cell? ⟨g, 0, none⟩ = some (.string (bs t))) :
    Calls Tryz.prog 28 #[.slice (some ⟨g, 0, none⟩) 1 c] w fun e w' => e = .returned (.string (bs (enc2 t))) ∧ Below w.heap.size w w' := by
  have BIt : ∀ W, Calls Tryz.prog 65 #[.string (bs t)] W fun e w' => e = .returned (.tuple #[.string (bs (enc2 t)), .int .i64 0]) ∧ Below W.heap.size W w' := fun W => binary_yes (bs t) W (by rw [bs_size]; exact ht)
  have BIt := Lib.hid BIt
  have lt : (enc2 t).length ≤ 65537 := by rw [enc2_length]; omega
  have JO := fun (W : World) (hc : W.heap[w.heap.size]? = some (.cells (strs [enc2 t]).toArray 9 (0, 0))) => con_join w.heap.size 0 1 [enc2 t] W (fun _ => ⟨_, _, rfl, lt_of_block hc, fun j hj => by rw [Nat.zero_add]; exact (cell_of_row _ _ j _ _ _ hc).trans (strs_get _ j hj)⟩) (by simp) (Nat.le_refl _) (by simp; omega) (by simp)
  have ef : [enc2 t].flatten = enc2 t := by simp
  rw [ef] at JO
  have JO := Lib.hid JO
  have hz := make_strs1
  have B0 := Lib.hid (below_box (w := w) (.cells #[.string ⟨#[]⟩] 9))
  have G0 := heap_alloc_new w (.cells #[.string ⟨#[]⟩] 9)
  have q0 : (w.alloc (.cells #[.string ⟨#[]⟩] 9)).cell? ⟨g, 0, none⟩ = some (.string (bs t)) := (B0.out.cell (p := ⟨g, 0, none⟩) hg).trans k0
  have hne : g ≠ w.heap.size := by omega
  clear ht lt ef k0
  generalize hW0 : w.alloc (.cells #[.string ⟨#[]⟩] 9) = W0 at *
  have HW0 := Lib.hid hW0
  clear hW0
  go_enter Tryz.func28, Tryz.ntmps28
  go_wp2_with fail
  rw [HW0.out]
  refine wp_loop_rounds 2 ?_
  rw [rounds_succ]
  go_wp2_with fail
  refine (BIt.out _).mono ?_
  rintro e V0 ⟨rfl, hb⟩
  have HV0 := Lib.hid (below_then B0.out hb)
  have GV0 := (hb.block _ (lt_of_block G0)).trans G0
  have c0 : V0.cell? ⟨w.heap.size, 0, none⟩ = some (.string ⟨#[]⟩) := cell_of_row _ _ 0 _ _ _ GV0
  have f0 : V0.frozen? ⟨w.heap.size, 0, none⟩ = false := frozen_of_row _ _ _ _ _ GV0
  clear hb q0
  have G1 := setCell_block GV0 0 (.string (bs (enc2 t)))
  have B1 := Lib.hid (HV0.out.setCell (p := ⟨w.heap.size, 0, none⟩) (Nat.le_refl _) (.string (bs (enc2 t))))
  clear G0 GV0
  have G1 := Lib.hid G1
  go_wp2_with fail
  clear c0 f0
  have G1 := G1.out
  generalize V0.setCell ⟨w.heap.size, 0, none⟩ (.string (bs (enc2 t))) = U0 at *
  have JW := Lib.hid (JO.out _ (by exact G1))
  have BN := Lib.hid B1.out
  clear G1 JO
  rw [rounds_succ]
  go_wp2_with fail
  refine (JW.out).mono ?_
  rintro e V ⟨rfl, hb⟩
  have BV := Lib.hid (below_then BN.out hb)
  clear hb
  go_wp2_with fail
  go_ret
  exact ⟨rfl, BV.out⟩
theorem make_strs2 (w : World) : (Instr.makeSlice 89 (.int .i64 2) (.int .i64 2)).run Tryz.prog w = .ok (.slice (some ⟨w.heap.size, 0, none⟩) 2 2) (w.alloc (.cells #[.string ⟨#[]⟩, .string ⟨#[]⟩] 9)) := by kernel_rfl
set_option maxRecDepth 100000 in
set_option maxHeartbeats 1000000 in
/-- Two texts with their lengths. -/
theorem con_piece2 (g c : Nat) (t u : List UInt8) (w : World) (hg : g < w.heap.size) (ht : t.length ≤ 65535) (hu : u.length ≤ 65535) (k0 : w.cell? ⟨g, 0, none⟩ = some (.string (bs t))) (k1 : w.cell? ⟨g, 1, none⟩ = some (.string (bs u))) :
    Calls Tryz.prog 28 #[.slice (some ⟨g, 0, none⟩) 2 c] w fun e w' => e = .returned (.string (bs (enc2 t ++ enc2 u))) ∧ Below w.heap.size w w' := by
  have BIt : ∀ W, Calls Tryz.prog 65 #[.string (bs t)] W fun e w' => e = .returned (.tuple #[.string (bs (enc2 t)), .int .i64 0]) ∧ Below W.heap.size W w' := fun W => binary_yes (bs t) W (by rw [bs_size]; exact ht)
  have BIt := Lib.hid BIt
  have lt : (enc2 t).length ≤ 65537 := by rw [enc2_length]; omega
  have BIu : ∀ W, Calls Tryz.prog 65 #[.string (bs u)] W fun e w' => e = .returned (.tuple #[.string (bs (enc2 u)), .int .i64 0]) ∧ Below W.heap.size W w' := fun W => binary_yes (bs u) W (by rw [bs_size]; exact hu)
  have BIu := Lib.hid BIu
  have lu : (enc2 u).length ≤ 65537 := by rw [enc2_length]; omega
  have JO := fun (W : World) (hc : W.heap[w.heap.size]? = some (.cells (strs [enc2 t, enc2 u]).toArray 9 (0, 0))) => con_join w.heap.size 0 2 [enc2 t, enc2 u] W (fun _ => ⟨_, _, rfl, lt_of_block hc, fun j hj => by rw [Nat.zero_add]; exact (cell_of_row _ _ j _ _ _ hc).trans (strs_get _ j hj)⟩) (by simp) (Nat.le_refl _) (by simp; omega) (by simp)
  have ef : [enc2 t, enc2 u].flatten = enc2 t ++ enc2 u := by simp
  rw [ef] at JO
  have JO := Lib.hid JO
  have hz := make_strs2
  have B0 := Lib.hid (below_box (w := w) (.cells #[.string ⟨#[]⟩, .string ⟨#[]⟩] 9))
  have G0 := heap_alloc_new w (.cells #[.string ⟨#[]⟩, .string ⟨#[]⟩] 9)
  have q0 : (w.alloc (.cells #[.string ⟨#[]⟩, .string ⟨#[]⟩] 9)).cell? ⟨g, 0, none⟩ = some (.string (bs t)) := (B0.out.cell (p := ⟨g, 0, none⟩) hg).trans k0
  have q1 : (w.alloc (.cells #[.string ⟨#[]⟩, .string ⟨#[]⟩] 9)).cell? ⟨g, 1, none⟩ = some (.string (bs u)) := (B0.out.cell (p := ⟨g, 1, none⟩) hg).trans k1
  have hne : g ≠ w.heap.size := by omega
  clear ht hu lt lu ef k0 k1
  generalize hW0 : w.alloc (.cells #[.string ⟨#[]⟩, .string ⟨#[]⟩] 9) = W0 at *
  have HW0 := Lib.hid hW0
  clear hW0
  go_enter Tryz.func28, Tryz.ntmps28
  go_wp2_with fail
  rw [HW0.out]
  refine wp_loop_rounds 3 ?_
  rw [rounds_succ]
  go_wp2_with fail
  refine (BIt.out _).mono ?_
  rintro e V0 ⟨rfl, hb⟩
  have HV0 := Lib.hid (below_then B0.out hb)
  have GV0 := (hb.block _ (lt_of_block G0)).trans G0
  have v1 := (hb.cell (p := ⟨g, 1, none⟩) (Nat.lt_of_lt_of_le hg B0.out.size)).trans q1
  have c0 : V0.cell? ⟨w.heap.size, 0, none⟩ = some (.string ⟨#[]⟩) := cell_of_row _ _ 0 _ _ _ GV0
  have f0 : V0.frozen? ⟨w.heap.size, 0, none⟩ = false := frozen_of_row _ _ _ _ _ GV0
  clear hb q0 q1
  have G1 := setCell_block GV0 0 (.string (bs (enc2 t)))
  have B1 := Lib.hid (HV0.out.setCell (p := ⟨w.heap.size, 0, none⟩) (Nat.le_refl _) (.string (bs (enc2 t))))
  have q1 : (V0.setCell ⟨w.heap.size, 0, none⟩ (.string (bs (enc2 t)))).cell? ⟨g, 1, none⟩ = some (.string (bs u)) := (World.cell?_setCell_other _ _ _ _ (fun e => hne (congrArg Addr.block e).symm)).trans v1
  clear G0 GV0 v1
  have G1 := Lib.hid G1
  go_wp2_with fail
  clear c0 f0
  have G1 := G1.out
  generalize V0.setCell ⟨w.heap.size, 0, none⟩ (.string (bs (enc2 t))) = U0 at *
  rw [rounds_succ]
  go_wp2_with fail
  refine (BIu.out _).mono ?_
  rintro e V1 ⟨rfl, hb⟩
  have HV1 := Lib.hid (below_then B1.out hb)
  have GV1 := (hb.block _ (lt_of_block G1)).trans G1
  have c1 : V1.cell? ⟨w.heap.size, 1, none⟩ = some (.string ⟨#[]⟩) := cell_of_row _ _ 1 _ _ _ GV1
  have f1 : V1.frozen? ⟨w.heap.size, 1, none⟩ = false := frozen_of_row _ _ _ _ _ GV1
  clear hb q1
  have G2 := setCell_block GV1 1 (.string (bs (enc2 u)))
  have B2 := Lib.hid (HV1.out.setCell (p := ⟨w.heap.size, 1, none⟩) (Nat.le_refl _) (.string (bs (enc2 u))))
  clear G1 GV1
  have G2 := Lib.hid G2
  go_wp2_with fail
  clear c1 f1
  have G2 := G2.out
  generalize V1.setCell ⟨w.heap.size, 1, none⟩ (.string (bs (enc2 u))) = U1 at *
  have JW := Lib.hid (JO.out _ (by exact G2))
  have BN := Lib.hid B2.out
  clear G2 JO
  rw [rounds_succ]
  go_wp2_with fail
  refine (JW.out).mono ?_
  rintro e V ⟨rfl, hb⟩
  have BV := Lib.hid (below_then BN.out hb)
  clear hb
  go_wp2_with fail
  go_ret
  exact ⟨rfl, BV.out⟩
end Go.Proofs.YtbgpcmbaodjibaaGreat
