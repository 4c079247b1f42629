/-
  The walk of polyglotlaw16.AmqprimCodes. No condition.
-/
import Derived.Test.YtjbgnlnchchgcaaDoorAmLive
namespace Go.Proofs.YtjbgnlnchchgcaaDoor
open Go.RowKit

theorem code_at {k : Int} {i x : Nat} (h : (codeL tabS k)[i]? = some x) : ∃ u : Ct, x = u.code ∧ ofT (x : Int) = (u, true) ∧ (u.kind : Int) = k := by
  have hm := List.mem_of_getElem? h
  unfold codeL at hm
  obtain ⟨u, hu, rfl⟩ := List.mem_map.1 hm
  obtain ⟨h1, h2⟩ := List.mem_filter.1 hu
  refine ⟨u, rfl, ?_, by simpa using h2⟩
  unfold ofT
  rw [of_some ((tabS_mem u).1 h1) rfl]
theorem code_ord {k : Int} {i x y : Nat} (hx : (codeL tabS k)[i]? = some x) (hy : (codeL tabS k)[i + 1]? = some y) : (ofT (x : Int)).1.width ≤ (ofT (y : Int)).1.width := by
  rw [codeL_map] at hx hy
  rw [List.getElem?_map] at hx hy
  cases hu : (codesA k)[i]? with
  | none => rw [hu] at hx; cases hx
  | some u =>
    cases hv : (codesA k)[i + 1]? with
    | none => rw [hv] at hy; cases hy
    | some v =>
      rw [hu] at hx; rw [hv] at hy
      simp only [Option.map_some, Option.some.injEq] at hx hy
      subst hx hy
      have o : ∀ {t : Ct}, t ∈ codesA k → ofT (t.code : Int) = (t, true) := fun ht => by unfold ofT; rw [mem_of (codes_mem.1 ht).1]
      rw [o (List.mem_of_getElem? hu), o (List.mem_of_getElem? hv)]
      obtain ⟨h1, e1⟩ := List.getElem?_eq_some_iff.1 hu
      obtain ⟨h2, e2⟩ := List.getElem?_eq_some_iff.1 hv
      have := List.pairwise_iff_getElem.1 (codes_order k) i (i + 1) h1 h2 (by omega)
      rw [e1, e2] at this
      exact this.1
/-- How often a code is among the first ones. -/
def cntA (L : List Nat) (c : Int) (i : Nat) : Nat := ((L.take i).map fun x : Nat => (x : Int)).count c
theorem cnt_step {L : List Nat} {c : Int} {i x : Nat} (h : L[i]? = some x) : cntA L c (i + 1) = cntA L c i + if ((x : Int) == c) = true then 1 else 0 := by
  obtain ⟨h1, e⟩ := List.getElem?_eq_some_iff.1 h
  unfold cntA
  rw [List.take_succ_eq_append_getElem h1, e, List.map_append, List.count_append]
  simp only [List.map_cons, List.map_nil, List.count_singleton]
theorem cnt_le (L : List Nat) (c : Int) (i : Nat) : cntA L c i ≤ L.length := by
  unfold cntA
  exact Nat.le_trans List.count_le_length (by rw [List.length_map, List.length_take]; omega)
theorem cnt_all (k c : Int) : cntA (codeL tabS k) c (codeL tabS k).length = if (∃ t, ofA c = some t ∧ (t.kind : Int) = k) then 1 else 0 := by
  unfold cntA
  rw [List.take_length, codeL_map, List.map_map]
  exact codes_count k c
/-- The constructor's row, behind calls. -/
theorem ct_cells {W : World} {b : Nat} {t : Ct} (h : W.heap[b]? = some (.cells (ctC t) 32 (0, 0))) : W.cell? ⟨b, 0, none⟩ = some (.int .i64 (t.code : Nat)) ∧ W.cell? ⟨b, 1, none⟩ = some (.int .i64 (t.kind : Nat)) ∧ W.cell? ⟨b, 2, none⟩ = some (.int .i64 (t.width : Nat)) ∧ W.cell? ⟨b, 3, none⟩ = some (.bool t.sized) ∧ W.cell? ⟨b, 4, none⟩ = some (.bool t.items) :=
  ⟨cell_of_row _ _ 0 _ _ _ h, cell_of_row _ _ 1 _ _ _ h, cell_of_row _ _ 2 _ _ _ h, cell_of_row _ _ 3 _ _ _ h, cell_of_row _ _ 4 _ _ _ h⟩
/-- A constructor in its box, since the codes were listed. -/
structure CwS (W4 : World) (b : Nat) (u : Ct) (W : World) : Prop where
  low : Below W4.heap.size W4 W
  box : W.heap[b]? = some (.cells (ctC u) 32 (0, 0))
theorem CwS.made {W4 wr W5 : World} (u : Ct) (h : Below W4.heap.size W4 wr) (hb : Below wr.heap.size wr W5) : CwS W4 W5.heap.size u (W5.alloc (.cells (ctC u) 32)) :=
  ⟨(h.trans (hb.mono h.size)).trans ((below_box _).mono (Nat.le_trans h.size hb.size)), heap_alloc_new _ _⟩
theorem CwS.draws {W4 W : World} {b : Nat} {u : Ct} (h : CwS W4 b u W) (n : Nat) : CwS W4 b u (W.drewN n) := ⟨below_draws h.low n, h.box⟩
theorem CwS.call {W4 W W' : World} {b : Nat} {u : Ct} (h : CwS W4 b u W) (hb : Below W.heap.size W W') : CwS W4 b u W' := ⟨h.low.trans (hb.mono h.low.size), (hb.block _ (lt_of_block h.box)).trans h.box⟩
set_option maxRecDepth 100000 in
set_option maxHeartbeats 8000000 in
theorem codes_walk (k c : Int) (w : World) : Calls Tryd.prog 8 #[.int .i64 k, .int .i64 c] w fun e W => e = .returned (.bool true) ∧ Below w.heap.size w W := by
  have LV := Lib.hid (fun W => lives_any W)
  have OC := fun W => of_any c W
  have OF := Lib.hid (fun (x : Nat) W => of_any (x : Int) W)
  have CD := Lib.hid (fun W => codes_any k W)
  obtain ⟨L, hL⟩ : ∃ L, codeL tabS k = L := ⟨_, rfl⟩
  have CA := Lib.hid (fun i x (h : L[i]? = some x) => code_at (k := k) (by rw [hL]; exact h))
  have CO := Lib.hid (fun i x y (hx : L[i]? = some x) (hy : L[i + 1]? = some y) => code_ord (k := k) (by rw [hL]; exact hx) (by rw [hL]; exact hy))
  have CN := cnt_all k c
  have L40 := codeL_len k 40
  rw [List.take_of_length_le (Nat.le_of_eq tabS_length)] at L40
  rw [hL] at CD CN L40
  obtain ⟨N, hN⟩ : ∃ N, L.length = N := ⟨_, rfl⟩
  rw [hN] at CN L40
  have HN := Lib.hid hN
  have HO := Lib.hid (of_two c)
  obtain ⟨T, b, hT⟩ : ∃ T b, ofT c = (T, b) := ⟨_, _, rfl⟩
  rw [hT] at OC
  unfold ctC at OC
  have HT := Lib.hid hT
  replace OC := Lib.hid OC
  replace CN := Lib.hid CN
  have n40 : (N : Int) ≤ 40 := by omega
  have B0 := Lib.hid (Below.refl w.heap.size w)
  clear hL hN hT L40
  go_in
  go_wp2_with fail
  refine (LV.out _).mono ?_
  rintro e W1 ⟨rfl, hb⟩
  have B1 := Lib.hid (B0.out.trans (hb.mono B0.out.size))
  clear hb
  go_wp2_with fail
  refine (OC.out _).mono ?_
  rintro e W2 ⟨rfl, hb⟩
  have B2 := Lib.hid ((B1.out.trans (hb.mono B1.out.size)).trans ((below_box (w := W2) (.cells (ctC T) 32)).mono (Nat.le_trans B1.out.size hb.size)))
  have G2 := Lib.hid (heap_alloc_new W2 (.cells (ctC T) 32))
  unfold ctC at B2 G2
  clear hb
  go_wp2_with fail
  obtain ⟨W3, hW3⟩ : ∃ W3, W2.alloc (.cells #[.int .i64 (T.code : Nat), .int .i64 (T.kind : Nat), .int .i64 (T.width : Nat), .bool T.sized, .bool T.items] 32) = W3 := ⟨_, rfl⟩
  rw [hW3] at B2 G2 ⊢
  clear hW3
  refine (CD.out _).mono ?_
  rintro e W4 ⟨v, rfl, hv, hb⟩
  have B4 := Lib.hid (B2.out.trans (hb.mono B2.out.size))
  have G4 := Lib.hid ((hb.block _ (lt_of_block G2.out)).trans G2.out)
  have HR := Lib.hid hv
  clear hb hv B0 B1 B2 G2
  have hlen : ∃ A cp, v = .slice A N cp ∧ (0 < N → ∃ g, A = some ⟨g, 0, none⟩ ∧ g < W4.heap.size ∧ ∀ (i x : Nat), L[i]? = some x → W4.cell? ⟨g, i, none⟩ = some (.int .i64 (x : Int))) := by
    rcases HR.out with ⟨h1, h2⟩ | ⟨g, cp, h1, h2, h3⟩
    · have := HN.out; rw [h1] at this
      exact ⟨none, 0, by rw [h2, ← this]; rfl, fun h => by simp at this; omega⟩
    · exact ⟨_, cp, by rw [h1, HN.out], fun _ => ⟨g, rfl, h2, h3⟩⟩
  obtain ⟨A, cp, rfl, hcells⟩ := hlen
  have HC := Lib.hid hcells
  clear hcells HR
  go_wp2_with fail
  go_loopg [8, 9] N (fun gk s8 s9 wr => ∃ i : Nat, i ≤ N ∧ gk = N - i ∧ s9 = .int .i64 (i : Nat) ∧ s8 = .int .i64 (cntA L c i : Nat) ∧ Below W4.heap.size W4 wr)
  case atStart => exact ⟨0, Nat.zero_le _, rfl, rfl, by simp [cntA], Below.refl _ _⟩
  case round =>
    obtain ⟨i, hi, rfl, rfl, rfl, hB⟩ := hrel
    have c40 : (cntA L c i : Int) ≤ 40 := by have := cnt_le L c i; have := HN.out; omega
    by_cases hlt : i < N
    · obtain ⟨x, hx⟩ : ∃ x, L[i]? = some x := ⟨_, List.getElem?_eq_getElem (by rw [HN.out]; exact hlt)⟩
      obtain ⟨u, hxu, hu, hku⟩ := CA.out i x hx
      obtain ⟨g, rfl, hg, hcells⟩ := HC.out (by omega)
      have OX := OF.out x wr
      rw [hu] at OX
      simp only at OX
      unfold ctC at OX
      have CN1 := Lib.hid (cnt_step (c := c) hx)
      have HL := Lib.hid hlt
      subst hxu
      replace OX := Lib.hid OX
      have HU := Lib.hid hu
      have e10 : ((u.kind : Int) != k) = false := by simp [hku]
      clear hu hku
      cases i with
      | zero =>
        have hc0 := (hB.cell (p := ⟨g, 0, none⟩) hg).trans (hcells _ _ hx)
        go_wp2_with fail
        refine (OX.out).mono ?_
        rintro e W5 ⟨rfl, hb⟩
        have S6 := CwS.made u hB hb
        obtain ⟨B5, hB5⟩ : ∃ B5, W5.heap.size = B5 := ⟨_, rfl⟩
        rw [hB5] at S6
        unfold ctC at S6
        clear hb hc0
        go_wp2_with fail
        obtain ⟨W6, hW6⟩ : ∃ W6, W5.alloc (.cells #[.int .i64 (u.code : Nat), .int .i64 (u.kind : Nat), .int .i64 (u.width : Nat), .bool u.sized, .bool u.items] 32) = W6 := ⟨_, rfl⟩
        rw [hW6]
        rw [hW6] at S6
        have H6 := Lib.hid S6
        clear S6 hW6 hB5
        have c6 := (H6.out.low.cell (p := ⟨g, 0, none⟩) hg).trans (hcells _ _ hx)
        obtain ⟨k0, k1, k2, -, -⟩ := ct_cells H6.out.box
        go_quiet (fail)
        have S7 := H6.out.draws nq
        obtain ⟨W7, hW7⟩ : ∃ W7, W6.drewN nq = W7 := ⟨_, rfl⟩
        rw [hW7] at S7 ⊢
        have H7 := Lib.hid S7
        clear S7 hW7 c6 k0 k1 k2 e10
        have c7 := (H7.out.low.cell (p := ⟨g, 0, none⟩) hg).trans (hcells _ _ hx)
        by_cases hxc : (u.code : Int) = c
        · have CN2 := Lib.hid (show cntA L c (0 + 1) = cntA L c (0) + 1 by rw [CN1.out, if_pos (by simpa using hxc)])
          have e16 : ((u.code : Int) == c) = true := by simpa using hxc
          clear hxc
          go_wp2_with fail
          go_roundg (N - (0 + 1))
          case measure => have := HL.out; omega
          case rel => exact ⟨0 + 1, HL.out, rfl, by go_num, by rw [CN2.out]; go_num, H7.out.low⟩
        · have CN2 := Lib.hid (show cntA L c (0 + 1) = cntA L c (0) by rw [CN1.out, if_neg (by simpa using hxc)]; rfl)
          have e16 : ((u.code : Int) == c) = false := by simpa using hxc
          clear hxc
          go_wp2_with fail
          go_roundg (N - (0 + 1))
          case measure => have := HL.out; omega
          case rel => exact ⟨0 + 1, HL.out, rfl, by go_num, by rw [CN2.out], H7.out.low⟩
      | succ j =>
        obtain ⟨y, hy⟩ : ∃ y, L[j]? = some y := ⟨_, List.getElem?_eq_getElem (by rw [HN.out]; omega)⟩
        obtain ⟨v, hyv, hv, -⟩ := CA.out j y hy
        have hwd := CO.out j y _ hy hx
        rw [hv, HU.out] at hwd
        simp only at hwd
        have OY := OF.out y
        rw [hv] at OY
        simp only at OY
        unfold ctC at OY
        replace OY := Lib.hid OY
        have e14 : ¬ ((u.width : Int) < (v.width : Int)) := by omega
        have j1 : ((j + 1 : Nat) : Int) - 1 = (j : Int) := by omega
        have j2 : (0 : Int) < ((j + 1 : Nat) : Int) := by omega
        have j3 : (j : Int) < (N : Int) := by omega
        have j0 : (0 : Int) ≤ (j : Int) := by omega
        have j4 : ((j + 1 : Nat) : Int) < (N : Int) := by omega
        subst hyv
        clear hv hwd
        have hc0 := (hB.cell (p := ⟨g, j + 1, none⟩) hg).trans (hcells _ _ hx)
        go_wp2_with fail
        refine (OX.out).mono ?_
        rintro e W5 ⟨rfl, hb⟩
        have S6 := CwS.made u hB hb
        obtain ⟨B5, hB5⟩ : ∃ B5, W5.heap.size = B5 := ⟨_, rfl⟩
        rw [hB5] at S6
        unfold ctC at S6
        clear hb hc0
        go_wp2_with fail
        obtain ⟨W6, hW6⟩ : ∃ W6, W5.alloc (.cells #[.int .i64 (u.code : Nat), .int .i64 (u.kind : Nat), .int .i64 (u.width : Nat), .bool u.sized, .bool u.items] 32) = W6 := ⟨_, rfl⟩
        rw [hW6]
        rw [hW6] at S6
        have H6 := Lib.hid S6
        clear S6 hW6 hB5
        have c6 := (H6.out.low.cell (p := ⟨g, j + 1, none⟩) hg).trans (hcells _ _ hx)
        obtain ⟨k0, k1, k2, -, -⟩ := ct_cells H6.out.box
        go_quiet (fail)
        have S7 := H6.out.draws nq
        obtain ⟨W7, hW7⟩ : ∃ W7, W6.drewN nq = W7 := ⟨_, rfl⟩
        rw [hW7] at S7 ⊢
        have H7 := Lib.hid S7
        clear S7 hW7 c6 k0 k1 k2 e10
        have c7 := (H7.out.low.cell (p := ⟨g, j + 1, none⟩) hg).trans (hcells _ _ hx)
        have d7 := (H7.out.low.cell (p := ⟨g, j, none⟩) hg).trans (hcells _ _ hy)
        go_wp2_with fail
        refine (OY.out _).mono ?_
        rintro e W8 ⟨rfl, hb⟩
        have S9 := (H7.out.call hb).call (below_box (.cells (ctC v) 32))
        obtain ⟨-, -, m2, -, -⟩ := ct_cells S9.box
        have c9 := (S9.low.cell (p := ⟨g, j + 1, none⟩) hg).trans (hcells _ _ hx)
        unfold ctC at S9 m2 c9
        have H9 := Lib.hid S9
        clear hb c7 d7 S9
        by_cases hxc : (u.code : Int) = c
        · have CN2 := Lib.hid (show cntA L c (j + 1 + 1) = cntA L c (j + 1) + 1 by rw [CN1.out, if_pos (by simpa using hxc)])
          have e16 : ((u.code : Int) == c) = true := by simpa using hxc
          clear hxc
          go_wp2_with fail
          go_roundg (N - (j + 1 + 1))
          case measure => have := HL.out; omega
          case rel => exact ⟨j + 1 + 1, HL.out, rfl, by go_num, by rw [CN2.out]; go_num, H9.out.low⟩
        · have CN2 := Lib.hid (show cntA L c (j + 1 + 1) = cntA L c (j + 1) by rw [CN1.out, if_neg (by simpa using hxc)]; rfl)
          have e16 : ((u.code : Int) == c) = false := by simpa using hxc
          clear hxc
          go_wp2_with fail
          go_roundg (N - (j + 1 + 1))
          case measure => have := HL.out; omega
          case rel => exact ⟨j + 1 + 1, HL.out, rfl, by go_num, by rw [CN2.out], H9.out.low⟩
    · obtain rfl : i = N := by omega
      have G5 := Lib.hid ((hB.block _ (lt_of_block G4.out)).trans G4.out)
      have B5 := Lib.hid (B4.out.trans (hB.mono B4.out.size))
      have CN0 := CN.out
      clear c40 hB n40
      have HT0 := HT.out
      rcases HO.out with ⟨e1, e2⟩ | ⟨t, e1, e2, -, e3⟩
      · rw [e1] at HT0
        cases HT0
        rw [e2, if_neg (by rintro ⟨t, h, -⟩; cases h)] at CN0
        rw [CN0]
        obtain ⟨k0, k1, k2, k3, k4⟩ := ct_cells (t := Ct.zero) G5.out
        unfold Ct.zero at k0 k1 k2 k3 k4 ⊢
        clear CN0 e1 e2
        go_wp2_with fail
        go_ret
        exact ⟨by first | rfl | simp, B5.out⟩
      · rw [e1] at HT0
        cases HT0
        obtain ⟨k0, k1, k2, k3, k4⟩ := ct_cells (t := T) G5.out
        by_cases hk : (T.kind : Int) = k
        · rw [if_pos ⟨T, e2, hk⟩] at CN0
          rw [CN0]
          have e4 : ((T.code : Int) == c) = true := by simpa using e3
          have e5 : ((T.kind : Int) == k) = true := by simpa using hk
          clear CN0 e1 e2 e3 hk
          go_wp2_with fail
          go_ret
          exact ⟨by first | rfl | simp, B5.out⟩
        · rw [if_neg (by rintro ⟨u, h, h2⟩; rw [e2] at h; cases h; exact hk h2)] at CN0
          rw [CN0]
          have e5 : ((T.kind : Int) == k) = false := by simpa using hk
          clear CN0 e1 e2 e3 hk
          go_wp2_with fail
          go_ret
          exact ⟨by first | rfl | simp, B5.out⟩
end Go.Proofs.YtjbgnlnchchgcaaDoor
