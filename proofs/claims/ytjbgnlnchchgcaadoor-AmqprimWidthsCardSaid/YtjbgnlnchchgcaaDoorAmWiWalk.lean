/-
  The walk of polyglotlaw16.AmqprimWidths. Condition: the values are such as came in.
-/
import Derived.Deep.RegionHeld3
import Derived.Test.YtjbgnlnchchgcaaDoorPick
import Derived.Test.YtjbgnlnchchgcaaDoorVaNodes
import Derived.Test.YtjbgnlnchchgcaaDoorAmBaP
import Derived.Test.YtjbgnlnchchgcaaDoorAmCoWalk
import Derived.Test.YtjbgnlnchchgcaaDoorAmWiReg
namespace Go.Proofs.YtjbgnlnchchgcaaDoor
open Go.RowKit

theorem bs_size3 (l : List UInt8) : (bs l).size = l.length := by simp [bs, ByteArray.size]
/-- Two values in their boxes. -/
structure WiB (w : World) (C D : Array Value) (W : World) : Prop where
  one : W.heap[w.heap.size]? = some (.cells C 26 (0, 0))
  two : W.heap[w.heap.size + 1]? = some (.cells D 26 (0, 0))
  low : Below w.heap.size w W
section
variable {w W W' : World} {C D : Array Value}
theorem WiB.start (w : World) (C D : Array Value) : WiB w C D ((w.alloc (.cells C 26)).alloc (.cells D 26)) :=
  ⟨(Below.heap_alloc _ _ _ (by simp)).trans (World.alloc_heap_new w _), by have := World.alloc_heap_new (w.alloc (.cells C 26)) (.cells D 26); rwa [World.size_alloc] at this, (below_box (w := w) _).trans ((below_box _).mono (by simp))⟩
theorem WiB.call (h : WiB w C D W) (hb : Below W.heap.size W W') : WiB w C D W' := ⟨(hb.block _ (lt_of_block h.one)).trans h.one, (hb.block _ (lt_of_block h.two)).trans h.two, h.low.trans (hb.mono h.low.size)⟩
end
theorem four_cells {W : World} {b : Nat} {k : Int} {n : Nat} {s : ByteArray} {X : Value} (h : W.heap[b]? = some (.cells (vC k n s X) 26 (0, 0))) :
    W.cell? ⟨b, 0, none⟩ = some (.int .i64 k) ∧ W.cell? ⟨b, 1, none⟩ = some (.int .u64 (n : Nat)) ∧ W.cell? ⟨b, 2, none⟩ = some (.string s) ∧ W.cell? ⟨b, 3, none⟩ = some X :=
  ⟨cell_of_row _ _ 0 _ _ _ h, cell_of_row _ _ 1 _ _ _ h, cell_of_row _ _ 2 _ _ _ h, cell_of_row _ _ 3 _ _ _ h⟩
/-- Two values, the codes, two constructors. -/
structure WiR (w : World) (C D : Array Value) (L : List Nat) (g p q : Nat) (u v : Ct) (W : World) : Prop where
  b : WiB w C D W
  gl : g < W.heap.size
  cs : ∀ (i x : Nat), L[i]? = some x → W.cell? ⟨g, i, none⟩ = some (.int .i64 (x : Int))
  pu : W.heap[p]? = some (.cells (ctC u) 32 (0, 0))
  qv : W.heap[q]? = some (.cells (ctC v) 32 (0, 0))
theorem WiR.call {w W W' : World} {C D : Array Value} {L : List Nat} {g p q : Nat} {u v : Ct} (h : WiR w C D L g p q u v W) (hb : Below W.heap.size W W') : WiR w C D L g p q u v W' :=
  ⟨h.b.call hb, Nat.lt_of_lt_of_le h.gl hb.size, fun i x hx => (hb.cell (p := ⟨g, i, none⟩) h.gl).trans (h.cs i x hx), (hb.block _ (lt_of_block h.pu)).trans h.pu, (hb.block _ (lt_of_block h.qv)).trans h.qv⟩
theorem WiR.draw {w W : World} {C D : Array Value} {L : List Nat} {g p q : Nat} {u v : Ct} (h : WiR w C D L g p q u v W) : WiR w C D L g p q u v W.drew := h.call (Below.refl W.heap.size W).drew
/-- A code, and a value in its box at o. -/
abbrev WiH (w : World) (C D : Array Value) (L : List Nat) (g p q : Nat) (u v : Ct) (o j y : Nat) (k : Int) (n : Nat) (s : ByteArray) (X : Value) (W : World) : Prop :=
  W.cell? ⟨g, j, none⟩ = some (.int .i64 (y : Int)) ∧ W.cell? ⟨o, 0, none⟩ = some (.int .i64 k) ∧ W.cell? ⟨o, 1, none⟩ = some (.int .u64 (n : Nat)) ∧ W.cell? ⟨o, 2, none⟩ = some (.string s) ∧ W.cell? ⟨o, 3, none⟩ = some X ∧ (WiR w C D L g p q u v W ∧ L[j]? = some y ∧ W.heap[o]? = some (.cells (vC k n s X) 26 (0, 0)))
section
variable {w W W' : World} {C D : Array Value} {L : List Nat} {g p q o j y : Nat} {u v : Ct} {k : Int} {n : Nat} {s : ByteArray} {X : Value}
theorem WiH.of (h : WiR w C D L g p q u v W) (hy : L[j]? = some y) (ho : W.heap[o]? = some (.cells (vC k n s X) 26 (0, 0))) : WiH w C D L g p q u v o j y k n s X W :=
  ⟨h.cs j y hy, (four_cells ho).1, (four_cells ho).2.1, (four_cells ho).2.2.1, (four_cells ho).2.2.2, h, hy, ho⟩
theorem WiH.r (h : WiH w C D L g p q u v o j y k n s X W) : WiR w C D L g p q u v W := h.2.2.2.2.2.1
theorem WiH.call (h : WiH w C D L g p q u v o j y k n s X W) (hb : Below W.heap.size W W') : WiH w C D L g p q u v o j y k n s X W' :=
  WiH.of (h.r.call hb) h.2.2.2.2.2.2.1 ((hb.block _ (lt_of_block h.2.2.2.2.2.2.2)).trans h.2.2.2.2.2.2.2)
end
set_option maxRecDepth 100000 in
set_option maxHeartbeats 8000000 in
theorem wid_off (k : Int) (n : Nat) (t : List UInt8) (A : Option Addr) (cp : Nat) (items : List Av) (k2 : Int) (n2 : Nat) (t2 : List UInt8) (A2 : Option Addr) (cp2 : Nat) (items2 : List Av) (q1 q2 : Nat) (ci ck : Int) (w : World) (hv : VAt q1 w (.mk k n t A cp items)) (hw : VAt q2 w (.mk k2 n2 t2 A2 cp2 items2)) (h : lightV (.mk k n t A cp items) = false ∨ (lightV (.mk k n t A cp items) = true ∧ lightV (.mk k2 n2 t2 A2 cp2 items2) = false)) : Calls Tryd.prog 7 #[.agg (vC k n (bs t) (.slice A items.length cp)), .agg (vC k2 n2 (bs t2) (.slice A2 items2.length cp2)), .int .i64 ci, .int .i64 ck] w fun e W => e = .returned (.bool true) ∧ Below w.heap.size w W := by
  have LV := Lib.hid (fun W => lives_any W)
  have LI := fun W (hb : Below w.heap.size w W) => light_any (.mk k n t A cp items) q1 W (hv.below hb)
  have LJ := fun W (hb : Below w.heap.size w W) => light_any (.mk k2 n2 t2 A2 cp2 items2) q2 W (hw.below hb)
  rw [show avC (.mk k n t A cp items) = vC k n (bs t) (.slice A items.length cp) from rfl] at LI
  rw [show avC (.mk k2 n2 t2 A2 cp2 items2) = vC k2 n2 (bs t2) (.slice A2 items2.length cp2) from rfl] at LJ
  generalize items.length = m at *
  generalize items2.length = m2 at *
  have S0 := Lib.hid (WiB.start w (vC k n (bs t) (.slice A m cp)) (vC k2 n2 (bs t2) (.slice A2 m2 cp2)))
  rcases h with h | ⟨h, h2⟩
  · rw [h] at LI
    replace LI := Lib.hid LI
    clear hv hw h LJ
    unfold vC at LI ⊢
    go_in
    go_wp2_with fail
    refine (LV.out _).mono ?_
    rintro e W1 ⟨rfl, hb⟩
    have S1 := Lib.hid (S0.out.call hb)
    clear hb
    obtain ⟨c0, c1, c2, c3⟩ := four_cells S1.out.one
    go_wp2_with fail
    refine (LI.out _ S1.out.low).mono ?_
    rintro e W2 ⟨rfl, hb⟩
    have S2 := Lib.hid (S1.out.call hb)
    clear hb c0 c1 c2 c3
    go_wp2_with fail
    go_ret
    exact ⟨rfl, S2.out.low⟩
  · rw [h] at LI
    rw [h2] at LJ
    replace LI := Lib.hid LI
    replace LJ := Lib.hid LJ
    clear hv hw h h2
    unfold vC at LI LJ ⊢
    go_in
    go_wp2_with fail
    refine (LV.out _).mono ?_
    rintro e W1 ⟨rfl, hb⟩
    have S1 := Lib.hid (S0.out.call hb)
    clear hb
    obtain ⟨c0, c1, c2, c3⟩ := four_cells S1.out.one
    go_wp2_with fail
    refine (LI.out _ S1.out.low).mono ?_
    rintro e W2 ⟨rfl, hb⟩
    have S2 := Lib.hid (S1.out.call hb)
    clear hb c0 c1 c2 c3
    obtain ⟨d0, d1, d2, d3⟩ := four_cells S2.out.two
    go_wp2_with fail
    refine (LJ.out _ S2.out.low).mono ?_
    rintro e W3 ⟨rfl, hb⟩
    have S3 := Lib.hid (S2.out.call hb)
    clear hb d0 d1 d2 d3
    go_wp2_with fail
    go_ret
    exact ⟨rfl, S3.out.low⟩
set_option maxRecDepth 100000 in
set_option maxHeartbeats 8000000 in
theorem wid_bad (k : Int) (n : Nat) (t : List UInt8) (A : Option Addr) (cp : Nat) (items : List Av) (k2 : Int) (n2 : Nat) (t2 : List UInt8) (A2 : Option Addr) (cp2 : Nat) (items2 : List Av) (q1 q2 : Nat) (ci ck : Int) (w : World) (hv : VAt q1 w (.mk k n t A cp items)) (hw : VAt q2 w (.mk k2 n2 t2 A2 cp2 items2)) (hl : lightV (.mk k n t A cp items) = true) (hl2 : lightV (.mk k2 n2 t2 A2 cp2 items2) = true) (hn : n < 18446744073709551616) (hc : checkV (svC k n t items.length) ≠ 0) : Calls Tryd.prog 7 #[.agg (vC k n (bs t) (.slice A items.length cp)), .agg (vC k2 n2 (bs t2) (.slice A2 items2.length cp2)), .int .i64 ci, .int .i64 ck] w fun e W => e = .returned (.bool true) ∧ Below w.heap.size w W := by
  have LV := Lib.hid (fun W => lives_any W)
  have LI := fun W (hb : Below w.heap.size w W) => light_any (.mk k n t A cp items) q1 W (hv.below hb)
  have LJ := fun W (hb : Below w.heap.size w W) => light_any (.mk k2 n2 t2 A2 cp2 items2) q2 W (hw.below hb)
  rw [show avC (.mk k n t A cp items) = vC k n (bs t) (.slice A items.length cp) from rfl] at LI
  rw [show avC (.mk k2 n2 t2 A2 cp2 items2) = vC k2 n2 (bs t2) (.slice A2 items2.length cp2) from rfl] at LJ
  rw [hl] at LI
  rw [hl2] at LJ
  have ht : t.length ≤ 400 := (light_lite hl).2.1
  generalize items.length = m at *
  generalize items2.length = m2 at *
  have CK := fun W => check_any k n (bs t) A m cp W hn (by rw [bs_size3]; omega)
  rw [show (bs t).data.toList = t from rfl] at CK
  obtain ⟨z, hz⟩ : ∃ z, checkV (svC k n t m) = z := ⟨_, rfl⟩
  rw [hz] at CK hc
  have e0 : ((z : Int) != 0) = true := by simp; exact hc
  have CD := Lib.hid (fun W => codes_any k W)
  have S0 := Lib.hid (WiB.start w (vC k n (bs t) (.slice A m cp)) (vC k2 n2 (bs t2) (.slice A2 m2 cp2)))
  replace LI := Lib.hid LI
  replace LJ := Lib.hid LJ
  replace CK := Lib.hid CK
  clear hv hw hl hl2 hn hc hz ht
  unfold vC at LI LJ CK ⊢
  go_in
  go_wp2_with fail
  refine (LV.out _).mono ?_
  rintro e W1 ⟨rfl, hb⟩
  have S1 := Lib.hid (S0.out.call hb)
  clear hb
  obtain ⟨c0, c1, c2, c3⟩ := four_cells S1.out.one
  go_wp2_with fail
  refine (LI.out _ S1.out.low).mono ?_
  rintro e W2 ⟨rfl, hb⟩
  have S2 := Lib.hid (S1.out.call hb)
  clear hb c0 c1 c2 c3
  obtain ⟨d0, d1, d2, d3⟩ := four_cells S2.out.two
  go_wp2_with fail
  refine (LJ.out _ S2.out.low).mono ?_
  rintro e W3 ⟨rfl, hb⟩
  have S3 := Lib.hid (S2.out.call hb)
  clear hb d0 d1 d2 d3
  obtain ⟨c0, -⟩ := four_cells S3.out.one
  go_wp2_with fail
  refine (CD.out _).mono ?_
  rintro e W4 ⟨y, rfl, hv, hb⟩
  have S4 := Lib.hid (S3.out.call hb)
  clear c0 hb
  obtain ⟨A3, N, cp3, rfl⟩ : ∃ A3 N cp3, y = .slice A3 N cp3 := by
    rcases hv with ⟨-, h⟩ | ⟨g, c, h, -⟩
    · exact ⟨_, _, _, h⟩
    · exact ⟨_, _, _, h⟩
  clear hv
  by_cases h0 : N = 0
  · subst h0
    go_wp2_with fail
    go_ret
    exact ⟨rfl, S4.out.low⟩
  · have h1 : ((N : Int) == 0) = false := by simp; exact h0
    clear h0
    obtain ⟨c0, c1, c2, c3⟩ := four_cells S4.out.one
    go_wp2_with fail
    refine (CK.out _).mono ?_
    rintro e W5 ⟨rfl, hb⟩
    have S5 := Lib.hid (S4.out.call hb)
    clear hb c0 c1 c2 c3
    go_wp2_with fail
    go_ret
    exact ⟨rfl, S5.out.low⟩
theorem same_two (k : Int) (n : Nat) (t : List UInt8) (A : Option Addr) (cp : Nat) (items : List Av) (k2 : Int) (n2 : Nat) (t2 : List UInt8) (A2 : Option Addr) (cp2 : Nat) (items2 : List Av) (q1 q2 : Nat) (ci ck : Int) (w : World) (hv : VAt q1 w (.mk k n t A cp items)) (hw : VAt q2 w (.mk k2 n2 t2 A2 cp2 items2)) (ok : VOk q1 (.mk k n t A cp items)) (h1 : items.length = 0) (h2 : items2.length = 0) (W : World) (hb : Below w.heap.size w W) :
    Calls Tryd.prog 16 #[.agg (vC k n (bs t) (.slice A items.length cp)), .agg (vC k2 n2 (bs t2) (.slice A2 items2.length cp2))] W fun e W' => e = .returned (.bool (decide (svC k n t items.length = svC k2 n2 t2 items2.length))) ∧ Below W.heap.size W W' := by
  obtain rfl : items = [] := List.eq_nil_of_length_eq_zero h1
  obtain rfl : items2 = [] := List.eq_nil_of_length_eq_zero h2
  cases q1 with
  | zero => exact absurd hv (by simp [VAt])
  | succ q1 =>
    have hw2 : VAt (q1 + 1) W (.mk k2 n2 t2 A2 cp2 []) := by
      cases q2 with
      | zero => exact absurd hw (by simp [VAt])
      | succ q2 => exact ⟨hw.1, hw.2.1, fun h => absurd h (Nat.lt_irrefl _), fun _ h => nomatch h⟩
    have h := same_any_v (q1 + 1) (.mk k n t A cp []) (.mk k2 n2 t2 A2 cp2 []) W (hv.below hb) hw2 ok
    have e : sameV (q1 + 1) (.mk k n t A cp []) (.mk k2 n2 t2 A2 cp2 []) = decide (svC k n t ([] : List Av).length = svC k2 n2 t2 ([] : List Av).length) := by
      rw [show sameV (q1 + 1) (.mk k n t A cp []) (.mk k2 n2 t2 A2 cp2 []) = (decide (k = k2) && decide (n = n2) && decide (t = t2) && decide ((0 : Nat) = 0) && true) from rfl]
      unfold svC
      rw [Bool.eq_iff_iff]
      simp [and_assoc]
    rw [e] at h
    exact h
theorem ext_drop (l : List UInt8) (k : Nat) : (bs l).extract k (bs l).size = bs (l.drop k) := by
  apply ByteArray.ext; apply Array.ext'
  simp [bs, List.extract_eq_take_drop]
  rw [show (ByteArray.mk l.toArray).size = l.length by simp [ByteArray.size], List.take_of_length_le (by simp)]
set_option maxRecDepth 100000 in
set_option maxHeartbeats 8000000 in
theorem wid_on (k : Int) (n : Nat) (t : List UInt8) (A : Option Addr) (cp : Nat) (items : List Av) (k2 : Int) (n2 : Nat) (t2 : List UInt8) (A2 : Option Addr) (cp2 : Nat) (items2 : List Av) (q1 q2 : Nat) (ci ck : Int) (w : World) (hv : VAt q1 w (.mk k n t A cp items)) (hw : VAt q2 w (.mk k2 n2 t2 A2 cp2 items2)) (ok : VOk q1 (.mk k n t A cp items)) (ok2 : VOk q2 (.mk k2 n2 t2 A2 cp2 items2)) (hl : lightV (.mk k n t A cp items) = true) (hl2 : lightV (.mk k2 n2 t2 A2 cp2 items2) = true) (hc : checkV (svC k n t items.length) = 0) : Calls Tryd.prog 7 #[.agg (vC k n (bs t) (.slice A items.length cp)), .agg (vC k2 n2 (bs t2) (.slice A2 items2.length cp2)), .int .i64 ci, .int .i64 ck] w fun e W => e = .returned (.bool true) ∧ Below w.heap.size w W := by
  have LV := Lib.hid (fun W => lives_any W)
  have LI := fun W (hb : Below w.heap.size w W) => light_any (.mk k n t A cp items) q1 W (hv.below hb)
  have LJ := fun W (hb : Below w.heap.size w W) => light_any (.mk k2 n2 t2 A2 cp2 items2) q2 W (hw.below hb)
  rw [show avC (.mk k n t A cp items) = vC k n (bs t) (.slice A items.length cp) from rfl] at LI
  rw [show avC (.mk k2 n2 t2 A2 cp2 items2) = vC k2 n2 (bs t2) (.slice A2 items2.length cp2) from rfl] at LJ
  rw [hl] at LI
  rw [hl2] at LJ
  have ht : t.length ≤ 400 := (light_lite hl).2.1
  have ht2 : t2.length ≤ 400 := (light_lite hl2).2.1
  have hn : n < 18446744073709551616 := by
    cases q1 with
    | zero => exact absurd ok (by simp [VOk])
    | succ q => exact ok.2.1
  have hn2 : n2 < 18446744073709551616 := by
    cases q2 with
    | zero => exact absurd ok2 (by simp [VOk])
    | succ q => exact ok2.2.1
  have SM := fun h1 h2 W hb => same_two k n t A cp items k2 n2 t2 A2 cp2 items2 q1 q2 ci ck w hv hw ok h1 h2 W hb
  generalize items.length = m at *
  generalize items2.length = m2 at *
  have CK := fun W => check_any k n (bs t) A m cp W hn (by rw [bs_size3]; omega)
  have FI := fun (x : Nat) W => fits_any (x : Int) k n (bs t) A m cp W hn (by rw [bs_size3]; omega)
  have PV := fun (x : Nat) W => aput_any (x : Int) k n (bs t) A m cp W hn (by rw [bs_size3]; omega)
  have PW := fun (x : Nat) W => aput_any (x : Int) k2 n2 (bs t2) A2 m2 cp2 W hn2 (by rw [bs_size3]; omega)
  simp only [show ∀ l : List UInt8, (bs l).data.toList = l from fun _ => rfl] at CK FI PV PW
  rw [hc] at CK
  obtain ⟨v, hvv⟩ : ∃ v, svC k n t m = v := ⟨_, rfl⟩
  obtain ⟨v2, hvv2⟩ : ∃ v, svC k2 n2 t2 m2 = v := ⟨_, rfl⟩
  have hvk : v.kind = k := by rw [← hvv]; rfl
  have hvm : v.items = m := by rw [← hvv]; rfl
  have hvm2 : v2.items = m2 := by rw [← hvv2]; rfl
  have hvt : v.text = t := by rw [← hvv]; rfl
  have hvn : v.n < 18446744073709551616 := by rw [← hvv]; exact hn
  have hvn2 : v2.n < 18446744073709551616 := by rw [← hvv2]; exact hn2
  rw [hvv] at hc
  simp only [hvv] at FI PV SM
  simp only [hvv2] at PW SM
  obtain ⟨L, hL⟩ : ∃ L, codeL tabS k = L := ⟨_, rfl⟩
  have CA := fun i x (h : L[i]? = some x) => code_at (k := k) (by rw [hL]; exact h)
  have CG := fun i x (h : L[i]? = some x) => code_get (k := k) (by rw [hL]; exact h)
  have CD := fun W => codes_any k W
  rw [hL] at CD
  have hL0 : 0 < L.length := by
    obtain ⟨u, hu, -⟩ := some_fits hc
    rw [hvk] at hu
    rw [← hL, codeL_map, List.length_map]
    exact List.length_pos_of_mem hu
  have L40 : L.length ≤ 40 := by have := codeL_len k 40; rw [List.take_of_length_le (Nat.le_of_eq tabS_length), hL] at this; exact this
  obtain ⟨N, hN⟩ : ∃ N, L.length = N := ⟨_, rfl⟩
  rw [hN] at hL0 L40
  obtain ⟨i, hi⟩ : ∃ i : Nat, ci % (N : Int) = (i : Int) := ⟨(ci % (N : Int)).toNat, by have := Int.emod_nonneg ci (show (N : Int) ≠ 0 by omega); omega⟩
  obtain ⟨j, hj⟩ : ∃ i : Nat, ck % (N : Int) = (i : Int) := ⟨(ck % (N : Int)).toNat, by have := Int.emod_nonneg ck (show (N : Int) ≠ 0 by omega); omega⟩
  have hiN : i < N := by have := Int.emod_lt_of_pos ci (show 0 < (N : Int) by omega); omega
  have hjN : j < N := by have := Int.emod_lt_of_pos ck (show 0 < (N : Int) by omega); omega
  have PI := fun W => pick_any ci (N : Int) W (by omega) (by omega)
  have PJ := fun W => pick_any ck (N : Int) W (by omega) (by omega)
  rw [hi] at PI
  rw [hj] at PJ
  obtain ⟨x, hx⟩ : ∃ x, L[i]? = some x := ⟨_, List.getElem?_eq_getElem (by omega)⟩
  obtain ⟨y, hy⟩ : ∃ y, L[j]? = some y := ⟨_, List.getElem?_eq_getElem (by omega)⟩
  obtain ⟨u, hu, hux⟩ := CG i x hx
  obtain ⟨u2, hu2, huy⟩ := CG j y hy
  have hum := codes_mem.1 (List.mem_of_getElem? hu)
  have hum2 := codes_mem.1 (List.mem_of_getElem? hu2)
  have OX := fun W => of_any (x : Int) W
  have OY := fun W => of_any (y : Int) W
  rw [show ofT (x : Int) = (u, true) by rw [hux]; unfold ofT; rw [mem_of hum.1]] at OX
  rw [show ofT (y : Int) = (u2, true) by rw [huy]; unfold ofT; rw [mem_of hum2.1]] at OY
  have hww : (0 : Int) < (u.width : Nat) → ((u.width : Nat) : Int) ≤ (u2.width : Nat) → fitsV (x : Int) v = true → fitsV (y : Int) v = true := fun h1 h2 h3 => by
    rw [hux, fitsV_is (by rw [hvk]; exact List.mem_of_getElem? hu) hc] at h3
    rw [huy, fitsV_is (by rw [hvk]; exact List.mem_of_getElem? hu2) hc]
    exact wide_fits hum.1 hum2.1 (by rw [hvk]; exact hum.2) (by rw [hvk]; exact hum2.2) hc (by omega) (by omega) h3
  obtain ⟨D1, e1, hD1⟩ : ∃ D e, putV (y : Int) v = (D, e) := ⟨_, _, rfl⟩
  obtain ⟨D2, e2, hD2⟩ : ∃ D e, putV (y : Int) v2 = (D, e) := ⟨_, _, rfl⟩
  have FX := fun W => FI x W
  have FY := fun W => FI y W
  have PV1 := fun W => PV y W
  have PW1 := fun W => PW y W
  rw [hD1] at PV1
  rw [hD2] at PW1
  have PN := put_nil (c := (y : Int)) (v := v)
  have PP := put_parts (c := (y : Int)) (v := v)
  have PP2 := put_parts (c := (y : Int)) (v := v2)
  have PS := put_same (c := (y : Int)) (v := v) (w := v2) hvn hvn2
  rw [hD1] at PN PP PS
  rw [hD2] at PP2 PS
  simp only at PN PP PP2 PS
  have SM1 : e1 = 0 → e2 = 0 → ∀ W, Below w.heap.size w W → Calls Tryd.prog 16 #[.agg (vC k n (bs t) (.slice A m cp)), .agg (vC k2 n2 (bs t2) (.slice A2 m2 cp2))] W fun e W' => e = .returned (.bool ((bs D1).toList == (bs D2).toList)) ∧ Below W.heap.size W W' := fun h1 h2 W hb => by
    obtain ⟨-, -, -, -, -, c1, -⟩ := PP h1
    obtain ⟨-, -, -, -, -, c2, -⟩ := PP2 h2
    have := SM (by rw [← hvm]; exact (check_v c1).2.2.1) (by rw [← hvm2]; exact (check_v c2).2.2.1) W hb
    have e : decide (v = v2) = ((bs D1).toList == (bs D2).toList) := by
      rw [bs_toList, bs_toList, Bool.eq_iff_iff, decide_eq_true_eq, beq_iff_eq]
      exact (PS h1 h2).symm
    rw [e] at this
    exact this
  have END : e1 = 0 → (u2.sized = true → D1.length = u2.width + t.length ∧ D1.drop u2.width = t) ∧ (u2.sized = false → D1.length = u2.width) := fun h1 => by
    obtain ⟨t0, ho, hm0, hk0, hi0, hc0, hf0, hd0⟩ := PP h1
    rw [huy, mem_of hum2.1] at ho
    cases ho
    have hdl := data_length (t := u2) (v := v) (fun a b => (check_v hc).2.2.2.2.1 ((tab_sized u2 hm0 hi0).2.1 a b |>.imp (fun e => by rw [← hk0, e]; rfl) (fun e => by rw [← hk0, e]; rfl)))
    rw [← hd0, hvt] at hdl
    refine ⟨fun hs => ?_, fun hs => by rw [hs] at hdl; simpa using hdl⟩
    rw [hs, if_pos rfl] at hdl
    refine ⟨hdl, ?_⟩
    rw [hd0]
    unfold dataV
    rw [hs, if_pos rfl, List.drop_left' (be_length _ _), hvt]
  have n40 : (N : Int) ≤ 40 := by omega
  have i0 : (i : Int) < (N : Int) := by omega
  have j0 : (j : Int) < (N : Int) := by omega
  have hN1 : ((N : Int) == 0) = false := by simp; omega
  have S0 := Lib.hid (WiB.start w (vC k n (bs t) (.slice A m cp)) (vC k2 n2 (bs t2) (.slice A2 m2 cp2)))
  have FXW := Lib.hid FX
  have FYW := Lib.hid FY
  have HWW := Lib.hid hww
  have HXY := Lib.hid (And.intro hx hy)
  have HN := Lib.hid hN
  have SMW := Lib.hid SM1
  have EN := Lib.hid END
  have PNW := Lib.hid PN
  have HSM := Lib.hid (And.intro ht ((show ∀ x ∈ tabA, x.width ≤ 16 by decide +kernel) u2 hum2.1))
  unfold vC at LI LJ CK PV1 PW1
  unfold ctC at OX OY
  have LIW := Lib.hid LI
  have LJW := Lib.hid LJ
  have CDW := Lib.hid CD
  have CKW := Lib.hid CK
  have PIW := Lib.hid PI
  have PJW := Lib.hid PJ
  have OXW := Lib.hid OX
  have OYW := Lib.hid OY
  have PV := Lib.hid PV1
  have PW := Lib.hid PW1
  clear hv hw ok ok2 hl hl2 hc ht ht2 hn hn2 SM CK FI hvv hvv2 hvk hvm hvm2 hvt hvn hvn2 CA CG CD hL hL0 L40 hN hi hj hiN hjN PI PJ hx hy hu hux hu2 huy hum hum2 OX OY hww hD1 hD2 FX FY PV1 PW1 PN PP PP2 PS SM1 END LI LJ
  unfold vC
  go_in
  go_wp2_with fail
  refine (LV.out _).mono ?_
  rintro e W1 ⟨rfl, hb⟩
  have S1 := Lib.hid (S0.out.call hb)
  clear hb
  obtain ⟨c0, c1, c2, c3⟩ := four_cells S1.out.one
  go_wp2_with fail
  refine (LIW.out _ S1.out.low).mono ?_
  rintro e W2 ⟨rfl, hb⟩
  have S2 := Lib.hid (S1.out.call hb)
  clear hb c0 c1 c2 c3
  obtain ⟨d0, d1, d2, d3⟩ := four_cells S2.out.two
  go_wp2_with fail
  refine (LJW.out _ S2.out.low).mono ?_
  rintro e W3 ⟨rfl, hb⟩
  have S3 := Lib.hid (S2.out.call hb)
  clear hb d0 d1 d2 d3
  obtain ⟨c0, -⟩ := four_cells S3.out.one
  go_wp2_with fail
  refine (CDW.out _).mono ?_
  rintro e W4 ⟨yv, rfl, hv, hb⟩
  have S4 := Lib.hid (S3.out.call hb)
  clear c0 hb S0 S1 S2 S3
  obtain ⟨g, cp3, rfl, hg, hcs⟩ : ∃ g c, yv = .slice (some ⟨g, 0, none⟩) N c ∧ g < W4.heap.size ∧ ∀ (i x : Nat), L[i]? = some x → W4.cell? ⟨g, i, none⟩ = some (.int .i64 (x : Int)) := by
    rcases hv with ⟨h1, -⟩ | ⟨g, c, h1, h2, h3⟩
    · have := HN.out; rw [h1] at this; simp at this; omega
    · exact ⟨g, c, by rw [h1, HN.out], h2, h3⟩
  have HG := Lib.hid hg
  have HC := Lib.hid hcs
  clear hv hg hcs
  obtain ⟨c0, c1, c2, c3⟩ := four_cells S4.out.one
  go_wp2_with fail
  refine (CKW.out _).mono ?_
  rintro e W5 ⟨rfl, hb⟩
  have S5 := Lib.hid (S4.out.call hb)
  have G5 := Lib.hid (Nat.lt_of_lt_of_le HG.out hb.size)
  have C5 := Lib.hid (fun i x h => (hb.cell (p := ⟨g, i, none⟩) HG.out).trans (HC.out i x h))
  clear hb c0 c1 c2 c3
  go_wp2_with fail
  refine (PIW.out _).mono ?_
  rintro e W5 ⟨rfl, rfl⟩
  go_wp2_with fail
  refine (PJW.out _).mono ?_
  rintro e W5 ⟨rfl, rfl⟩
  have ca := C5.out i x HXY.out.1
  go_wp2_with fail
  refine (OXW.out _).mono ?_
  rintro e W6 ⟨rfl, hb⟩
  have hb6 := hb.trans ((below_box (w := W6) (.cells (ctC u) 32)).mono hb.size)
  have S6 := Lib.hid (S5.out.call hb6)
  have G6 := Lib.hid (Nat.lt_of_lt_of_le G5.out hb6.size)
  have C6 := Lib.hid (fun i x h => (hb6.cell (p := ⟨g, i, none⟩) G5.out).trans (C5.out i x h))
  have P6 := Lib.hid (heap_alloc_new W6 (.cells (ctC u) 32))
  have cb := C6.out j y HXY.out.2
  unfold ctC at cb S6 G6 C6 P6
  clear hb hb6 ca
  go_wp2_with fail
  refine (OYW.out _).mono ?_
  rintro e W7 ⟨rfl, hb⟩
  have hb7 := hb.trans ((below_box (w := W7) (.cells (ctC u2) 32)).mono hb.size)
  have R7 := (⟨S6.out.call hb7, Nat.lt_of_lt_of_le G6.out hb7.size, fun i x h => (hb7.cell (p := ⟨g, i, none⟩) G6.out).trans (C6.out i x h), (hb7.block _ (lt_of_block P6.out)).trans P6.out, heap_alloc_new W7 _⟩ : WiR w (vC k n (bs t) (.slice A m cp)) (vC k2 n2 (bs t2) (.slice A2 m2 cp2)) L g W6.heap.size W7.heap.size u u2 _)
  have R8 := Lib.hid R7.draw
  clear hb hb7 cb R7
  unfold ctC at R8
  go_wp2_with fail
  refine wid_all (S := fun V => WiR w (vC k n (bs t) (.slice A m cp)) (vC k2 n2 (bs t2) (.slice A2 m2 cp2)) L g W6.heap.size W7.heap.size u u2 V) (p := W6.heap.size) (q := W7.heap.size) (g := w.heap.size) (l := g) (i := i) (j := j) (n := N) (c := cp3) (a1 := (u.width : Nat)) (a2 := (u2.width : Nat)) (x := (x : Nat)) (y := (y : Nat)) (C := vC k n (bs t) (.slice A m cp)) (fx := fitsV (x : Int) v) (fy := fitsV (y : Int) v)
    R8.out (fun V h => (ct_cells h.pu).2.2.1) (fun V h => (ct_cells h.qv).2.2.1) rfl (fun V h => h.b.one) i0 (fun V h => h.cs i x HXY.out.1) j0 (fun V h => h.cs j y HXY.out.2)
    (fun V h => (FXW.out V).mono fun e W' hh => ⟨hh.1, h.call hh.2⟩) (fun V h => (FYW.out V).mono fun e W' hh => ⟨hh.1, h.call hh.2⟩) HWW.out ?_
  intro W8 R9
  have R9 := Lib.hid R9
  intros
  clear R8 S4 S5 S6 G5 G6 C5 C6 P6 HC HG FXW FYW HWW
  go_wp2_with fail
  have hS := (WiH.of R9.out HXY.out.2 R9.out.b.one : WiH w (vC k n (bs t) (.slice A m cp)) (vC k2 n2 (bs t2) (.slice A2 m2 cp2)) L g W6.heap.size W7.heap.size u u2 (w.heap.size) j y k n (bs t) (.slice A m cp) W8)
  have hS := hS.call ((Below.refl W8.heap.size W8).drew)
  go_region_held3 (fun V => WiH w (vC k n (bs t) (.slice A m cp)) (vC k2 n2 (bs t2) (.slice A2 m2 cp2)) L g W6.heap.size W7.heap.size u u2 (w.heap.size) j y k n (bs t) (.slice A m cp) V) (exact hS)
    (first
      | (go_at_call 15; with_reducible refine (PV.out _).mono ?_; rintro e w1 ⟨rfl, hb⟩; have hS := hS.call hb; clear hb))
  have R10 := Lib.hid hS.r
  clear hS
  go_wp2_with fail
  have hS := (WiH.of R10.out HXY.out.2 R10.out.b.two : WiH w (vC k n (bs t) (.slice A m cp)) (vC k2 n2 (bs t2) (.slice A2 m2 cp2)) L g W6.heap.size W7.heap.size u u2 (w.heap.size + 1) j y k2 n2 (bs t2) (.slice A2 m2 cp2) w1)
  have hS := hS.call ((Below.refl w1.heap.size w1).drew)
  go_region_held3 (fun V => WiH w (vC k n (bs t) (.slice A m cp)) (vC k2 n2 (bs t2) (.slice A2 m2 cp2)) L g W6.heap.size W7.heap.size u u2 (w.heap.size + 1) j y k2 n2 (bs t2) (.slice A2 m2 cp2) V) (exact hS)
    (first
      | (go_at_call 15; with_reducible refine (PW.out _).mono ?_; rintro e w1 ⟨rfl, hb⟩; have hS := hS.call hb; clear hb))
  have R11 := Lib.hid hS.r
  clear hS
  by_cases he1 : e1 = 0
  · subst he1
    by_cases he2 : e2 = 0
    · subst he2
      have SMV := SMW.out rfl rfl _ R11.out.b.low
      obtain ⟨z, hz⟩ : ∃ z, ((bs D1).toList == (bs D2).toList) = z := ⟨_, rfl⟩
      rw [hz] at SMV
      unfold vC at SMV
      replace SMV := Lib.hid SMV
      obtain ⟨c0, c1, c2, c3⟩ := four_cells R11.out.b.one
      obtain ⟨d0, d1, d2, d3⟩ := four_cells R11.out.b.two
      go_wp2_with fail
      refine (SMV.out).mono ?_
      rintro e W9 ⟨rfl, hb⟩
      have RR := Lib.hid (R11.out.call hb)
      clear hb c0 c1 c2 c3 d0 d1 d2 d3
      obtain ⟨c0, c1, c2, c3⟩ := four_cells RR.out.b.one
      obtain ⟨-, -, q2, q3, -⟩ := ct_cells RR.out.qv
      have hz2 : (z != z) = false := by simp
      cases hsz : u2.sized
      · have hl1 : ((bs D1).size : Int) = (u2.width : Nat) := by rw [bs_size3, (EN.out (by trivial)).2 hsz]
        rw [hsz] at q3
        clear hsz
        go_wp2_with fail
        go_ret
        exact ⟨by simp_all, RR.out.b.low⟩
      · have hl1 : ((bs D1).size : Int) = ((u2.width : Nat) : Int) + ((bs t).size : Int) := by rw [bs_size3, bs_size3, ((EN.out (by trivial)).1 hsz).1]; omega
        have hl2 : (bs D1).extract u2.width (bs D1).size = bs t := by rw [ext_drop, ((EN.out (by trivial)).1 hsz).2]
        have hl3 : ((u2.width : Nat) : Int) ≤ ((bs D1).size : Int) := by omega
        have hl4 : (0 : Int) ≤ ((u2.width : Nat) : Int) := by omega
        have hl6 : ((bs t).size : Int) ≤ 400 := by rw [bs_size3]; have := HSM.out.1; omega
        have hl7 : ((u2.width : Nat) : Int) ≤ 16 := by have := HSM.out.2; omega
        have hl5 : IntKind.i64.wrap (((u2.width : Nat) : Int) + ((bs t).size : Int)) = ((u2.width : Nat) : Int) + ((bs t).size : Int) := by simp only [IntKind.wrap_i64]; omega
        rw [hsz] at q3
        clear hsz
        go_wp2_with fail
        go_quiet (fail)
        go_wp2_with fail
        go_ret
        exact ⟨by simp_all, below_draws RR.out.b.low _⟩
    · have e7 : ((e2 : Int) == 0) = false := by simp; exact he2
      have RR := R11
      clear R11 he2
      obtain ⟨c0, c1, c2, c3⟩ := four_cells RR.out.b.one
      obtain ⟨-, -, q2, q3, -⟩ := ct_cells RR.out.qv
      cases hsz : u2.sized
      · have hl1 : ((bs D1).size : Int) = (u2.width : Nat) := by rw [bs_size3, (EN.out (by trivial)).2 hsz]
        rw [hsz] at q3
        clear hsz
        go_wp2_with fail
        go_ret
        exact ⟨by simp_all, RR.out.b.low⟩
      · have hl1 : ((bs D1).size : Int) = ((u2.width : Nat) : Int) + ((bs t).size : Int) := by rw [bs_size3, bs_size3, ((EN.out (by trivial)).1 hsz).1]; omega
        have hl2 : (bs D1).extract u2.width (bs D1).size = bs t := by rw [ext_drop, ((EN.out (by trivial)).1 hsz).2]
        have hl3 : ((u2.width : Nat) : Int) ≤ ((bs D1).size : Int) := by omega
        have hl4 : (0 : Int) ≤ ((u2.width : Nat) : Int) := by omega
        have hl6 : ((bs t).size : Int) ≤ 400 := by rw [bs_size3]; have := HSM.out.1; omega
        have hl7 : ((u2.width : Nat) : Int) ≤ 16 := by have := HSM.out.2; omega
        have hl5 : IntKind.i64.wrap (((u2.width : Nat) : Int) + ((bs t).size : Int)) = ((u2.width : Nat) : Int) + ((bs t).size : Int) := by simp only [IntKind.wrap_i64]; omega
        rw [hsz] at q3
        clear hsz
        go_wp2_with fail
        go_quiet (fail)
        go_wp2_with fail
        go_ret
        exact ⟨by simp_all, below_draws RR.out.b.low _⟩
  · have e9 : ((e1 : Int) == 0) = false := by simp; exact he1
    have e8 : ((e1 : Int) != 0) = true := by simp; exact he1
    obtain rfl : D1 = [] := PNW.out he1
    rw [show bs [] = (⟨#[]⟩ : ByteArray) from rfl]
    clear he1
    go_wp2_with fail
    go_ret
    exact ⟨by first | rfl | simp, R11.out.b.low⟩
theorem widths_walk (v v2 : Av) (q1 q2 : Nat) (ci ck : Int) (w : World) (hv : VAt q1 w v) (ok : VOk q1 v) (hw : VAt q2 w v2) (ok2 : VOk q2 v2) : Calls Tryd.prog 7 #[.agg (avC v), .agg (avC v2), .int .i64 ci, .int .i64 ck] w fun e W => e = .returned (.bool true) ∧ Below w.heap.size w W := by
  obtain ⟨k, n, t, A, cp, items⟩ := v
  obtain ⟨k2, n2, t2, A2, cp2, items2⟩ := v2
  cases hl : lightV (.mk k n t A cp items)
  · exact wid_off k n t A cp items k2 n2 t2 A2 cp2 items2 q1 q2 ci ck w hv hw (.inl hl)
  · cases hl2 : lightV (.mk k2 n2 t2 A2 cp2 items2)
    · exact wid_off k n t A cp items k2 n2 t2 A2 cp2 items2 q1 q2 ci ck w hv hw (.inr ⟨hl, hl2⟩)
    · by_cases hc : checkV (svC k n t items.length) = 0
      · exact wid_on k n t A cp items k2 n2 t2 A2 cp2 items2 q1 q2 ci ck w hv hw ok ok2 hl hl2 hc
      · have hn : n < 18446744073709551616 := by
          cases q1 with
          | zero => exact absurd ok (by simp [VOk])
          | succ q => exact ok.2.1
        exact wid_bad k n t A cp items k2 n2 t2 A2 cp2 items2 q1 q2 ci ck w hv hw hl hl2 hn hc
end Go.Proofs.YtjbgnlnchchgcaaDoor
