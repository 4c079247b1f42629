/-
  The walk of HeadBoth. No condition.
-/
import Derived.Test.YtnmdbbkcbedklaaHdLive
import Derived.Test.YtnmdbbkcbedklaaHdRead
namespace Go.Proofs.Ytnmdbbkcbedklaa
open Go.RowKit

/-- head.Bytes, head.Read by what they answer. -/
def BytesIs (v : Int) (h : Hd) (s : ByteArray) (e : Nat) : Prop := ∀ W, Calls Try.prog 7 #[.int .i64 v, hdV h] W fun x w' => x = .returned (.tuple #[.string s, .int .i64 (e : Int)]) ∧ Below W.heap.size W w'
def ReadIs (v : Int) (s : ByteArray) (h : Hd) (n e : Nat) : Prop := ∀ W, Calls Try.prog 9 #[.int .i64 v, .string s] W fun x w' => x = .returned (.tuple #[hdV h, .int .i64 (n : Int), .int .i64 (e : Int)]) ∧ Below W.heap.size W w'
theorem bytes_is {v : Int} {h : Hd} {l : List UInt8} {e : Nat} (hc : checkH v h = e) (hl : bytesH v h = l) : BytesIs v h (bs l) e := fun W => by
  have := hd_bytes v h W
  unfold BytRet at this
  rw [hc, hl] at this
  exact this
theorem read_is {v : Int} {s : ByteArray} {h : Hd} {n e : Nat} (hm : s.size ≤ 9223372036854775807) (hr : readH v s.data.toList = (h, n, e)) : ReadIs v s h n e := fun W => by
  have := hd_read v s W hm
  unfold HdRdRet HdRd at this
  rw [hr] at this
  exact this
set_option maxRecDepth 100000 in
theorem both_a (h : Hd) (A : ByteArray) (n : Nat) (w : World) (h1 : BytesIs 4 h A 0) (h2 : BytesIs 5 h A 0) (h3 : ReadIs 5 A h n 0) (hn : (A.size : Int) = (n : Int)) :
    Calls Try.prog 5 #[hdV h] w fun e w' => e = .returned (.bool true) ∧ Below w.heap.size w w' := by
  have H1 := Lib.hid h1
  have H2 := Lib.hid h2
  have H3 := Lib.hid h3
  clear h1 h2 h3
  have HB := Lib.hid (fun o => below_box (w := w) o)
  obtain ⟨k, f, l⟩ := h
  unfold BytesIs ReadIs hdV at *
  go_enter Try.func5, Try.ntmps5
  go_wp2_with fail
  refine (lives_head _).mono ?_
  rintro e W ⟨rfl, hb⟩
  have g1 := (hb.block w.heap.size (by simp)).trans (heap_alloc_new w _)
  have B1 := Lib.hid (below_then (HB.out _) hb)
  have G1 := Lib.hid g1
  have L1 := Lib.hid (lt_of_block g1)
  clear hb g1
  go_wp2_with (refine wpList_load_row rfl _ _ rfl w.heap.size rfl 23 _ (0, 0) _ G1.out Try.underlying23 rfl info_hd ?_)
  refine (H1.out _).mono ?_
  rintro e W2 ⟨rfl, hb⟩
  have B2 := Lib.hid (below_then B1.out hb)
  have G2 := Lib.hid ((hb.block w.heap.size L1.out).trans G1.out)
  clear hb
  go_wp2_with (refine wpList_load_row rfl _ _ rfl w.heap.size rfl 23 _ (0, 0) _ G2.out Try.underlying23 rfl info_hd ?_)
  refine (H2.out _).mono ?_
  rintro e W3 ⟨rfl, hb⟩
  have B3 := Lib.hid (below_then B2.out hb)
  have G3 := Lib.hid ((hb.block w.heap.size (lt_of_block G2.out)).trans G2.out)
  clear hb
  go_wp2_with fail
  refine (H3.out _).mono ?_
  rintro e W4 ⟨rfl, hb⟩
  have B4 := Lib.hid (below_then B3.out hb)
  have G4 := (hb.block w.heap.size (lt_of_block G3.out)).trans G3.out
  clear hb
  have c0 := cell_of_row _ _ 0 _ _ _ G4
  have c1 := cell_of_row _ _ 1 _ _ _ G4
  have c2 := cell_of_row _ _ 2 _ _ _ G4
  have L4 := lt_of_block G4
  clear G4
  go_wp2_with fail
  go_ret
  exact ⟨rfl, B4.out.alloc B4.out.size _⟩
set_option maxRecDepth 100000 in
theorem both_b (h : Hd) (A : ByteArray) (x : Hd) (n : Nat) (w : World) (h1 : BytesIs 4 h ⟨#[]⟩ 8) (h2 : BytesIs 5 h A 0) (h3 : ReadIs 4 A x n 8) (hk : h.kind = 15) :
    Calls Try.prog 5 #[hdV h] w fun e w' => e = .returned (.bool true) ∧ Below w.heap.size w w' := by
  have H1 := Lib.hid h1
  have H2 := Lib.hid h2
  have H3 := Lib.hid h3
  clear h1 h2 h3
  have HB := Lib.hid (fun o => below_box (w := w) o)
  obtain ⟨k, f, l⟩ := h
  obtain ⟨x0, x1, x2⟩ := x
  obtain rfl : k = 15 := hk
  unfold BytesIs ReadIs hdV at *
  go_enter Try.func5, Try.ntmps5
  go_wp2_with fail
  refine (lives_head _).mono ?_
  rintro e W ⟨rfl, hb⟩
  have g1 := (hb.block w.heap.size (by simp)).trans (heap_alloc_new w _)
  have B1 := Lib.hid (below_then (HB.out _) hb)
  have G1 := Lib.hid g1
  have L1 := Lib.hid (lt_of_block g1)
  clear hb g1
  go_wp2_with (refine wpList_load_row rfl _ _ rfl w.heap.size rfl 23 _ (0, 0) _ G1.out Try.underlying23 rfl info_hd ?_)
  refine (H1.out _).mono ?_
  rintro e W2 ⟨rfl, hb⟩
  have B2 := Lib.hid (below_then B1.out hb)
  have G2 := Lib.hid ((hb.block w.heap.size L1.out).trans G1.out)
  clear hb
  go_wp2_with (refine wpList_load_row rfl _ _ rfl w.heap.size rfl 23 _ (0, 0) _ G2.out Try.underlying23 rfl info_hd ?_)
  refine (H2.out _).mono ?_
  rintro e W3 ⟨rfl, hb⟩
  have B3 := Lib.hid (below_then B2.out hb)
  have G3 := Lib.hid ((hb.block w.heap.size (lt_of_block G2.out)).trans G2.out)
  clear hb
  go_wp2_with fail
  refine (H3.out _).mono ?_
  rintro e W4 ⟨rfl, hb⟩
  have B4 := Lib.hid (below_then B3.out hb)
  have G4 := (hb.block w.heap.size (lt_of_block G3.out)).trans G3.out
  clear hb
  have c0 := cell_of_row _ _ 0 _ _ _ G4
  have c1 := cell_of_row _ _ 1 _ _ _ G4
  have c2 := cell_of_row _ _ 2 _ _ _ G4
  have L4 := lt_of_block G4
  clear G4
  go_wp2_with fail
  go_ret
  exact ⟨rfl, B4.out.alloc B4.out.size _⟩
set_option maxRecDepth 100000 in
theorem both_c (h : Hd) (a b : Nat) (w : World) (h1 : BytesIs 4 h ⟨#[]⟩ a) (h2 : BytesIs 5 h ⟨#[]⟩ b) (ha : ((a : Int) == 0) = false) (hb : ((b : Int) == 0) = false) (hab : ((a : Int) == (b : Int)) = true ∨ (((a : Int) == (b : Int)) = false ∧ h.kind = 15)) :
    Calls Try.prog 5 #[hdV h] w fun e w' => e = .returned (.bool true) ∧ Below w.heap.size w w' := by
  have H1 := Lib.hid h1
  have H2 := Lib.hid h2
  clear h1 h2
  have HB := Lib.hid (fun o => below_box (w := w) o)
  obtain ⟨k, f, l⟩ := h
  unfold BytesIs hdV at *
  go_enter Try.func5, Try.ntmps5
  go_wp2_with fail
  refine (lives_head _).mono ?_
  rintro e W ⟨rfl, hb⟩
  have g1 := (hb.block w.heap.size (by simp)).trans (heap_alloc_new w _)
  have B1 := Lib.hid (below_then (HB.out _) hb)
  have G1 := Lib.hid g1
  have L1 := Lib.hid (lt_of_block g1)
  clear hb g1
  go_wp2_with (refine wpList_load_row rfl _ _ rfl w.heap.size rfl 23 _ (0, 0) _ G1.out Try.underlying23 rfl info_hd ?_)
  refine (H1.out _).mono ?_
  rintro e W2 ⟨rfl, hb⟩
  have B2 := Lib.hid (below_then B1.out hb)
  have G2 := Lib.hid ((hb.block w.heap.size L1.out).trans G1.out)
  clear hb
  go_wp2_with (refine wpList_load_row rfl _ _ rfl w.heap.size rfl 23 _ (0, 0) _ G2.out Try.underlying23 rfl info_hd ?_)
  refine (H2.out _).mono ?_
  rintro e W3 ⟨rfl, hb⟩
  have B3 := Lib.hid (below_then B2.out hb)
  have G3 := Lib.hid ((hb.block w.heap.size (lt_of_block G2.out)).trans G2.out)
  clear hb
  have c0 := cell_of_row _ _ 0 _ _ _ G3.out
  rcases hab with he | ⟨he, hk⟩
  · go_wp2_with fail
    go_ret
    exact ⟨rfl, B3.out⟩
  · obtain rfl : k = 15 := hk
    go_wp2_with fail
    go_ret
    exact ⟨rfl, B3.out⟩
theorem bs_nil : bs [] = (⟨#[]⟩ : ByteArray) := rfl
theorem both_walk (h : Hd) (w : World) : Calls Try.prog 5 #[hdV h] w fun e w' => e = .returned (.bool true) ∧ Below w.heap.size w w' := by
  have hcb := @check_both h
  by_cases h4 : checkH 4 h = 0
  · have h5 := hcb.1 h4
    have hz := check_zero.1 h4
    have hl := raw_length ⟨hz.2.2.2.1, hz.2.2.2.2⟩
    refine both_a h (bs (rawH h)) (rawH h).length w (bytes_is h4 (by unfold bytesH; rw [if_pos h4])) (bytes_is h5 (by unfold bytesH; rw [if_pos h5])) (read_is (by rw [bs_len]; omega) ?_) (by rw [bs_len])
    have := read_raw h5 []
    rw [List.append_nil] at this
    exact this
  by_cases h5 : checkH 5 h = 0
  · obtain ⟨hk, h8⟩ := hcb.2.1 h5 h4
    have hz := check_zero.1 h5
    have hl := raw_length ⟨hz.2.2.2.1, hz.2.2.2.2⟩
    refine both_b h (bs (rawH h)) noH 0 w (bytes_is h8 (by unfold bytesH; rw [if_neg h4])) (bytes_is h5 (by unfold bytesH; rw [if_pos h5])) (read_is (by rw [bs_len]; omega) ?_) hk
    show readH 4 (rawH h) = _
    unfold rawH
    rw [readH_cons, of_first h5]
    have : checkH 4 ⟨h.kind, h.flags, 0⟩ = 8 := by
      unfold checkH
      rw [hk, if_neg (by decide), if_pos (by decide)]
    rw [this]
    rfl
  · refine both_c h (checkH 4 h) (checkH 5 h) w (bytes_is rfl (by unfold bytesH; rw [if_neg h4])) (bytes_is rfl (by unfold bytesH; rw [if_neg h5])) (by simp; exact h4) (by simp; exact h5) ?_
    rcases hcb.2.2 h4 h5 with he | hk
    · exact .inl (by rw [he]; simp)
    · by_cases he : checkH 4 h = checkH 5 h
      · exact .inl (by rw [he]; simp)
      · exact .inr ⟨by simp; omega, hk⟩
end Go.Proofs.Ytnmdbbkcbedklaa
