/-
  The walk of HeadBack. Condition: the lengths of the strings.
-/
import Derived.Test.YtnmdbbkcbedklaaHdBoWalk
namespace Go.Proofs.Ytnmdbbkcbedklaa
open Go.RowKit

def CheckIs (v : Int) (h : Hd) (e : Nat) : Prop := ∀ W, Calls Try.prog 8 #[.int .i64 v, hdV h] W fun x w' => x = .returned (.int .i64 (e : Int)) ∧ Below W.heap.size W w'
set_option maxRecDepth 100000 in
theorem hdback_long (v : Int) (h : Hd) (behind s : ByteArray) (w : World) (hl : 60 < behind.size ∨ 60 < s.size) :
    Calls Try.prog 3 #[.int .i64 v, hdV h, .string behind, .string s] w fun e w' => e = .returned (.bool true) ∧ Below w.heap.size w w' := by
  have HB := Lib.hid (fun o => below_box (w := w) o)
  unfold hdV
  by_cases h1 : 60 < behind.size
  · have hd : decide ((60 : Int) < (behind.size : Int)) = true := decide_eq_true (by omega)
    clear hl h1
    go_enter Try.func3, Try.ntmps3
    go_wp2_with fail
    refine (lives_head _).mono ?_
    rintro e W ⟨rfl, hb⟩
    have B1 := Lib.hid (below_then (HB.out _) hb)
    clear hb
    go_wp2_with fail
    go_ret
    exact ⟨rfl, B1.out⟩
  · have hd : decide ((60 : Int) < (behind.size : Int)) = false := decide_eq_false (by omega)
    have hd2 : decide ((60 : Int) < (s.size : Int)) = true := decide_eq_true (by omega)
    clear hl h1
    go_enter Try.func3, Try.ntmps3
    go_wp2_with fail
    refine (lives_head _).mono ?_
    rintro e W ⟨rfl, hb⟩
    have B1 := Lib.hid (below_then (HB.out _) hb)
    clear hb
    go_wp2_with fail
    go_ret
    exact ⟨rfl, B1.out⟩
/-- What is read of the last string. -/
def LastIs (v : Int) (s : ByteArray) : Prop := (∃ E : Nat, ((E : Int) == 0) = false ∧ ReadIs v s noH 0 E) ∨ ∃ (g : Hd) (u : Nat) (D : ByteArray), ReadIs v s g u 0 ∧ BytesIs v g D 0 ∧ (u : Int) ≤ (s.size : Int) ∧ s.extract 0 u = D
set_option maxRecDepth 100000 in
set_option maxHeartbeats 1000000 in
theorem hdback_no (v : Int) (h : Hd) (behind s A : ByteArray) (e : Nat) (w : World) (hb60 : behind.size ≤ 60) (hs60 : s.size ≤ 60) (h1 : BytesIs v h A e) (h2 : CheckIs v h e) (he : ((e : Int) == 0) = false) (hl : LastIs v s) :
    Calls Try.prog 3 #[.int .i64 v, hdV h, .string behind, .string s] w fun e w' => e = .returned (.bool true) ∧ Below w.heap.size w w' := by
  have hd : decide ((60 : Int) < (behind.size : Int)) = false := decide_eq_false (by omega)
  have hd2 : decide ((60 : Int) < (s.size : Int)) = false := decide_eq_false (by omega)
  have H1 := Lib.hid h1
  have H2 := Lib.hid h2
  have HL := Lib.hid hl
  have HB := Lib.hid (fun o => below_box (w := w) o)
  clear h1 h2 hl hb60 hs60
  obtain ⟨k, f, l⟩ := h
  unfold BytesIs hdV at H1
  unfold CheckIs hdV at H2
  unfold hdV
  go_enter Try.func3, Try.ntmps3
  go_wp2_with fail
  refine (lives_head _).mono ?_
  rintro e W ⟨rfl, hb⟩
  have g1 := (hb.block w.heap.size (by simp)).trans (heap_alloc_new w _)
  have B1 := Lib.hid (below_then (HB.out _) hb)
  have G1 := Lib.hid g1
  clear hb g1
  go_wp2_with (refine wpList_load_row rfl _ _ rfl w.heap.size rfl 23 _ (0, 0) _ G1.out Try.underlying23 rfl info_hd ?_)
  refine (H1.out _).mono ?_
  rintro e W2 ⟨rfl, hb⟩
  have B2 := Lib.hid (below_then B1.out hb)
  have G2 := Lib.hid ((hb.block w.heap.size (lt_of_block G1.out)).trans G1.out)
  clear hb
  go_wp2_with (refine wpList_load_row rfl _ _ rfl w.heap.size rfl 23 _ (0, 0) _ G2.out Try.underlying23 rfl info_hd ?_)
  refine (H2.out _).mono ?_
  rintro e W3 ⟨rfl, hb⟩
  have B3 := Lib.hid (below_then B2.out hb)
  have G3 := Lib.hid ((hb.block w.heap.size (lt_of_block G2.out)).trans G2.out)
  clear hb
  rcases HL.out with ⟨E, hE, hr⟩ | ⟨g, u, D, hr, hy, hu, hx⟩
  · have R := Lib.hid hr
    unfold ReadIs hdV noH at R
    clear hr HL
    go_wp2_with fail
    refine (R.out _).mono ?_
    rintro e WA ⟨rfl, hb⟩
    have BA := Lib.hid (below_then B3.out hb)
    have BB := Lib.hid (BA.out.alloc BA.out.size (.cells #[.int .i64 0, .int .i64 0, .int .i64 0] 23))
    clear hb
    go_wp2_with fail
    go_ret
    exact ⟨rfl, BB.out⟩
  · have R := Lib.hid hr
    have Y := Lib.hid hy
    have hu' : ¬ (s.size : Int) < (u : Int) := by omega
    have hu2 : u ≤ s.size := by omega
    obtain ⟨g0, g1, g2⟩ := g
    unfold ReadIs hdV at R
    unfold BytesIs hdV at Y
    clear hr hy HL
    go_wp2_with fail
    refine (R.out _).mono ?_
    rintro e WA ⟨rfl, hb⟩
    have BA := Lib.hid (below_then B3.out hb)
    have BB := Lib.hid (BA.out.alloc BA.out.size (.cells #[.int .i64 g0, .int .i64 g1, .int .i64 g2] 23))
    clear hb
    go_wp2_with fail
    refine (Y.out _).mono ?_
    rintro e WB ⟨rfl, hb⟩
    have BC := Lib.hid (below_then BB.out hb)
    clear hb
    go_wp2_with fail
    go_ret
    exact ⟨rfl, BC.out⟩
set_option maxRecDepth 100000 in
set_option maxHeartbeats 1000000 in
theorem hdback_yes (v : Int) (h : Hd) (behind s A : ByteArray) (n : Nat) (w : World) (hb60 : behind.size ≤ 60) (hs60 : s.size ≤ 60) (h1 : BytesIs v h A 0) (h2 : CheckIs v h 0) (hl : LastIs v s)
    (hn : (A.size : Int) = (n : Int)) (n2 : 2 ≤ n) (n5 : n ≤ 5) (hre : ReadIs v (A ++ behind) h n 0) (hcut : ∀ i, i < n → ReadIs v (A.extract 0 i) noH 0 3) :
    Calls Try.prog 3 #[.int .i64 v, hdV h, .string behind, .string s] w fun e w' => e = .returned (.bool true) ∧ Below w.heap.size w w' := by
  have hcat : ¬ 9223372036854775807 < A.size + behind.size := by omega
  have RE := Lib.hid hre
  have CU := Lib.hid hcut
  have hn2 : (2 : Int) ≤ (n : Int) := by omega
  have hn5 : (n : Int) ≤ 5 := by omega
  clear hre hcut n2 n5
  have hd : decide ((60 : Int) < (behind.size : Int)) = false := decide_eq_false (by omega)
  have hd2 : decide ((60 : Int) < (s.size : Int)) = false := decide_eq_false (by omega)
  have H1 := Lib.hid h1
  have H2 := Lib.hid h2
  have HL := Lib.hid hl
  have HB := Lib.hid (fun o => below_box (w := w) o)
  clear h1 h2 hl hb60 hs60
  obtain ⟨k, f, l⟩ := h
  unfold BytesIs hdV at H1
  unfold CheckIs hdV at H2
  unfold ReadIs hdV at RE
  unfold hdV
  go_enter Try.func3, Try.ntmps3
  go_wp2_with fail
  refine (lives_head _).mono ?_
  rintro e W ⟨rfl, hb⟩
  have g1 := (hb.block w.heap.size (by simp)).trans (heap_alloc_new w _)
  have B1 := Lib.hid (below_then (HB.out _) hb)
  have G1 := Lib.hid g1
  clear hb g1
  go_wp2_with (refine wpList_load_row rfl _ _ rfl w.heap.size rfl 23 _ (0, 0) _ G1.out Try.underlying23 rfl info_hd ?_)
  refine (H1.out _).mono ?_
  rintro e W2 ⟨rfl, hb⟩
  have B2 := Lib.hid (below_then B1.out hb)
  have G2 := Lib.hid ((hb.block w.heap.size (lt_of_block G1.out)).trans G1.out)
  clear hb
  go_wp2_with (refine wpList_load_row rfl _ _ rfl w.heap.size rfl 23 _ (0, 0) _ G2.out Try.underlying23 rfl info_hd ?_)
  refine (H2.out _).mono ?_
  rintro e W3 ⟨rfl, hb⟩
  have B3 := Lib.hid (below_then B2.out hb)
  have G3 := Lib.hid ((hb.block w.heap.size (lt_of_block G2.out)).trans G2.out)
  clear hb
  go_wp2_with fail
  refine (RE.out _).mono ?_
  rintro e W4 ⟨rfl, hb⟩
  have B4 := Lib.hid (below_then B3.out hb)
  have G4 := (hb.block w.heap.size (lt_of_block G3.out)).trans G3.out
  clear hb
  have c0 := cell_of_row _ _ 0 _ _ _ G4
  have c1 := cell_of_row _ _ 1 _ _ _ G4
  have c2 := cell_of_row _ _ 2 _ _ _ G4
  have L4 := lt_of_block G4
  have B5 := Lib.hid (B4.out.alloc B4.out.size (.cells #[.int .i64 k, .int .i64 f, .int .i64 l] 23))
  clear G4 RE
  go_wp2_with fail
  clear c0 c1 c2 L4 B3 B2 G1 G2 G3
  go_loopw [14] (fun i wr => ∃ j : Nat, j ≤ n ∧ i = .int .i64 j ∧ Below w.heap.size w wr) (fun i _ => n - (intOf i).toNat)
  case atStart => exact ⟨0, Nat.zero_le _, rfl, B5.out⟩
  case round =>
    obtain ⟨j, hj, rfl, hb⟩ := hrel
    have B6 := Lib.hid hb
    clear hb B5 B4
    by_cases hlt : j < n
    · have CUj := Lib.hid (CU.out j hlt)
      have hsl : (j : Int) ≤ (n : Int) := by omega
      unfold ReadIs hdV noH at CUj
      go_wp2_with fail
      refine (CUj.out _).mono ?_
      rintro e W7 ⟨rfl, hb⟩
      have B7 := Lib.hid (below_then B6.out hb)
      have B8 := Lib.hid (B7.out.alloc B7.out.size (.cells #[.int .i64 0, .int .i64 0, .int .i64 0] 23))
      clear hb
      go_wp2_with fail
      go_roundw
      case rel => exact ⟨j + 1, by omega, by go_num, B8.out⟩
      case measure => simp [intOf]; omega
    · obtain rfl : j = n := by omega
      have B3 := B6
      clear CU hlt hj
      rcases HL.out with ⟨E, hE, hr⟩ | ⟨g, u, D, hr, hy, hu, hx⟩
      · have R := Lib.hid hr
        unfold ReadIs hdV noH at R
        clear hr HL
        go_wp2_with fail
        refine (R.out _).mono ?_
        rintro e WA ⟨rfl, hb⟩
        have BA := Lib.hid (below_then B3.out hb)
        have BB := Lib.hid (BA.out.alloc BA.out.size (.cells #[.int .i64 0, .int .i64 0, .int .i64 0] 23))
        clear hb
        go_wp2_with fail
        go_ret
        exact ⟨rfl, BB.out⟩
      · have R := Lib.hid hr
        have Y := Lib.hid hy
        have hu' : ¬ (s.size : Int) < (u : Int) := by omega
        have hu2 : u ≤ s.size := by omega
        obtain ⟨g0, g1, g2⟩ := g
        unfold ReadIs hdV at R
        unfold BytesIs hdV at Y
        clear hr hy HL
        go_wp2_with fail
        refine (R.out _).mono ?_
        rintro e WA ⟨rfl, hb⟩
        have BA := Lib.hid (below_then B3.out hb)
        have BB := Lib.hid (BA.out.alloc BA.out.size (.cells #[.int .i64 g0, .int .i64 g1, .int .i64 g2] 23))
        clear hb
        go_wp2_with fail
        refine (Y.out _).mono ?_
        rintro e WB ⟨rfl, hb⟩
        have BC := Lib.hid (below_then BB.out hb)
        clear hb
        go_wp2_with fail
        go_ret
        exact ⟨rfl, BC.out⟩
theorem hdback_walk (v : Int) (h : Hd) (behind s : ByteArray) (w : World) (hb : behind.size ≤ 9223372036854775807) (hs : s.size ≤ 9223372036854775807) :
    Calls Try.prog 3 #[.int .i64 v, hdV h, .string behind, .string s] w fun e w' => e = .returned (.bool true) ∧ Below w.heap.size w w' := by
  by_cases hl : 60 < behind.size ∨ 60 < s.size
  · exact hdback_long v h behind s w hl
  have hl : LastIs v s := by
    obtain ⟨g, u, E, hr⟩ : ∃ g u E, readH v s.data.toList = (g, u, E) := ⟨_, _, _, rfl⟩
    by_cases hE : E = 0
    · subst hE
      have := read_back (v := v) (l := s.data.toList) (by rw [hr])
      rw [hr] at this
      obtain ⟨a1, a2, a3⟩ := this
      refine .inr ⟨g, u, bs (rawH g), read_is hs hr, bytes_is a1 (by unfold bytesH; rw [if_pos a1]), ?_, ?_⟩
      · have : s.data.toList.length = s.size := by simp
        have a2' : u ≤ s.data.toList.length := a2
        omega
      · have a3' : rawH g = s.data.toList.take u := a3
        rw [a3']
        apply ByteArray.ext
        exact Array.toList_inj.1 (by simp [bs, Array.toList_extract, List.extract_eq_take_drop])
    · have := read_no (v := v) (l := s.data.toList) (by rw [hr]; exact hE)
      rw [hr] at this
      obtain ⟨a1, a2⟩ := this
      have a1' : g = noH := a1
      have a2' : u = 0 := a2
      subst a1' a2'
      exact .inl ⟨E, by simp; exact hE, read_is hs hr⟩
  by_cases he : checkH v h = 0
  · have hz := check_zero.1 he
    have hn := raw_length ⟨hz.2.2.2.1, hz.2.2.2.2⟩
    refine hdback_yes v h behind s (bs (rawH h)) (rawH h).length w (by omega) (by omega) (bytes_is he (by unfold bytesH; rw [if_pos he])) (fun W => by have := check_any v h W; rw [he] at this; exact this) hl (by rw [bs_len]) hn.1 hn.2 (read_is ?_ ?_) (fun i hi => read_is ?_ ?_)
    · rw [ByteArray.size_append, bs_len]; omega
    · have : (bs (rawH h) ++ behind).data.toList = rawH h ++ behind.data.toList := by simp [bs]
      rw [this]; exact read_raw he _
    · have : ((bs (rawH h)).extract 0 i).size ≤ (bs (rawH h)).size := by simp only [ByteArray.size_extract]; omega
      rw [bs_len] at this; omega
    · have : ((bs (rawH h)).extract 0 i).data.toList = (rawH h).take i := by simp [bs, List.extract_eq_take_drop]
      rw [this]; exact read_cut he i hi
  · exact hdback_no v h behind s (bs (bytesH v h)) (checkH v h) w (by omega) (by omega) (bytes_is rfl rfl) (fun W => check_any v h W) (by simp; exact he) hl
end Go.Proofs.Ytnmdbbkcbedklaa
