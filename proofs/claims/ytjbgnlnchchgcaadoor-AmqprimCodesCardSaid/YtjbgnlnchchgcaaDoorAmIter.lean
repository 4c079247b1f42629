/-
  The contract of the iterator that strings.SplitSeq makes at a zero byte. Condition: the string is no longer than an int says.
-/
import Derived.Test.YtjbgnlnchchgcaaDoorAmSplit
namespace Go.Proofs.YtjbgnlnchchgcaaDoor
open Go.RowKit

attribute [local go_sem] Oper.semAt_some

abbrev encZ (p : List UInt8) : Array Value := #[.string (bs p)]
/-- The three boxes: the string, the separator, how much of it is kept. -/
def KpZ (b : Nat) (W W' : World) : Prop := ∀ j o, b ≤ j → j < b + 3 → W.heap[j]? = some o → W'.heap[j]? = some o
theorem kpZ_t {b : Nat} {A B C : World} (h : KpZ b A B) (k : KpZ b B C) : KpZ b A C := fun j o h1 h2 h3 => k j o h1 h2 (h j o h1 h2 h3)
theorem kpZ_b {b : Nat} {w : World} (hB : b + 3 ≤ w.heap.size) (W : World) (l : Nat) (o o' : Obj) (hl : w.heap.size ≤ l) (_ : W.heap[l]? = some o) (_ : o.isCells = false) (_ : o.isWalk = false) : KpZ b W (W.putObj l o') :=
  fun j q _ h2 h3 => (World.putObj_heap_other (by omega)).trans h3
/-- How long the string in a box is. -/
def strLenW (W : World) (b : Nat) : Nat := match W.cell? ⟨b, 0, none⟩ with | some (.string s) => s.size | _ => 0
/-- A part is no longer than an int says. -/
def OkZ (x : List UInt8) : Prop := x.length ≤ 9223372036854775807
structure Boxes (W : World) (b : Nat) (q : ByteArray) : Prop where
  s : W.heap[b]? = some (.cells #[.string q] 9 (0, 0))
  sep : W.heap[b + 1]? = some (.cells #[.string ⟨#[0]⟩] 9 (0, 0))
  save : W.heap[b + 2]? = some (.cells #[.int .i64 0] 3 (0, 0))
theorem Boxes.cells {W : World} {b : Nat} {q : ByteArray} (h : Boxes W b q) : W.cell? ⟨b, 0, none⟩ = some (.string q) ∧ W.cell? ⟨b + 1, 0, none⟩ = some (.string ⟨#[0]⟩) ∧ W.cell? ⟨b + 2, 0, none⟩ = some (.int .i64 0) ∧ W.frozen? ⟨b, 0, none⟩ = false :=
  ⟨cell_of_row _ _ 0 _ _ _ h.s, cell_of_row _ _ 0 _ _ _ h.sep, cell_of_row _ _ 0 _ _ _ h.save, by simp [World.frozen?, h.s]⟩
theorem Boxes.keep {W W' : World} {b : Nat} {q : ByteArray} (h : Boxes W b q) (k : KpZ b W W') : Boxes W' b q := ⟨k _ _ (by omega) (by omega) h.s, k _ _ (by omega) (by omega) h.sep, k _ _ (by omega) (by omega) h.save⟩
theorem Boxes.set {W : World} {b : Nat} {q : ByteArray} (h : Boxes W b q) (p : ByteArray) : Boxes (W.setCell ⟨b, 0, none⟩ (.string p)) b p :=
  ⟨by simpa using setCell_block h.s 0 (.string p), (Below.heap_setCell W ⟨b, 0, none⟩ _ (b + 1) (by simp)).trans h.sep, (Below.heap_setCell W ⟨b, 0, none⟩ _ (b + 2) (by simp)).trans h.save⟩
theorem Boxes.len {W : World} {b : Nat} {q : ByteArray} (h : Boxes W b q) : strLenW W b = q.size := by
  unfold strLenW; rw [h.cells.1]
theorem ex_take (q : ByteArray) (k : Nat) : q.extract 0 k = bs (q.data.toList.take k) := by
  apply ByteArray.ext; apply Array.ext'; simp [bs, List.extract_eq_take_drop]
theorem ex_drop (q : ByteArray) (k : Nat) : (q.extract k q.size).data.toList = q.data.toList.drop k := by
  simp [List.extract_eq_take_drop]
  exact List.take_of_length_le (by simp)
set_option maxRecDepth 100000 in
set_option maxHeartbeats 4000000 in
theorem spl_in (n : Nat) (hn : 1 ≤ n) (lp b : Nat) (s : ByteArray) (hs : s.size ≤ 9223372036854775807) (W : World) (J Jx : List (List UInt8) → World → Prop) (hJ : AbB b W.heap.size J)
    (hY : ∀ pre x W1, OkZ x → J pre W1 → YieldAt Fence.wide (n - 1) Tryd.prog lp (encZ x) W1 fun e W' => (e = .returned (.bool true) ∧ J (pre ++ [x]) W' ∧ KpZ b W1 W') ∨ (e = .returned (.bool false) ∧ Jx (pre ++ [x]) W'))
    (hBs : Boxes W b s) (h0 : J [] W) :
    CallsIn Fence.wide n Tryd.prog 85 #[.func (.yield lp) #[] #[], .pointer (some ⟨b + 1, 0, none⟩), .pointer (some ⟨b, 0, none⟩), .pointer (some ⟨b + 2, 0, none⟩)] W fun e W' => (∃ v, e = .returned v) ∧
      ((∃ xs, xs = partsZ s.data.toList ∧ J xs W') ∨ (∃ pre, (∃ post, pre ++ post = partsZ s.data.toList) ∧ Jx pre W')) := by
  have hro : Fence.wide.round = none := rfl
  obtain ⟨c0, c1, c2, f0⟩ := hBs.cells
  have HS := Lib.hid hs
  refine callsIn_of_wp Tryd.func85 rfl trivial ?_ hro
  simp only [Tryd.ntmps85, List.size_toArray, List.length_cons, List.length_nil, Nat.reduceAdd, Nat.reduceSub, Array.replicate_succ, Array.replicate_zero, List.push_toArray, List.append_toArray, List.nil_append, List.cons_append]
  gi_wp2
  gi_loopw [] (fun wr => ∃ (pre : List (List UInt8)) (q : ByteArray), partsZ s.data.toList = pre ++ partsZ q.data.toList ∧ q.size ≤ s.size ∧ Boxes wr b q ∧ J pre wr)
    (fun wr => strLenW wr b)
  case atStart => exact ⟨[], s, rfl, Nat.le_refl _, hBs, h0⟩
  case round =>
    obtain ⟨pre, q, e1, e2, hB, hJs⟩ := hrel
    clear c0 c1 c2 f0
    obtain ⟨c0, c1, c2, f0⟩ := hB.cells
    have HQ := Lib.hid (show q.size ≤ 9223372036854775807 by omega)
    have IX := Lib.hid (fun m => (callsIn_wide (n := m)).2 (ix_any q wr))
    by_cases hi : Lib.indexByte q.data.toList 0 < 0
    · have hp := parts_none (index_none hi)
      rw [hp] at e1
      obtain ⟨fn, tmps, assign, body, hy, hR⟩ := hY pre q.data.toList wr (by have := HQ.out; unfold OkZ; simp; omega) hJs
      dsimp only [encZ] at hy
      rw [show bs q.data.toList = q from rfl] at hy
      have E1 := Lib.hid e1
      obtain ⟨z, hz⟩ : ∃ z, Lib.indexByte q.data.toList 0 = z := ⟨_, rfl⟩
      rw [hz] at hi IX
      clear hY e1 e2 hB hBs hp hz
      gi_wp2_with fail
      refine ⟨trivial, (IX.out _).mono ?_⟩
      rintro e w' ⟨rfl, rfl⟩
      gi_wp2_with fail
      refine hR.mono ?_
      rintro e W3 (⟨rfl, hJ3, hk3⟩ | ⟨rfl, hJx3⟩)
      · gi_wp2_with fail
        go_end0
        exact ⟨⟨_, rfl⟩, .inl ⟨_, E1.out.symm, hJ3⟩⟩
      · gi_wp2_with fail
        go_end0
        exact ⟨⟨_, rfl⟩, .inr ⟨_, ⟨[], by rw [List.append_nil]; exact E1.out.symm⟩, hJx3⟩⟩
    · obtain ⟨a, r, er, hz, hx⟩ := index_some hi
      have hp := parts_zero r hz
      rw [← er] at hp
      rw [hp] at e1
      obtain ⟨fn, tmps, assign, body, hy, hR⟩ := hY pre a wr (by have := HQ.out; have h2 := congrArg List.length er; simp at h2; unfold OkZ; omega) hJs
      dsimp only [encZ] at hy
      have hlen : q.size = a.length + 1 + r.length := by
        have := congrArg List.length er
        simp at this
        omega
      obtain ⟨m, hm⟩ : ∃ m, a.length = m := ⟨_, rfl⟩
      rw [hm] at hx hlen
      rw [hx] at IX
      have hxa : bs a = q.extract 0 m := by rw [ex_take, er, ← hm, List.take_left]
      rw [hxa] at hy
      have hrd : (q.extract (m + 1) q.size).data.toList = r := by rw [ex_drop, er, ← hm, List.drop_append]; simp
      have hm0 : ¬ (m : Int) < 0 := by omega
      have hm1 : (m : Int) + 1 ≤ (q.size : Int) := by omega
      have hm2 : (q.size : Int) ≤ 9223372036854775807 := by have := HQ.out; omega
      have NX := Lib.hid (show partsZ s.data.toList = (pre ++ [a]) ++ partsZ (q.extract (m + 1) q.size).data.toList ∧ (q.extract (m + 1) q.size).size ≤ s.size ∧ (q.extract (m + 1) q.size).size < q.size from
        ⟨by rw [hrd, e1, List.append_assoc]; rfl, by have := congrArg List.length hrd; simp at this; simp; omega, by simp; omega⟩)
      have HB := Lib.hid hB
      have HJ := Lib.hid hJ
      have E1 := Lib.hid (show ∃ post, (pre ++ [a]) ++ post = partsZ s.data.toList from ⟨_, by rw [e1, List.append_assoc]; rfl⟩)
      clear hY e1 e2 hB hBs hp hx hi er hz hm hlen hxa hrd hJ hs
      gi_wp2_with fail
      refine ⟨trivial, (IX.out _).mono ?_⟩
      rintro e w' ⟨rfl, rfl⟩
      gi_wp2_with fail
      refine hR.mono ?_
      rintro e W3 (⟨rfl, hJ3, hk3⟩ | ⟨rfl, hJx3⟩)
      · have HB3 := Lib.hid (HB.out.keep hk3)
        have SL := Lib.hid HB.out.len
        obtain ⟨d0, d1, d2, g0⟩ := HB3.out.cells
        gi_wp2_with fail
        go_roundw
        case rel => exact ⟨_, q.extract (m + 1) q.size, NX.out.1, NX.out.2.1, HB3.out.set _, HJ.out _ _ _ (some b) hJ3 (block_kept _ _ _ _) (fun r e => by cases e; exact .inl rfl)⟩
        case measure =>
          rw [SL.out, (HB3.out.set _).len]
          exact NX.out.2.2
      · gi_wp2_with fail
        refine bodyPost_ret (results_none rfl _ _ _) rfl ?_
        exact ⟨⟨_, rfl⟩, .inr ⟨_, E1.out, hJx3⟩⟩
/-- The iterator as a value that the law of the range takes. -/
theorem spl_seq (n : Nat) (hn : 1 ≤ n) (b : Nat) (s : ByteArray) (hs : s.size ≤ 9223372036854775807) (w : World) (hB : Boxes w b s) :
    SeqB Fence.wide n Tryd.prog 85 #[.pointer (some ⟨b + 1, 0, none⟩), .pointer (some ⟨b, 0, none⟩), .pointer (some ⟨b + 2, 0, none⟩)] encZ OkZ b (KpZ b) (fun xs => xs = partsZ s.data.toList) (fun pre => ∃ post, pre ++ post = partsZ s.data.toList) w :=
  fun l J Jx W hW hJ _ hY h0 => spl_in n hn l b s hs W J Jx hJ hY
    ⟨(hW.block _ (lt_of_block hB.s)).trans hB.s, (hW.block _ (lt_of_block hB.sep)).trans hB.sep, (hW.block _ (lt_of_block hB.save)).trans hB.save⟩ h0
end Go.Proofs.YtjbgnlnchchgcaaDoor
