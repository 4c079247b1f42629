/-
  Plain facts: a text is UTF-8, zero characters allowed, if the parts between its zeros are what ustring.Bad allows. No condition. The contracts of strings.Index at a zero byte, and of strings.SplitSeq at it. Condition: the string is no longer than an int says. The contract of the iterator that strings.SplitSeq makes at a zero byte. Condition: the string is no longer than an int says.
-/
import Derived.Lib.Bytealg
import Derived.Shelf.Abstract
import Derived.Shelf.RegionOpen
import Derived.OwnWalkIn
import Derived.TacticsInMore
import Derived.LoopNIn
import Derived.LoopIn
import Derived.Lib.OthersKept
import Derived.Test.YtjbgnlnchchgcaaDoorAmPlain
import Derived.Test.YtjbgnlnchchgcaaDoorKit
import Derived.Test.YtjbgnlnchchgcaaDoorRangeBox
namespace Go.Proofs.YtjbgnlnchchgcaaDoor
section
open Go.RowKit

/-- What lies between the zeros. -/
def partsZ : List UInt8 → List (List UInt8)
  | [] => [[]]
  | b :: l => if b = 0 then [] :: partsZ l else match partsZ l with | [] => [[b]] | p :: ps => (b :: p) :: ps
theorem parts_none : ∀ {r : List UInt8}, (0 : UInt8) ∉ r → partsZ r = [r]
  | [], _ => rfl
  | b :: l, h => by
    have hb : b ≠ 0 := fun e => h (by simp [e])
    have hl : (0 : UInt8) ∉ l := fun e => h (by simp [e])
    rw [partsZ, if_neg hb, parts_none hl]
theorem parts_zero : ∀ {a : List UInt8} (b : List UInt8), (0 : UInt8) ∉ a → partsZ (a ++ 0 :: b) = a :: partsZ b
  | [], b, _ => by rw [List.nil_append, partsZ, if_pos rfl]
  | x :: a, b, h => by
    have hx : x ≠ 0 := fun e => h (by simp [e])
    have ha : (0 : UInt8) ∉ a := fun e => h (by simp [e])
    rw [List.cons_append, partsZ, if_neg hx, parts_zero b ha]
theorem index_none : ∀ {l : List UInt8}, Lib.indexByte l 0 < 0 → (0 : UInt8) ∉ l
  | [], _ => by simp
  | b :: l, h => by
    have hg := Lib.indexByte_ge l 0
    unfold Lib.indexByte at h
    by_cases hb : b = 0
    · subst hb; simp at h
    · have e : (b == 0) = false := by simpa using hb
      rw [e] at h
      simp only [Bool.false_eq_true, if_false] at h
      by_cases h1 : Lib.indexByte l 0 = -1
      · have := index_none (l := l) (by omega)
        simp only [List.mem_cons, not_or]
        exact ⟨fun e => hb e.symm, this⟩
      · rw [if_neg (by simpa using h1)] at h; omega
theorem index_some : ∀ {l : List UInt8}, ¬ Lib.indexByte l 0 < 0 → ∃ a b, l = a ++ 0 :: b ∧ (0 : UInt8) ∉ a ∧ Lib.indexByte l 0 = (a.length : Nat)
  | [], h => by simp [Lib.indexByte] at h
  | b :: l, h => by
    have hg := Lib.indexByte_ge l 0
    unfold Lib.indexByte at h ⊢
    by_cases hb : b = 0
    · subst hb; exact ⟨[], l, rfl, by simp, by simp⟩
    · have e : (b == 0) = false := by simpa using hb
      rw [e] at h ⊢
      simp only [Bool.false_eq_true, if_false] at h ⊢
      by_cases h1 : Lib.indexByte l 0 = -1
      · rw [if_pos (by simpa using h1)] at h; omega
      · obtain ⟨a, c, e1, e2, e3⟩ := index_some (l := l) (by omega)
        rw [if_neg (by simpa using h1), e3]
        refine ⟨b :: a, c, by rw [e1]; rfl, ?_, by simp⟩
        simp only [List.mem_cons, not_or]
        exact ⟨fun e => hb e.symm, e2⟩
theorem utf_mono : ∀ (n m : Nat) (l : List UInt8), l.length ≤ n → l.length ≤ m → utfA n l = utfA m l
  | n, m, [], _, _ => by unfold utfA; rfl
  | 0, _, _ :: _, h, _ => by simp at h
  | _ + 1, 0, _ :: _, _, h => by simp at h
  | n + 1, m + 1, b :: l, h1, h2 => by
    unfold utfA
    split
    · rfl
    · have hd : ((b :: l).drop (dl (b :: l)).2).length ≤ l.length := by
        have : 1 ≤ (dl (b :: l)).2 := by
          unfold dl; simp only []; repeat' split
          all_goals simp
        rw [List.length_drop, List.length_cons]; omega
      simp at h1 h2
      exact utf_mono n m _ (by omega) (by omega)
theorem utf_step (n : Nat) (b : UInt8) (l : List UInt8) : utfA (n + 1) (b :: l) = if (dl (b :: l)).1 = 65533 ∧ (dl (b :: l)).2 = 1 then false else utfA n ((b :: l).drop (dl (b :: l)).2) := rfl
/-- UTF-8, zeros allowed. -/
def goodU (l : List UInt8) : Bool := utfA l.length l
theorem good_nil : goodU [] = true := rfl
theorem good_pre {c : Nat} (h : okc c) (l : List UInt8) : goodU (cb c ++ l) = goodU l := by
  have hd := dl_cb h l
  have hp := cb_length_pos c
  unfold goodU
  rw [utf_mono (cb c ++ l).length ((cb c ++ l).length + 1) _ (Nat.le_refl _) (Nat.le_succ _)]
  obtain ⟨b, r, e⟩ := List.exists_cons_of_ne_nil (cb_ne c l)
  rw [e]
  rw [utf_step]
  rw [← e, hd, if_neg]
  · simp only [List.drop_left]
    exact utf_mono (cb c ++ l).length l.length l (by simp) (Nat.le_refl _)
  · rintro ⟨e1, e2⟩
    simp only at e1 e2
    subst e1
    simp [cb_length] at e2
theorem dl_zero (l : List UInt8) : dl (0 :: l) = (0, 1) := by simp [dl]
theorem good_zero (l : List UInt8) : goodU (0 :: l) = goodU l := by
  unfold goodU
  rw [show (0 :: l : List UInt8).length = l.length + 1 from rfl]
  rw [utf_step]
  rw [dl_zero, if_neg (by simp)]
  rfl
theorem good_bad {l : List UInt8} (hl : l ≠ []) (h : dl l = (65533, 1)) : goodU l = false := by
  obtain ⟨b, r, rfl⟩ := List.exists_cons_of_ne_nil hl
  unfold goodU
  rw [show (b :: r).length = r.length + 1 from rfl]
  rw [utf_step]
  rw [h, if_pos ⟨rfl, rfl⟩]
theorem good_cbs : ∀ {cs : List Nat}, oks cs → ∀ l, goodU (cbs cs ++ l) = goodU l
  | [], _, _ => rfl
  | c :: cs, h, l => by
    rw [cbs_cons, List.append_assoc, good_pre (h c (by simp)), good_cbs (fun x hx => h x (by simp [hx]))]
theorem cb_nz {c : Nat} (h : okc c) : (0 : UInt8) ∉ cb c := by
  obtain ⟨h0, h1⟩ := h
  have H : ∀ n, n < 256 → 0 < n → (0 : UInt8) ≠ UInt8.ofNat n := fun n hn hp e => by
    have := congrArg UInt8.toNat e
    rw [n8 hn] at this; simp at this; omega
  unfold cb
  split
  · simp only [List.mem_singleton]; exact H _ (by omega) h0
  · split
    · simp only [List.mem_cons, List.not_mem_nil, or_false, not_or]
      exact ⟨H _ (by omega) (by omega), H _ (by omega) (by omega)⟩
    · split
      · simp only [List.mem_cons, List.not_mem_nil, or_false, not_or]
        exact ⟨H _ (by omega) (by omega), H _ (by omega) (by omega), H _ (by omega) (by omega)⟩
      · simp only [List.mem_cons, List.not_mem_nil, or_false, not_or]
        exact ⟨H _ (by omega) (by omega), H _ (by omega) (by omega), H _ (by omega) (by omega), H _ (by omega) (by omega)⟩
theorem dl_nz {x : UInt8} (hx : x ≠ 0) (l : List UInt8) : (dl (x :: l)).1 ≠ 0 := by
  have hx0 : x.toNat ≠ 0 := fun e => hx (UInt8.toNat_inj.1 (by simpa using e))
  have hx8 := x.toNat_lt
  intro h
  unfold dl at h
  simp only [List.getD_cons_zero] at h
  repeat' split at h
  all_goals simp only [] at h
  all_goals first | omega | (simp only [Bool.and_eq_true, decide_eq_true_eq] at *; omega)
/-- No code point begins here, whatever follows a zero. -/
theorem bad_then {r : List UInt8} (hr : r ≠ []) (hz : (0 : UInt8) ∉ r) (h : hd r = none) (b : List UInt8) (hb : b = [] ∨ ∃ c, b = 0 :: c) : dl (r ++ b) = (65533, 1) := by
  have hne : r ++ b ≠ [] := by simp [hr]
  rcases dl_cases (r ++ b) hne with h1 | h1 | ⟨h1, h2, t, h3⟩
  · exact h1
  · exfalso
    obtain ⟨x, q, rfl⟩ := List.exists_cons_of_ne_nil hr
    have hx : x ≠ 0 := fun e => hz (by simp [e])
    exact dl_nz hx _ h1
  · exfalso
    have hc := cb_nz h1
    generalize (dl (r ++ b)).1 = c at *
    have hle : (cb c).length ≤ r.length := by
      rcases hb with rfl | ⟨q, rfl⟩
      · have := congrArg List.length h3; simp at this; omega
      · apply Decidable.byContradiction
        intro hgt
        have e1 : (r ++ 0 :: q)[r.length]? = some 0 := by simp
        rw [h3, List.getElem?_append_left (by omega)] at e1
        exact hc (List.mem_of_getElem? e1)
    have e2 : r = cb c ++ r.drop (cb c).length := by
      have e3 := congrArg (List.take (cb c).length) h3
      rw [List.take_left, List.take_append_of_le_length hle] at e3
      have e4 := (List.take_append_drop (cb c).length r).symm
      rw [e3] at e4
      exact e4
    rw [e2, hd_cb h1] at h
    cases h
theorem good_part {a : List UInt8} (hz : (0 : UInt8) ∉ a) (b : List UInt8) (hb : b = [] ∨ ∃ c, b = 0 :: c) : goodU (a ++ b) = (decide (badOf a < 0) && goodU b) := by
  obtain ⟨r, hl, hr⟩ := pts_rest a
  have hoks := pts_oks a
  unfold badOf
  have hf : fin a = (cbs (pts a)).length := rfl
  rw [hl] at hz
  have hzr : (0 : UInt8) ∉ r := fun e => hz (by simp [e])
  have hlen := congrArg List.length hl
  rw [List.length_append, ← hf] at hlen
  by_cases hn : r = []
  · subst hn
    simp at hlen
    rw [if_neg (by omega)]
    rw [List.append_nil] at hl
    conv => lhs; rw [hl]
    rw [good_cbs hoks]; simp
  · have hp : 0 < r.length := List.length_pos_iff.2 hn
    rw [if_pos (by omega), show decide ((fin a : Int) < 0) = false by simp, Bool.false_and]
    conv => lhs; rw [hl, List.append_assoc]
    rw [good_cbs hoks]
    exact good_bad (by simp [hn]) (bad_then hn hzr hr b hb)
theorem good_parts : ∀ (n : Nat) (l : List UInt8), l.length ≤ n → goodU l = (partsZ l).all fun p => decide (badOf p < 0)
  | n, l, h => by
    by_cases hi : Lib.indexByte l 0 < 0
    · have hz := index_none hi
      rw [parts_none hz]
      have := good_part hz [] (.inl rfl)
      rw [List.append_nil, good_nil, Bool.and_true] at this
      rw [this]; simp
    · obtain ⟨a, b, rfl, hz, -⟩ := index_some hi
      rw [parts_zero b hz, good_part hz (0 :: b) (.inr ⟨b, rfl⟩), good_zero, List.all_cons]
      match n, h with
      | 0, h => simp at h
      | n + 1, h => rw [good_parts n b (by simp at h; omega)]
section
open Go.RowKit

attribute [local go_sem] Oper.semAt_some

set_option maxRecDepth 100000 in
set_option maxHeartbeats 1000000 in
theorem ixb_any (s : ByteArray) (w : World) : Calls Tryd.prog 93 #[.string s, .int .u8 0] w fun e W => e = .returned (.int .i64 (Lib.indexByte s.data.toList 0)) ∧ w = W := by
  go_in
  go_wp2
  rw [run_callFunc_extern Tryd.func98 (by kernel_rfl) (by kernel_rfl) (by kernel_rfl) (e := Extern.BytealgIndexByte.indexByte) (by kernel_rfl), Lib.run_indexByteString]
  simp only [Result.andThen]
  rw [Oper.upon_value]
  go_wp2
  go_ret
  exact ⟨rfl, rfl⟩
/-- A zero byte. -/
def zS : ByteArray := ⟨#[0]⟩
set_option maxRecDepth 100000 in
set_option maxHeartbeats 2000000 in
theorem ixl_any (s : ByteArray) (w : World) : Calls Tryd.prog 91 #[.string s, .string ⟨#[0]⟩] w fun e W => e = .returned (.int .i64 (Lib.indexByte s.data.toList 0)) ∧ w = W := by
  have B := Lib.hid (fun W => ixb_any s W)
  go_in
  go_wp2_with (go_at_call 93; refine (B.out _).mono ?_; rintro e W ⟨rfl, rfl⟩)
  · have h : ([0] == s.toList) = true := by assumption
    go_ret
    refine ⟨?_, rfl⟩
    have e : s.data.toList = [0] := by rw [← Lib.toList_data]; exact (beq_iff_eq.1 h).symm
    rw [e]
    simp [Lib.indexByte]
  · go_ret
    exact ⟨rfl, rfl⟩
theorem ix_any (s : ByteArray) (w : World) : Calls Tryd.prog 87 #[.string s, .string ⟨#[0]⟩] w fun e W => e = .returned (.int .i64 (Lib.indexByte s.data.toList 0)) ∧ w = W := by
  have B := Lib.hid (fun W => ixl_any s W)
  go_in
  go_wp2_with (go_at_call 91; refine (B.out _).mono ?_; rintro e W ⟨rfl, rfl⟩)
  go_ret
  exact ⟨rfl, rfl⟩
/-- strings.SplitSeq: three boxes; the function value captures them. -/
theorem split_any (s : ByteArray) (w : World) : Calls Tryd.prog 73 #[.string s, .string ⟨#[0]⟩] w fun e W =>
    e = .returned (.func (.func 85) #[] #[.pointer (some ⟨w.heap.size + 1, 0, none⟩), .pointer (some ⟨w.heap.size, 0, none⟩), .pointer (some ⟨w.heap.size + 2, 0, none⟩)]) ∧
      W = ((w.alloc (.cells #[.string s] 9)).alloc (.cells #[.string ⟨#[0]⟩] 9)).alloc (.cells #[.int .i64 0] 3) := by
  have S : Calls Tryd.prog 81 #[.string s, .string ⟨#[0]⟩, .int .i64 0] w fun e W =>
    e = .returned (.func (.func 85) #[] #[.pointer (some ⟨w.heap.size + 1, 0, none⟩), .pointer (some ⟨w.heap.size, 0, none⟩), .pointer (some ⟨w.heap.size + 2, 0, none⟩)]) ∧
      W = ((w.alloc (.cells #[.string s] 9)).alloc (.cells #[.string ⟨#[0]⟩] 9)).alloc (.cells #[.int .i64 0] 3) := by
    have hmf : ∀ (fn : Fn) (first cap : Array Value) (w : World), (Instr.makeFunc fn first cap).run Tryd.prog w = .ok (.func fn first cap) w := fun _ _ _ _ => rfl
    go_in
    go_wp2_with fail
    go_ret
    exact ⟨rfl, rfl⟩
  have S := Lib.hid S
  go_in
  go_wp2_with (go_at_call 81; refine (S.out).mono ?_; rintro e W ⟨rfl, rfl⟩)
  go_ret
  exact ⟨rfl, rfl⟩
end
end
section
open Go.RowKit

attribute [local go_sem] Oper.semAt_some

abbrev encZ (p : List UInt8) : Array Value := #[.string (bs p)]
/-- The three boxes: the string, the separator, how much of it is kept. -/
def KpZ (b : Nat) (W W' : World) : Prop := ∀ j o, b ≤ j → j < b + 3 → W.heap[j]? = some o → W'.heap[j]? = some o
theorem kpZ_t {b : Nat} {A B C : World} (h : KpZ b A B) (k : KpZ b B C) : KpZ b A C := fun j o h1 h2 h3 => k j o h1 h2 (h j o h1 h2 h3)
theorem kpZ_b {b : Nat} {w : World} (hB : b + 3 ≤ w.heap.size) (W : World) (l : Nat) (o o' : Obj) (hl : w.heap.size ≤ l) (_ : W.heap[l]? = some o) (_ : o.isCells = false) (_ : o.isWalk = false) : KpZ b W (W.putObj l o') :=
  fun j q _ h2 h3 => (World.putObj_heap_other (by omega)).trans h3
/-- How long the string in a box is. -/
def strLenW (W : World) (b : Nat) : Nat := match W.cell? ⟨b, 0, none⟩ with | some (.string s) => s.size | _ => 0
/-- A part is no longer than an int says. -/
def OkZ (x : List UInt8) : Prop := x.length ≤ 9223372036854775807
structure Boxes (W : World) (b : Nat) (q : ByteArray) : Prop where
  s : W.heap[b]? = some (.cells #[.string q] 9 (0, 0))
  sep : W.heap[b + 1]? = some (.cells #[.string ⟨#[0]⟩] 9 (0, 0))
  save : W.heap[b + 2]? = some (.cells #[.int .i64 0] 3 (0, 0))
theorem Boxes.cells {W : World} {b : Nat} {q : ByteArray} (h : Boxes W b q) : W.cell? ⟨b, 0, none⟩ = some (.string q) ∧ W.cell? ⟨b + 1, 0, none⟩ = some (.string ⟨#[0]⟩) ∧ W.cell? ⟨b + 2, 0, none⟩ = some (.int .i64 0) ∧ W.frozen? ⟨b, 0, none⟩ = false :=
  ⟨cell_of_row _ _ 0 _ _ _ h.s, cell_of_row _ _ 0 _ _ _ h.sep, cell_of_row _ _ 0 _ _ _ h.save, by simp [World.frozen?, h.s]⟩
theorem Boxes.keep {W W' : World} {b : Nat} {q : ByteArray} (h : Boxes W b q) (k : KpZ b W W') : Boxes W' b q := ⟨k _ _ (by omega) (by omega) h.s, k _ _ (by omega) (by omega) h.sep, k _ _ (by omega) (by omega) h.save⟩
theorem Boxes.set {W : World} {b : Nat} {q : ByteArray} (h : Boxes W b q) (p : ByteArray) : Boxes (W.setCell ⟨b, 0, none⟩ (.string p)) b p :=
  ⟨by simpa using setCell_block h.s 0 (.string p), (Below.heap_setCell W ⟨b, 0, none⟩ _ (b + 1) (by simp)).trans h.sep, (Below.heap_setCell W ⟨b, 0, none⟩ _ (b + 2) (by simp)).trans h.save⟩
theorem Boxes.len {W : World} {b : Nat} {q : ByteArray} (h : Boxes W b q) : strLenW W b = q.size := by
  unfold strLenW; rw [h.cells.1]
theorem ex_take (q : ByteArray) (k : Nat) : q.extract 0 k = bs (q.data.toList.take k) := by
  apply ByteArray.ext; apply Array.ext'; simp [bs, List.extract_eq_take_drop]
theorem ex_drop (q : ByteArray) (k : Nat) : (q.extract k q.size).data.toList = q.data.toList.drop k := by
  simp [List.extract_eq_take_drop]
  exact List.take_of_length_le (by simp)
set_option maxRecDepth 100000 in
set_option maxHeartbeats 4000000 in
theorem spl_in (n : Nat) (hn : 1 ≤ n) (lp b : Nat) (s : ByteArray) (hs : s.size ≤ 9223372036854775807) (W : World) (J Jx : List (List UInt8) → World → Prop) (hJ : AbB b W.heap.size J)
    (hY : ∀ pre x W1, OkZ x → J pre W1 → YieldAt Fence.wide (n - 1) Tryd.prog lp (encZ x) W1 fun e W' => (e = .returned (.bool true) ∧ J (pre ++ [x]) W' ∧ KpZ b W1 W') ∨ (e = .returned (.bool false) ∧ Jx (pre ++ [x]) W'))
    (hBs : Boxes W b s) (h0 : J [] W) :
    CallsIn Fence.wide n Tryd.prog 85 #[.func (.yield lp) #[] #[], .pointer (some ⟨b + 1, 0, none⟩), .pointer (some ⟨b, 0, none⟩), .pointer (some ⟨b + 2, 0, none⟩)] W fun e W' => (∃ v, e = .returned v) ∧
      ((∃ xs, xs = partsZ s.data.toList ∧ J xs W') ∨ (∃ pre, (∃ post, pre ++ post = partsZ s.data.toList) ∧ Jx pre W')) := by
  have hro : Fence.wide.round = none := rfl
  obtain ⟨c0, c1, c2, f0⟩ := hBs.cells
  have HS := Lib.hid hs
  refine callsIn_of_wp Tryd.func85 rfl trivial ?_ hro
  simp only [Tryd.ntmps85, List.size_toArray, List.length_cons, List.length_nil, Nat.reduceAdd, Nat.reduceSub, Array.replicate_succ, Array.replicate_zero, List.push_toArray, List.append_toArray, List.nil_append, List.cons_append]
  gi_wp2
  gi_loopw [] (fun wr => ∃ (pre : List (List UInt8)) (q : ByteArray), partsZ s.data.toList = pre ++ partsZ q.data.toList ∧ q.size ≤ s.size ∧ Boxes wr b q ∧ J pre wr)
    (fun wr => strLenW wr b)
  case atStart => exact ⟨[], s, rfl, Nat.le_refl _, hBs, h0⟩
  case round =>
    obtain ⟨pre, q, e1, e2, hB, hJs⟩ := hrel
    clear c0 c1 c2 f0
    obtain ⟨c0, c1, c2, f0⟩ := hB.cells
    have HQ := Lib.hid (show q.size ≤ 9223372036854775807 by omega)
    have IX := Lib.hid (fun m => (callsIn_wide (n := m)).2 (ix_any q wr))
    by_cases hi : Lib.indexByte q.data.toList 0 < 0
    · have hp := parts_none (index_none hi)
      rw [hp] at e1
      obtain ⟨fn, tmps, assign, body, hy, hR⟩ := hY pre q.data.toList wr (by have := HQ.out; unfold OkZ; simp; omega) hJs
      dsimp only [encZ] at hy
      rw [show bs q.data.toList = q from rfl] at hy
      have E1 := Lib.hid e1
      obtain ⟨z, hz⟩ : ∃ z, Lib.indexByte q.data.toList 0 = z := ⟨_, rfl⟩
      rw [hz] at hi IX
      clear hY e1 e2 hB hBs hp hz
      gi_wp2_with fail
      refine ⟨trivial, (IX.out _).mono ?_⟩
      rintro e w' ⟨rfl, rfl⟩
      gi_wp2_with fail
      refine hR.mono ?_
      rintro e W3 (⟨rfl, hJ3, hk3⟩ | ⟨rfl, hJx3⟩)
      · gi_wp2_with fail
        go_end0
        exact ⟨⟨_, rfl⟩, .inl ⟨_, E1.out.symm, hJ3⟩⟩
      · gi_wp2_with fail
        go_end0
        exact ⟨⟨_, rfl⟩, .inr ⟨_, ⟨[], by rw [List.append_nil]; exact E1.out.symm⟩, hJx3⟩⟩
    · obtain ⟨a, r, er, hz, hx⟩ := index_some hi
      have hp := parts_zero r hz
      rw [← er] at hp
      rw [hp] at e1
      obtain ⟨fn, tmps, assign, body, hy, hR⟩ := hY pre a wr (by have := HQ.out; have h2 := congrArg List.length er; simp at h2; unfold OkZ; omega) hJs
      dsimp only [encZ] at hy
      have hlen : q.size = a.length + 1 + r.length := by
        have := congrArg List.length er
        simp at this
        omega
      obtain ⟨m, hm⟩ : ∃ m, a.length = m := ⟨_, rfl⟩
      rw [hm] at hx hlen
      rw [hx] at IX
      have hxa : bs a = q.extract 0 m := by rw [ex_take, er, ← hm, List.take_left]
      rw [hxa] at hy
      have hrd : (q.extract (m + 1) q.size).data.toList = r := by rw [ex_drop, er, ← hm, List.drop_append]; simp
      have hm0 : ¬ (m : Int) < 0 := by omega
      have hm1 : (m : Int) + 1 ≤ (q.size : Int) := by omega
      have hm2 : (q.size : Int) ≤ 9223372036854775807 := by have := HQ.out; omega
      have NX := Lib.hid (show partsZ s.data.toList = (pre ++ [a]) ++ partsZ (q.extract (m + 1) q.size).data.toList ∧ (q.extract (m + 1) q.size).size ≤ s.size ∧ (q.extract (m + 1) q.size).size < q.size from
        ⟨by rw [hrd, e1, List.append_assoc]; rfl, by have := congrArg List.length hrd; simp at this; simp; omega, by simp; omega⟩)
      have HB := Lib.hid hB
      have HJ := Lib.hid hJ
      have E1 := Lib.hid (show ∃ post, (pre ++ [a]) ++ post = partsZ s.data.toList from ⟨_, by rw [e1, List.append_assoc]; rfl⟩)
      clear hY e1 e2 hB hBs hp hx hi er hz hm hlen hxa hrd hJ hs
      gi_wp2_with fail
      refine ⟨trivial, (IX.out _).mono ?_⟩
      rintro e w' ⟨rfl, rfl⟩
      gi_wp2_with fail
      refine hR.mono ?_
      rintro e W3 (⟨rfl, hJ3, hk3⟩ | ⟨rfl, hJx3⟩)
      · have HB3 := Lib.hid (HB.out.keep hk3)
        have SL := Lib.hid HB.out.len
        obtain ⟨d0, d1, d2, g0⟩ := HB3.out.cells
        gi_wp2_with fail
        go_roundw
        case rel => exact ⟨_, q.extract (m + 1) q.size, NX.out.1, NX.out.2.1, HB3.out.set _, HJ.out _ _ _ (some b) hJ3 (block_kept _ _ _ _) (fun r e => by cases e; exact .inl rfl)⟩
        case measure =>
          rw [SL.out, (HB3.out.set _).len]
          exact NX.out.2.2
      · gi_wp2_with fail
        refine bodyPost_ret (results_none rfl _ _ _) rfl ?_
        exact ⟨⟨_, rfl⟩, .inr ⟨_, E1.out, hJx3⟩⟩
/-- The iterator as a value that the law of the range takes. -/
theorem spl_seq (n : Nat) (hn : 1 ≤ n) (b : Nat) (s : ByteArray) (hs : s.size ≤ 9223372036854775807) (w : World) (hB : Boxes w b s) :
    SeqB Fence.wide n Tryd.prog 85 #[.pointer (some ⟨b + 1, 0, none⟩), .pointer (some ⟨b, 0, none⟩), .pointer (some ⟨b + 2, 0, none⟩)] encZ OkZ b (KpZ b) (fun xs => xs = partsZ s.data.toList) (fun pre => ∃ post, pre ++ post = partsZ s.data.toList) w :=
  fun l J Jx W hW hJ _ hY h0 => spl_in n hn l b s hs W J Jx hJ hY
    ⟨(hW.block _ (lt_of_block hB.s)).trans hB.s, (hW.block _ (lt_of_block hB.sep)).trans hB.sep, (hW.block _ (lt_of_block hB.save)).trans hB.save⟩ h0
end
end Go.Proofs.YtjbgnlnchchgcaaDoor
