/-
  What prop.Read returns, as the caller reads it. Condition: the bytes are no more than an int says.
  A cursor and what its plain counterpart says: Take, Number, Left, Peek, Fail, Err. Condition: the bytes are no more than an int says.
  What is read of a list of properties is no more than its fields may hold. No condition.
  The contracts of polyglotref05.value and body, at properties that are valid. Condition: as many as a list may have.
  The reference's cursor as Cs tells it: Take, Number, Fail, Left; polyglotref08.Text and Binary. Condition: at most 70,000 bytes.
  The contracts of connect.reader's small methods: require, octet, ahead, pass, piece, text, data, props. Condition: the bytes are no more than an int says.
  The contracts of connect.reader's props and flags, and of connect.described. Condition: the bytes are no more than an int says.
  The contracts of polyglotref05.text and next. Condition: at most 70,000 bytes.
-/
import Derived.Deep.RegionHeld3
import Derived.Deep.LoopGhost
import Derived.BigQuiet
import Derived.Great.BuildSlice
import Derived.Laws.ResultCell
import Derived.Test.YtaahhbjnflimnaaGreatK42
import Derived.Test.YtaahhbjnflimnaaGreatK41
import Derived.Test.YtaahhbjnflimnaaGreatK38
import Derived.Test.YtaahhbjnflimnaaGreatK09
import Derived.Test.YtaahhbjnflimnaaGreatK40
import Derived.Test.YtaahhbjnflimnaaGreatK06
import Derived.Test.YtaahhbjnflimnaaGreatK25
import Derived.Test.YtaahhbjnflimnaaGreatK27
import Derived.Test.YtaahhbjnflimnaaGreatK39
import Derived.Test.YtaahhbjnflimnaaGreatK33
import Derived.Test.YtaahhbjnflimnaaGreatK36
import Derived.Test.YtaahhbjnflimnaaGreatK14
import Derived.Test.YtaahhbjnflimnaaGreatK02
namespace Go.Proofs.YtaahhbjnflimnaaGreat
open Go.RowKit

theorem prop_read_far (kind : Int) (s : ByteArray) (L : List Pr) (k F : Nat) (hk0 : -9223372036854775808 ≤ kind) (hk1 : kind ≤ 9223372036854775807) (hm : s.size ≤ 9223372036854775807) (hq : readP kind s.data.toList = (L, k, F)) (W : World) :
    Calls Tryz.prog 143 #[.int .i64 kind, .string s] W fun e W' => Below W.heap.size W W' ∧ ∃ A c, e = .returned (.tuple #[.slice A L.length c, .int .i64 (k : Nat), .int .i64 (F : Nat)]) ∧ L.length ≤ c ∧ PL W' A L ∧ (∀ p ∈ L, PrOk p) ∧ L.length ≤ 1000 ∧ ∀ g i, A = some ⟨g, i, none⟩ → W.heap.size ≤ g := by
  have := prop_read_any kind s W hk0 hk1 hm
  rw [hq] at this
  refine this.mono fun e W' ⟨hb, ok, hl, v, he, ho⟩ => ⟨hb, ?_⟩
  obtain ⟨A, c, rfl, hc, hP, hg⟩ := PL.owned ho rfl
  exact ⟨A, c, he, hc, hP, ok, hl, hg⟩
end Go.Proofs.YtaahhbjnflimnaaGreat
namespace Go.Proofs.YtaahhbjnflimnaaGreat
open Go.RowKit

/-- A cursor over s stands where x says. -/
def CsAt (W : World) (cb : Nat) (s : ByteArray) (x : Cs) : Prop := ∃ i, i ≤ s.size ∧ Cur W cb s i (x.e : Nat) ∧ s.data.toList.drop i = x.r
section
variable {w W W' : World} {cb : Nat} {s : ByteArray} {x : Cs}
theorem CsAt.lt (h : CsAt W cb s x) : cb < W.heap.size := by obtain ⟨i, _, hc, _⟩ := h; exact hc.lt
theorem CsAt.of_block (h : CsAt W cb s x) (hb : W'.heap[cb]? = W.heap[cb]?) : CsAt W' cb s x := by obtain ⟨i, hi, hc, hr⟩ := h; exact ⟨i, hi, hc.of_block hb, hr⟩
theorem CsAt.alloc (h : CsAt W cb s x) (o : Obj) : CsAt (W.alloc o) cb s x := h.of_block (heap_alloc_old _ _ h.lt)
theorem CsAt.below (h : CsAt W cb s x) (hb : Below W.heap.size W W') : CsAt W' cb s x := h.of_block (hb.block cb h.lt)
theorem CsAt.draws (h : CsAt W cb s x) (n : Nat) : CsAt (W.drewN n) cb s x := h
theorem CsAt.len (h : CsAt W cb s x) : x.r.length ≤ s.size := by
  obtain ⟨i, hi, _, hr⟩ := h
  rw [← hr, List.length_drop, ← size_list]; omega
theorem extract_take (s : ByteArray) (i n : Nat) : s.extract i (i + n) = bs ((s.data.toList.drop i).take n) := by
  apply ByteArray.ext
  apply Array.ext'
  simp [bs, List.extract_eq_take_drop]
theorem cs_num (n : Nat) (hn8 : n ≤ 8) (hm : s.size ≤ 9223372036854775807) (h : CsAt w cb s x) :
    Calls Tryz.prog 142 #[.pointer (some ⟨cb, 0, none⟩), .int .i64 n] w fun e w' => e = .returned (.int .u64 ((x.num n).1 : Nat)) ∧ CsAt w' cb s (x.num n).2 ∧ w.grownBy w' (some cb) := by
  obtain ⟨i, hi, hc, hr⟩ := h
  have hl : x.r.length = s.size - i := by rw [← hr, List.length_drop, ← size_list]
  unfold Cs.num Cs.take
  by_cases he : x.e = 0
  · rw [if_neg (by simpa using he)]
    rw [he] at hc
    by_cases hn : x.r.length < n
    · rw [if_pos hn]
      refine (number_past (n : Int) hc hi hm (by omega)).mono fun e w' ⟨h1, h2, h3⟩ => ⟨h1, ⟨i, hi, h2, hr⟩, h3⟩
    · rw [if_neg hn]
      refine (number_ok n hc (by omega) hm).mono fun e w' ⟨h1, h2, h3⟩ => ⟨?_, ⟨i + n, by omega, h2, ?_⟩, h3⟩
      · rw [h1, numOf_part s i n (by omega) hn8, hr]
      · rw [← hr, List.drop_drop]
  · rw [if_pos he]
    refine (number_err (n : Int) hc (by simp; omega)).mono fun e w' ⟨h1, h2⟩ => ⟨h1, h2 ▸ ⟨i, hi, hc, hr⟩, h2 ▸ World.grownBy.refl _ _⟩
theorem cs_err (h : CsAt w cb s x) :
    Calls Tryz.prog 54 #[.pointer (some ⟨cb, 0, none⟩)] w fun e w' => e = .returned (.int .i64 (x.e : Nat)) ∧ w = w' := by
  obtain ⟨i, hi, hc, hr⟩ := h
  exact err_yes hc
end
end Go.Proofs.YtaahhbjnflimnaaGreat
namespace Go.Proofs.YtaahhbjnflimnaaGreat


theorem check_ok {kind : Int} {p : Pr} (h : checkP kind p = 0) : PrOk p ∧ p.text.length ≤ 65535 ∧ p.value.length ≤ 65535 := by
  obtain ⟨hm, h4, h5⟩ := check_parts h
  obtain ⟨_, h1, h2, _⟩ := size_one h
  obtain ⟨r1, r2⟩ := may_range hm
  obtain ⟨f0, f7, f1, f2, f3, f4, _⟩ := row_fits hm
  have hn : p.n < 4294967296 := by
    by_cases hs : shapeP p.id ≤ 4
    · have h6 := (h4 hs).2.2.2
      have hs4 : shapeP p.id = 1 ∨ shapeP p.id = 2 ∨ shapeP p.id = 3 ∨ shapeP p.id = 4 := by omega
      rcases hs4 with e | e | e | e
      · have := f1 e; omega
      · have := f2 e; omega
      · have := f3 e; omega
      · have := f4 e; omega
    · have := (h5 (by omega)).1; omega
  exact ⟨⟨by omega, by omega, hn, by omega, by omega⟩, h1, h2⟩
theorem read_ok (kind : Int) (s : List UInt8) : (∀ p ∈ (readP kind s).1, PrOk p ∧ p.text.length ≤ 65535 ∧ p.value.length ≤ 65535) ∧ (readP kind s).1.length ≤ 1000 := by
  by_cases h : (readP kind s).2.2 = 0
  · have hv := (read_back (show readP kind s = ((readP kind s).1, (readP kind s).2.1, 0) by rw [← h])).1
    obtain ⟨h1, h2, _⟩ := (valid_good _ _).1 hv
    exact ⟨fun p hp => check_ok (h2.1 p hp), h1⟩
  · rw [read_err h]
    exact ⟨fun p hp => (nomatch hp), Nat.zero_le _⟩
theorem props_fit (x : Cs) (v kind : Int) : (∀ p ∈ (x.props v kind).1, PrOk p ∧ p.text.length ≤ 65535 ∧ p.value.length ≤ 65535) ∧ (x.props v kind).1.length ≤ 1000 := by
  unfold Cs.props
  split
  · exact ⟨fun p hp => (nomatch hp), Nat.zero_le _⟩
  · exact read_ok _ _
end Go.Proofs.YtaahhbjnflimnaaGreat
namespace Go.Proofs.YtaahhbjnflimnaaGreat
open Go.RowKit

section
variable {id n : Int} {st sv : ByteArray}
set_option maxRecDepth 100000 in
set_option maxHeartbeats 1000000 in
theorem rv_s1 (LK : ∀ W, Calls Tryz.prog 211 #[.int .i64 id] W fun e w' => ∃ A m x y, e = .returned (.agg #[.int .i64 1, .slice A m m, .int .u32 x, .int .u32 y]) ∧ Below W.heap.size W w') (hw : IntKind.u64.wrap n = n) {R : ByteArray} (PU : ∀ W, Calls Tryz.prog 48 #[.int .u64 n, .int .i64 1] W fun e w' => e = .returned (.string R) ∧ Below W.heap.size W w') (w : World) :
    Calls Tryz.prog 205 #[.agg #[.int .i64 id, .int .u32 n, .string st, .string sv]] w fun e w' => e = .returned (.string R) ∧ Below w.heap.size w w' := by
  have hb0 := heap_alloc_new w (.cells #[.int .i64 id, .int .u32 n, .string st, .string sv] 46)
  have hB0 : Below w.heap.size w (w.alloc (.cells #[.int .i64 id, .int .u32 n, .string st, .string sv] 46)) := (Below.refl _ _).alloc (Nat.le_refl _) _
  have LK := Lib.hid LK
  have PU := Lib.hid PU
  have P0 := Lib.hid hb0
  have B0 := Lib.hid hB0
  have c0 := cell_of_row _ w.heap.size 0 _ _ _ hb0
  clear hb0 hB0
  go_enter Tryz.func205, Tryz.ntmps205
  go_wp2_with fail
  refine (LK.out _).mono ?_
  rintro e w1 ⟨A, m, x, y, rfl, hb⟩
  have P := Lib.hid ((hb.block w.heap.size (by rw [World.size_alloc]; omega)).trans P0.out)
  have B := Lib.hid (B0.out.trans (hb.mono B0.out.size))
  have F0 := row_field0 1 A m m x y
  clear hb c0
  have c0 := cell_of_row _ w.heap.size 0 _ _ _ P.out
  have c1 := cell_of_row _ w.heap.size 1 _ _ _ P.out
  have c2 := cell_of_row _ w.heap.size 2 _ _ _ P.out
  have c3 := cell_of_row _ w.heap.size 3 _ _ _ P.out
  go_wp2_with fail
  refine (PU.out _).mono ?_
  rintro e w2 ⟨rfl, hb⟩
  have P := Lib.hid ((hb.block w.heap.size (lt_of_block P.out)).trans P.out)
  have B := Lib.hid (B.out.trans (hb.mono B.out.size))
  clear hb c0 c1 c2 c3
  have c0 := cell_of_row _ w.heap.size 0 _ _ _ P.out
  have c1 := cell_of_row _ w.heap.size 1 _ _ _ P.out
  have c2 := cell_of_row _ w.heap.size 2 _ _ _ P.out
  have c3 := cell_of_row _ w.heap.size 3 _ _ _ P.out
  go_wp2_with fail
  go_ret
  exact ⟨rfl, B.out⟩
set_option maxRecDepth 100000 in
set_option maxHeartbeats 1000000 in
theorem rv_s2 (LK : ∀ W, Calls Tryz.prog 211 #[.int .i64 id] W fun e w' => ∃ A m x y, e = .returned (.agg #[.int .i64 2, .slice A m m, .int .u32 x, .int .u32 y]) ∧ Below W.heap.size W w') (hw : IntKind.u64.wrap n = n) {R : ByteArray} (PU : ∀ W, Calls Tryz.prog 48 #[.int .u64 n, .int .i64 2] W fun e w' => e = .returned (.string R) ∧ Below W.heap.size W w') (w : World) :
    Calls Tryz.prog 205 #[.agg #[.int .i64 id, .int .u32 n, .string st, .string sv]] w fun e w' => e = .returned (.string R) ∧ Below w.heap.size w w' := by
  have hb0 := heap_alloc_new w (.cells #[.int .i64 id, .int .u32 n, .string st, .string sv] 46)
  have hB0 : Below w.heap.size w (w.alloc (.cells #[.int .i64 id, .int .u32 n, .string st, .string sv] 46)) := (Below.refl _ _).alloc (Nat.le_refl _) _
  have LK := Lib.hid LK
  have PU := Lib.hid PU
  have P0 := Lib.hid hb0
  have B0 := Lib.hid hB0
  have c0 := cell_of_row _ w.heap.size 0 _ _ _ hb0
  clear hb0 hB0
  go_enter Tryz.func205, Tryz.ntmps205
  go_wp2_with fail
  refine (LK.out _).mono ?_
  rintro e w1 ⟨A, m, x, y, rfl, hb⟩
  have P := Lib.hid ((hb.block w.heap.size (by rw [World.size_alloc]; omega)).trans P0.out)
  have B := Lib.hid (B0.out.trans (hb.mono B0.out.size))
  have F0 := row_field0 2 A m m x y
  clear hb c0
  have c0 := cell_of_row _ w.heap.size 0 _ _ _ P.out
  have c1 := cell_of_row _ w.heap.size 1 _ _ _ P.out
  have c2 := cell_of_row _ w.heap.size 2 _ _ _ P.out
  have c3 := cell_of_row _ w.heap.size 3 _ _ _ P.out
  go_wp2_with fail
  refine (PU.out _).mono ?_
  rintro e w2 ⟨rfl, hb⟩
  have P := Lib.hid ((hb.block w.heap.size (lt_of_block P.out)).trans P.out)
  have B := Lib.hid (B.out.trans (hb.mono B.out.size))
  clear hb c0 c1 c2 c3
  have c0 := cell_of_row _ w.heap.size 0 _ _ _ P.out
  have c1 := cell_of_row _ w.heap.size 1 _ _ _ P.out
  have c2 := cell_of_row _ w.heap.size 2 _ _ _ P.out
  have c3 := cell_of_row _ w.heap.size 3 _ _ _ P.out
  go_wp2_with fail
  go_ret
  exact ⟨rfl, B.out⟩
set_option maxRecDepth 100000 in
set_option maxHeartbeats 1000000 in
theorem rv_s3 (LK : ∀ W, Calls Tryz.prog 211 #[.int .i64 id] W fun e w' => ∃ A m x y, e = .returned (.agg #[.int .i64 3, .slice A m m, .int .u32 x, .int .u32 y]) ∧ Below W.heap.size W w') (hw : IntKind.u64.wrap n = n) {R : ByteArray} (PU : ∀ W, Calls Tryz.prog 48 #[.int .u64 n, .int .i64 4] W fun e w' => e = .returned (.string R) ∧ Below W.heap.size W w') (w : World) :
    Calls Tryz.prog 205 #[.agg #[.int .i64 id, .int .u32 n, .string st, .string sv]] w fun e w' => e = .returned (.string R) ∧ Below w.heap.size w w' := by
  have hb0 := heap_alloc_new w (.cells #[.int .i64 id, .int .u32 n, .string st, .string sv] 46)
  have hB0 : Below w.heap.size w (w.alloc (.cells #[.int .i64 id, .int .u32 n, .string st, .string sv] 46)) := (Below.refl _ _).alloc (Nat.le_refl _) _
  have LK := Lib.hid LK
  have PU := Lib.hid PU
  have P0 := Lib.hid hb0
  have B0 := Lib.hid hB0
  have c0 := cell_of_row _ w.heap.size 0 _ _ _ hb0
  clear hb0 hB0
  go_enter Tryz.func205, Tryz.ntmps205
  go_wp2_with fail
  refine (LK.out _).mono ?_
  rintro e w1 ⟨A, m, x, y, rfl, hb⟩
  have P := Lib.hid ((hb.block w.heap.size (by rw [World.size_alloc]; omega)).trans P0.out)
  have B := Lib.hid (B0.out.trans (hb.mono B0.out.size))
  have F0 := row_field0 3 A m m x y
  clear hb c0
  have c0 := cell_of_row _ w.heap.size 0 _ _ _ P.out
  have c1 := cell_of_row _ w.heap.size 1 _ _ _ P.out
  have c2 := cell_of_row _ w.heap.size 2 _ _ _ P.out
  have c3 := cell_of_row _ w.heap.size 3 _ _ _ P.out
  go_wp2_with fail
  refine (PU.out _).mono ?_
  rintro e w2 ⟨rfl, hb⟩
  have P := Lib.hid ((hb.block w.heap.size (lt_of_block P.out)).trans P.out)
  have B := Lib.hid (B.out.trans (hb.mono B.out.size))
  clear hb c0 c1 c2 c3
  have c0 := cell_of_row _ w.heap.size 0 _ _ _ P.out
  have c1 := cell_of_row _ w.heap.size 1 _ _ _ P.out
  have c2 := cell_of_row _ w.heap.size 2 _ _ _ P.out
  have c3 := cell_of_row _ w.heap.size 3 _ _ _ P.out
  go_wp2_with fail
  go_ret
  exact ⟨rfl, B.out⟩
set_option maxRecDepth 100000 in
set_option maxHeartbeats 1000000 in
theorem rv_s4 (LK : ∀ W, Calls Tryz.prog 211 #[.int .i64 id] W fun e w' => ∃ A m x y, e = .returned (.agg #[.int .i64 4, .slice A m m, .int .u32 x, .int .u32 y]) ∧ Below W.heap.size W w') (hw : IntKind.i64.wrap n = n) {R : ByteArray} {z : Int} (PU : ∀ W, Calls Tryz.prog 167 #[.int .i64 n] W fun e w' => e = .returned (.tuple #[.string R, .int .i64 z]) ∧ Below W.heap.size W w') (w : World) :
    Calls Tryz.prog 205 #[.agg #[.int .i64 id, .int .u32 n, .string st, .string sv]] w fun e w' => e = .returned (.string R) ∧ Below w.heap.size w w' := by
  have hb0 := heap_alloc_new w (.cells #[.int .i64 id, .int .u32 n, .string st, .string sv] 46)
  have hB0 : Below w.heap.size w (w.alloc (.cells #[.int .i64 id, .int .u32 n, .string st, .string sv] 46)) := (Below.refl _ _).alloc (Nat.le_refl _) _
  have LK := Lib.hid LK
  have PU := Lib.hid PU
  have P0 := Lib.hid hb0
  have B0 := Lib.hid hB0
  have c0 := cell_of_row _ w.heap.size 0 _ _ _ hb0
  clear hb0 hB0
  go_enter Tryz.func205, Tryz.ntmps205
  go_wp2_with fail
  refine (LK.out _).mono ?_
  rintro e w1 ⟨A, m, x, y, rfl, hb⟩
  have P := Lib.hid ((hb.block w.heap.size (by rw [World.size_alloc]; omega)).trans P0.out)
  have B := Lib.hid (B0.out.trans (hb.mono B0.out.size))
  have F0 := row_field0 4 A m m x y
  clear hb c0
  have c0 := cell_of_row _ w.heap.size 0 _ _ _ P.out
  have c1 := cell_of_row _ w.heap.size 1 _ _ _ P.out
  have c2 := cell_of_row _ w.heap.size 2 _ _ _ P.out
  have c3 := cell_of_row _ w.heap.size 3 _ _ _ P.out
  go_wp2_with fail
  refine (PU.out _).mono ?_
  rintro e w2 ⟨rfl, hb⟩
  have P := Lib.hid ((hb.block w.heap.size (lt_of_block P.out)).trans P.out)
  have B := Lib.hid (B.out.trans (hb.mono B.out.size))
  clear hb c0 c1 c2 c3
  have c0 := cell_of_row _ w.heap.size 0 _ _ _ P.out
  have c1 := cell_of_row _ w.heap.size 1 _ _ _ P.out
  have c2 := cell_of_row _ w.heap.size 2 _ _ _ P.out
  have c3 := cell_of_row _ w.heap.size 3 _ _ _ P.out
  go_wp2_with fail
  go_ret
  exact ⟨rfl, B.out⟩
set_option maxRecDepth 100000 in
set_option maxHeartbeats 1000000 in
theorem rv_s5 (LK : ∀ W, Calls Tryz.prog 211 #[.int .i64 id] W fun e w' => ∃ A m x y, e = .returned (.agg #[.int .i64 5, .slice A m m, .int .u32 x, .int .u32 y]) ∧ Below W.heap.size W w') {R : ByteArray} {z : Int} (BT : ∀ W, Calls Tryz.prog 113 #[.string st] W fun e w' => e = .returned (.tuple #[.string R, .int .i64 z]) ∧ Below W.heap.size W w') (w : World) :
    Calls Tryz.prog 205 #[.agg #[.int .i64 id, .int .u32 n, .string st, .string sv]] w fun e w' => e = .returned (.string R) ∧ Below w.heap.size w w' := by
  have hb0 := heap_alloc_new w (.cells #[.int .i64 id, .int .u32 n, .string st, .string sv] 46)
  have hB0 : Below w.heap.size w (w.alloc (.cells #[.int .i64 id, .int .u32 n, .string st, .string sv] 46)) := (Below.refl _ _).alloc (Nat.le_refl _) _
  have LK := Lib.hid LK
  have BT := Lib.hid BT
  have P0 := Lib.hid hb0
  have B0 := Lib.hid hB0
  have c0 := cell_of_row _ w.heap.size 0 _ _ _ hb0
  clear hb0 hB0
  go_enter Tryz.func205, Tryz.ntmps205
  go_wp2_with fail
  refine (LK.out _).mono ?_
  rintro e w1 ⟨A, m, x, y, rfl, hb⟩
  have P := Lib.hid ((hb.block w.heap.size (by rw [World.size_alloc]; omega)).trans P0.out)
  have B := Lib.hid (B0.out.trans (hb.mono B0.out.size))
  have F0 := row_field0 5 A m m x y
  clear hb c0
  have c0 := cell_of_row _ w.heap.size 0 _ _ _ P.out
  have c1 := cell_of_row _ w.heap.size 1 _ _ _ P.out
  have c2 := cell_of_row _ w.heap.size 2 _ _ _ P.out
  have c3 := cell_of_row _ w.heap.size 3 _ _ _ P.out
  go_wp2_with fail
  refine (BT.out _).mono ?_
  rintro e w2 ⟨rfl, hb⟩
  have P := Lib.hid ((hb.block w.heap.size (lt_of_block P.out)).trans P.out)
  have B := Lib.hid (B.out.trans (hb.mono B.out.size))
  clear hb c0 c1 c2 c3
  have c0 := cell_of_row _ w.heap.size 0 _ _ _ P.out
  have c1 := cell_of_row _ w.heap.size 1 _ _ _ P.out
  have c2 := cell_of_row _ w.heap.size 2 _ _ _ P.out
  have c3 := cell_of_row _ w.heap.size 3 _ _ _ P.out
  go_wp2_with fail
  refine (LK.out _).mono ?_
  rintro e w3 ⟨A, m, x, y, rfl, hb⟩
  have F0 := row_field0 5 A m m x y
  have P := Lib.hid ((hb.block w.heap.size (lt_of_block P.out)).trans P.out)
  have B := Lib.hid (B.out.trans (hb.mono B.out.size))
  clear hb c0 c1 c2 c3
  have c0 := cell_of_row _ w.heap.size 0 _ _ _ P.out
  have c1 := cell_of_row _ w.heap.size 1 _ _ _ P.out
  have c2 := cell_of_row _ w.heap.size 2 _ _ _ P.out
  have c3 := cell_of_row _ w.heap.size 3 _ _ _ P.out
  go_wp2_with fail
  go_ret
  exact ⟨rfl, B.out⟩
set_option maxRecDepth 100000 in
set_option maxHeartbeats 1000000 in
theorem rv_s6 (LK : ∀ W, Calls Tryz.prog 211 #[.int .i64 id] W fun e w' => ∃ A m x y, e = .returned (.agg #[.int .i64 6, .slice A m m, .int .u32 x, .int .u32 y]) ∧ Below W.heap.size W w') {R : ByteArray} {z : Int} (BT : ∀ W, Calls Tryz.prog 113 #[.string st] W fun e w' => e = .returned (.tuple #[.string R, .int .i64 z]) ∧ Below W.heap.size W w') (w : World) :
    Calls Tryz.prog 205 #[.agg #[.int .i64 id, .int .u32 n, .string st, .string sv]] w fun e w' => e = .returned (.string R) ∧ Below w.heap.size w w' := by
  have hb0 := heap_alloc_new w (.cells #[.int .i64 id, .int .u32 n, .string st, .string sv] 46)
  have hB0 : Below w.heap.size w (w.alloc (.cells #[.int .i64 id, .int .u32 n, .string st, .string sv] 46)) := (Below.refl _ _).alloc (Nat.le_refl _) _
  have LK := Lib.hid LK
  have BT := Lib.hid BT
  have P0 := Lib.hid hb0
  have B0 := Lib.hid hB0
  have c0 := cell_of_row _ w.heap.size 0 _ _ _ hb0
  clear hb0 hB0
  go_enter Tryz.func205, Tryz.ntmps205
  go_wp2_with fail
  refine (LK.out _).mono ?_
  rintro e w1 ⟨A, m, x, y, rfl, hb⟩
  have P := Lib.hid ((hb.block w.heap.size (by rw [World.size_alloc]; omega)).trans P0.out)
  have B := Lib.hid (B0.out.trans (hb.mono B0.out.size))
  have F0 := row_field0 6 A m m x y
  clear hb c0
  have c0 := cell_of_row _ w.heap.size 0 _ _ _ P.out
  have c1 := cell_of_row _ w.heap.size 1 _ _ _ P.out
  have c2 := cell_of_row _ w.heap.size 2 _ _ _ P.out
  have c3 := cell_of_row _ w.heap.size 3 _ _ _ P.out
  go_wp2_with fail
  refine (BT.out _).mono ?_
  rintro e w2 ⟨rfl, hb⟩
  have P := Lib.hid ((hb.block w.heap.size (lt_of_block P.out)).trans P.out)
  have B := Lib.hid (B.out.trans (hb.mono B.out.size))
  clear hb c0 c1 c2 c3
  have c0 := cell_of_row _ w.heap.size 0 _ _ _ P.out
  have c1 := cell_of_row _ w.heap.size 1 _ _ _ P.out
  have c2 := cell_of_row _ w.heap.size 2 _ _ _ P.out
  have c3 := cell_of_row _ w.heap.size 3 _ _ _ P.out
  go_wp2_with fail
  refine (LK.out _).mono ?_
  rintro e w3 ⟨A, m, x, y, rfl, hb⟩
  have F0 := row_field0 6 A m m x y
  have P := Lib.hid ((hb.block w.heap.size (lt_of_block P.out)).trans P.out)
  have B := Lib.hid (B.out.trans (hb.mono B.out.size))
  clear hb c0 c1 c2 c3
  have c0 := cell_of_row _ w.heap.size 0 _ _ _ P.out
  have c1 := cell_of_row _ w.heap.size 1 _ _ _ P.out
  have c2 := cell_of_row _ w.heap.size 2 _ _ _ P.out
  have c3 := cell_of_row _ w.heap.size 3 _ _ _ P.out
  go_wp2_with fail
  go_ret
  exact ⟨rfl, B.out⟩
set_option maxRecDepth 100000 in
set_option maxHeartbeats 1000000 in
theorem rv_s7 (LK : ∀ W, Calls Tryz.prog 211 #[.int .i64 id] W fun e w' => ∃ A m x y, e = .returned (.agg #[.int .i64 7, .slice A m m, .int .u32 x, .int .u32 y]) ∧ Below W.heap.size W w') {R : ByteArray} {z : Int} (BT : ∀ W, Calls Tryz.prog 113 #[.string st] W fun e w' => e = .returned (.tuple #[.string R, .int .i64 z]) ∧ Below W.heap.size W w') {R2 : ByteArray} {z2 : Int} (BV : ∀ W, Calls Tryz.prog 113 #[.string sv] W fun e w' => e = .returned (.tuple #[.string R2, .int .i64 z2]) ∧ Below W.heap.size W w') (hnl : ¬ 9223372036854775807 < R.size + R2.size) (w : World) :
    Calls Tryz.prog 205 #[.agg #[.int .i64 id, .int .u32 n, .string st, .string sv]] w fun e w' => e = .returned (.string (R ++ R2)) ∧ Below w.heap.size w w' := by
  have hb0 := heap_alloc_new w (.cells #[.int .i64 id, .int .u32 n, .string st, .string sv] 46)
  have hB0 : Below w.heap.size w (w.alloc (.cells #[.int .i64 id, .int .u32 n, .string st, .string sv] 46)) := (Below.refl _ _).alloc (Nat.le_refl _) _
  have LK := Lib.hid LK
  have BT := Lib.hid BT
  have BV := Lib.hid BV
  have P0 := Lib.hid hb0
  have B0 := Lib.hid hB0
  have c0 := cell_of_row _ w.heap.size 0 _ _ _ hb0
  clear hb0 hB0
  go_enter Tryz.func205, Tryz.ntmps205
  go_wp2_with fail
  refine (LK.out _).mono ?_
  rintro e w1 ⟨A, m, x, y, rfl, hb⟩
  have P := Lib.hid ((hb.block w.heap.size (by rw [World.size_alloc]; omega)).trans P0.out)
  have B := Lib.hid (B0.out.trans (hb.mono B0.out.size))
  have F0 := row_field0 7 A m m x y
  clear hb c0
  have c0 := cell_of_row _ w.heap.size 0 _ _ _ P.out
  have c1 := cell_of_row _ w.heap.size 1 _ _ _ P.out
  have c2 := cell_of_row _ w.heap.size 2 _ _ _ P.out
  have c3 := cell_of_row _ w.heap.size 3 _ _ _ P.out
  go_wp2_with fail
  refine (BT.out _).mono ?_
  rintro e w2 ⟨rfl, hb⟩
  have P := Lib.hid ((hb.block w.heap.size (lt_of_block P.out)).trans P.out)
  have B := Lib.hid (B.out.trans (hb.mono B.out.size))
  clear hb c0 c1 c2 c3
  have c0 := cell_of_row _ w.heap.size 0 _ _ _ P.out
  have c1 := cell_of_row _ w.heap.size 1 _ _ _ P.out
  have c2 := cell_of_row _ w.heap.size 2 _ _ _ P.out
  have c3 := cell_of_row _ w.heap.size 3 _ _ _ P.out
  go_wp2_with fail
  refine (LK.out _).mono ?_
  rintro e w3 ⟨A, m, x, y, rfl, hb⟩
  have F0 := row_field0 7 A m m x y
  have P := Lib.hid ((hb.block w.heap.size (lt_of_block P.out)).trans P.out)
  have B := Lib.hid (B.out.trans (hb.mono B.out.size))
  clear hb c0 c1 c2 c3
  have c0 := cell_of_row _ w.heap.size 0 _ _ _ P.out
  have c1 := cell_of_row _ w.heap.size 1 _ _ _ P.out
  have c2 := cell_of_row _ w.heap.size 2 _ _ _ P.out
  have c3 := cell_of_row _ w.heap.size 3 _ _ _ P.out
  go_wp2_with fail
  refine (BV.out _).mono ?_
  rintro e w4 ⟨rfl, hb⟩
  have P := Lib.hid ((hb.block w.heap.size (lt_of_block P.out)).trans P.out)
  have B := Lib.hid (B.out.trans (hb.mono B.out.size))
  clear hb c0 c1 c2 c3
  have c0 := cell_of_row _ w.heap.size 0 _ _ _ P.out
  have c1 := cell_of_row _ w.heap.size 1 _ _ _ P.out
  have c2 := cell_of_row _ w.heap.size 2 _ _ _ P.out
  have c3 := cell_of_row _ w.heap.size 3 _ _ _ P.out
  go_wp2_with fail
  go_ret
  exact ⟨rfl, B.out⟩
end
theorem ref_value {kind : Int} (p : Pr) (ck : checkP kind p = 0) (w : World) :
    Calls Tryz.prog 205 #[propV p] w fun e w' => e = .returned (.string (bs (valueP p))) ∧ Below w.heap.size w w' := by
  obtain ⟨hm, h4, h5⟩ := check_parts ck
  obtain ⟨r1, r2, f1, f2, f3, f4, _⟩ := row_fits hm
  have LK := fun W => (look_any p.id W).mono (R' := fun e w' => ∃ A m x y, e = .returned (.agg #[.int .i64 ((shapeP p.id : Nat) : Int), .slice A m m, .int .u32 x, .int .u32 y]) ∧ Below W.heap.size W w') (fun e w' ⟨A, h1, h2, _⟩ => ⟨A, _, _, _, h1, h2⟩)
  have hh : shapeP p.id = 1 ∨ shapeP p.id = 2 ∨ shapeP p.id = 3 ∨ shapeP p.id = 4 ∨ shapeP p.id = 5 ∨ shapeP p.id = 6 ∨ shapeP p.id = 7 := by omega
  unfold valueP propV
  rcases hh with s | s | s | s | s | s | s
  · rw [s] at LK
    rw [if_pos s]
    obtain ⟨_, _, _, hn⟩ := h4 (by omega)
    have := f1 s
    exact rv_s1 LK (by simp only [IntKind.wrap_u64]; omega) (fun W => ref_put p.n 1 W (by omega) (by decide) (by decide)) w
  · rw [s] at LK
    rw [if_neg (by omega), if_pos s]
    obtain ⟨_, _, _, hn⟩ := h4 (by omega)
    have := f2 s
    exact rv_s2 LK (by simp only [IntKind.wrap_u64]; omega) (fun W => ref_put p.n 2 W (by omega) (by decide) (by decide)) w
  · rw [s] at LK
    rw [if_neg (by omega), if_neg (by omega), if_pos s]
    obtain ⟨_, _, _, hn⟩ := h4 (by omega)
    have := f3 s
    exact rv_s3 LK (by simp only [IntKind.wrap_u64]; omega) (fun W => ref_put p.n 4 W (by omega) (by decide) (by decide)) w
  · rw [s] at LK
    rw [if_neg (by omega), if_neg (by omega), if_neg (by omega), if_pos s]
    obtain ⟨_, _, _, hn⟩ := h4 (by omega)
    have := f4 s
    exact rv_s4 LK (by simp only [IntKind.wrap_i64]; omega) (fun W => ref_bytes_some p.n W (by omega)) w
  all_goals
    rw [if_neg (by omega), if_neg (by omega), if_neg (by omega), if_neg (by omega)]
    obtain ⟨_, hv7, hv6, hvt⟩ := h5 (by omega)
    rw [s] at LK
  · rw [if_neg (by omega)]
    obtain ⟨v1, v2⟩ := hvt (by omega)
    have l1 := ((validOf_iff _).1 v1).1
    exact rv_s5 LK (fun W => ref_binary_yes (bs p.text) W (by rw [bs_size]; exact l1)) w
  · rw [if_neg (by omega)]
    have l1 := hv6 s
    exact rv_s6 LK (fun W => ref_binary_yes (bs p.text) W (by rw [bs_size]; exact l1)) w
  · rw [if_pos s]
    obtain ⟨v1, v2⟩ := hvt (by omega)
    have l1 := ((validOf_iff _).1 v1).1
    have l2 := ((validOf_iff _).1 v2).1
    have := rv_s7 (st := bs p.text) (sv := bs p.value) (n := p.n) LK (fun W => ref_binary_yes (bs p.text) W (by rw [bs_size]; exact l1)) (fun W => ref_binary_yes (bs p.value) W (by rw [bs_size]; exact l2)) (by rw [bs_size, bs_size, enc2_length, enc2_length, bs_data, bs_data]; omega) w
    rw [bs_append] at this
    exact this
end Go.Proofs.YtaahhbjnflimnaaGreat
namespace Go.Proofs.YtaahhbjnflimnaaGreat
open Go.RowKit

/-- A reference's cursor over s stands where x says. -/
def RsAt (W : World) (cb : Nat) (s : ByteArray) (x : Cs) : Prop := ∃ i, i ≤ s.size ∧ Ref W cb s i (x.e : Nat) ∧ s.data.toList.drop i = x.r
theorem extract_rest (s : ByteArray) (i : Nat) (hi : i ≤ s.size) : s.extract i s.size = bs (s.data.toList.drop i) := by
  have h := extract_take s i (s.size - i)
  rw [Nat.add_sub_cancel' hi] at h
  rw [h, List.take_of_length_le (by rw [List.length_drop, ← size_list]; exact Nat.le_refl _)]
section
variable {w W W' : World} {cb : Nat} {s : ByteArray} {x : Cs}
theorem RsAt.lt (h : RsAt W cb s x) : cb < W.heap.size := by obtain ⟨i, _, hc, _⟩ := h; exact hc.lt
theorem RsAt.of_block (h : RsAt W cb s x) (hb : W'.heap[cb]? = W.heap[cb]?) : RsAt W' cb s x := by obtain ⟨i, hi, hc, hr⟩ := h; exact ⟨i, hi, hc.of_block hb, hr⟩
theorem RsAt.below (h : RsAt W cb s x) (hb : Below W.heap.size W W') : RsAt W' cb s x := h.of_block (hb.block cb h.lt)
theorem tk_cs {i : Nat} (hi : i ≤ s.size) (hr : s.data.toList.drop i = x.r) (n : Nat) : tk s i (x.e : Nat) n = bs (x.take n).1 ∧ te s i (x.e : Nat) n = ((x.take n).2.e : Nat) ∧ s.data.toList.drop (ti s i (x.e : Nat) n) = (x.take n).2.r := by
  have hl : x.r.length = s.size - i := by rw [← hr, List.length_drop, ← size_list]
  unfold Cs.take
  rcases fits_cases s i (x.e : Nat) n hi with ⟨h, h1, h2, h3⟩ | ⟨h, hz, h1, h2, h3⟩ | ⟨h, hz, h1, h2, h3⟩ | ⟨m, h, hm, hz, h1, h2, h3⟩ <;> rw [h1, h2, h3]
  · have he : x.e ≠ 0 := by intro e; rw [e] at h; cases h
    rw [if_pos he]
    exact ⟨rfl, rfl, hr⟩
  · omega
  · rw [if_neg (by omega), if_pos (by omega)]
    exact ⟨rfl, rfl, hr⟩
  · obtain rfl : m = n := by omega
    rw [if_neg (by omega), if_neg (by omega)]
    exact ⟨by rw [extract_take, hr], rfl, by rw [← hr, List.drop_drop]⟩
theorem rs_take (n : Nat) (hm : s.size ≤ 9223372036854775807) (h : RsAt w cb s x) :
    Calls Tryz.prog 102 #[.pointer (some ⟨cb, 0, none⟩), .int .i64 n] w fun e w' => e = .returned (.string (bs (x.take n).1)) ∧ RsAt w' cb s (x.take n).2 ∧ w.grownBy w' (some cb) := by
  obtain ⟨i, hi, hc, hr⟩ := h
  obtain ⟨a1, a2, a3⟩ := tk_cs (x := x) hi hr n
  refine (ref_take_all (n : Int) hc hi hm).mono fun e w' ⟨h1, h2, h3⟩ => ⟨by rw [h1, a1], ⟨_, ti_le s i _ _ hi, by rw [← a2]; exact h2, a3⟩, h3⟩
theorem rs_num (n : Nat) (hn8 : n ≤ 8) (hm : s.size ≤ 9223372036854775807) (h : RsAt w cb s x) :
    Calls Tryz.prog 58 #[.pointer (some ⟨cb, 0, none⟩), .int .i64 n] w fun e w' => e = .returned (.int .u64 ((x.num n).1 : Nat)) ∧ RsAt w' cb s (x.num n).2 ∧ w.grownBy w' (some cb) := by
  obtain ⟨i, hi, hc, hr⟩ := h
  obtain ⟨a1, a2, a3⟩ := tk_cs (x := x) hi hr n
  have hle : (x.take n).1.length ≤ n := by
    unfold Cs.take
    split
    · exact Nat.zero_le _
    · split
      · exact Nat.zero_le _
      · simp; omega
  have hN : numOf (tk s i (x.e : Nat) n) = (x.num n).1 := by
    rw [a1]
    show num ((bs (x.take n).1).data.toList.drop ((bs (x.take n).1).size - 8)) = num (x.take n).1
    rw [bs_size, show (x.take n).1.length - 8 = 0 by omega]
    rfl
  refine (ref_number_all (n : Int) hc hi hm).mono fun e w' ⟨h1, h2, h3⟩ => ⟨by rw [h1, hN], ⟨_, ti_le s i _ _ hi, by rw [show ((x.num n).2.e : Nat) = (x.take n).2.e from rfl, ← a2]; exact h2, a3⟩, h3⟩
theorem rs_fail (f : Nat) (h : RsAt w cb s x) :
    Calls Tryz.prog 59 #[.pointer (some ⟨cb, 0, none⟩), .int .i64 f] w fun e w' => e = .returned (.tuple #[]) ∧ RsAt w' cb s (x.fail f) ∧ w.grownBy w' (some cb) := by
  obtain ⟨i, hi, hc, hr⟩ := h
  refine (ref_fail_all (f : Int) hc).mono fun e w' ⟨h1, h2, h3⟩ => ⟨h1, ?_, h3⟩
  unfold Cs.fail
  by_cases he : x.e = 0
  · rw [if_neg (by simpa using he)]
    rw [show fe ((x.e : Nat) : Int) f = (f : Int) by rw [he]; rfl] at h2
    exact ⟨i, hi, h2, hr⟩
  · rw [if_pos he]
    have hb : (((x.e : Nat) : Int) == 0) = false := by simp; omega
    rw [show fe ((x.e : Nat) : Int) f = ((x.e : Nat) : Int) by unfold fe; rw [hb]; rfl] at h2
    exact ⟨i, hi, h2, hr⟩
theorem rs_left (hm : s.size ≤ 9223372036854775807) (h : RsAt w cb s x) :
    Calls Tryz.prog 103 #[.pointer (some ⟨cb, 0, none⟩)] w fun e w' => e = .returned (.int .i64 (x.r.length : Nat)) ∧ RsAt w' cb s x ∧ w.grownBy w' (some cb) := by
  obtain ⟨i, hi, hc, hr⟩ := h
  have hl : x.r.length = s.size - i := by rw [← hr, List.length_drop, ← size_list]
  rw [hl]
  refine (ref_left hc hi hm).mono fun e w' ⟨h1, n, h2⟩ => ⟨h1, h2 ▸ ⟨i, hi, hc.draws n, hr⟩, h2 ▸ grown_of_draws (n := n) (World.grownBy.refl _ _)⟩
end
end Go.Proofs.YtaahhbjnflimnaaGreat
namespace Go.Proofs.YtaahhbjnflimnaaGreat
open Go.RowKit

section
variable {w W W' : World} {cb : Nat} {s : ByteArray} {x : Cs} {v : Int}
end
end Go.Proofs.YtaahhbjnflimnaaGreat
namespace Go.Proofs.YtaahhbjnflimnaaGreat
open Go.RowKit

section
variable {w W W' : World} {cb : Nat} {s : ByteArray} {x : Cs} {v : Int}
end
end Go.Proofs.YtaahhbjnflimnaaGreat
namespace Go.Proofs.YtaahhbjnflimnaaGreat
open Go.RowKit

theorem text_parts (d : Bool) (r : List UInt8) : ((rdB r).2.2 ≠ 0 ∧ textP d r = ([], 0, 5)) ∨ ((rdB r).2.2 = 0 ∧ d = false ∧ validOf (rdB r).1 = false ∧ textP d r = ([], 0, 6)) ∨ ((rdB r).2.2 = 0 ∧ (d = true ∨ (d = false ∧ validOf (rdB r).1 = true)) ∧ textP d r = ((rdB r).1, (rdB r).2.1, 0)) := by
  unfold textP
  by_cases h : (rdB r).2.2 = 0
  · rw [if_neg (by simp [h])]
    cases d <;> cases hv : validOf (rdB r).1 <;> simp [h]
  · exact .inl ⟨h, by rw [if_pos h]⟩
set_option maxRecDepth 100000 in
set_option maxHeartbeats 1000000 in
theorem ref_text (s : ByteArray) (at' sh : Nat) (w : World) (hs : s.size ≤ 70000) (ha : at' ≤ s.size) (_hsh : sh ≤ 7) :
    Calls Tryz.prog 212 #[.string s, .int .i64 at', .int .i64 sh] w fun e w' => e = .returned (.tuple #[.string (bs (textP (sh == 6) (s.data.toList.drop at')).1), .int .i64 (if (textP (sh == 6) (s.data.toList.drop at')).2.2 = 0 then at' + (textP (sh == 6) (s.data.toList.drop at')).2.1 else 0 : Nat), .int .i64 ((textP (sh == 6) (s.data.toList.drop at')).2.2 : Nat)]) ∧ w' = w := by
  have RB := ref_readbin (s.extract at' s.size) w (by rw [size_list, rest_list, List.length_drop, ← size_list]; omega)
  rw [rest_list] at RB
  have hle := rdB_le (s.data.toList.drop at')
  rw [List.length_drop, ← size_list] at hle
  have q1 : (at' : Int) ≤ (s.size : Int) := by omega
  have q2 : (0 : Int) ≤ (at' : Int) := by omega
  rcases text_parts (sh == 6) (s.data.toList.drop at') with ⟨h1, h2⟩ | ⟨h1, h2, h3, h4⟩ | ⟨h1, h2, h3⟩
  · rw [h2]
    unfold ok3 at RB
    generalize rdB (s.data.toList.drop at') = q at *
    obtain ⟨t, k, z⟩ := q
    have n0 : (((z : Nat) : Int) != 0) = true := by rw [bne_iff_ne]; simp at h1; omega
    have RB := Lib.hid RB
    simp only [show ¬ (5 : Nat) = 0 by decide, if_false]
    clear h1 h2 hle hs ha _hsh
    go_enter Tryz.func212, Tryz.ntmps212
    go_wp2_with fail
    refine (RB.out).mono ?_
    rintro e w1 ⟨rfl, rfl⟩
    go_wp2_with fail
    go_ret3
    exact ⟨rfl, rfl⟩
  · rw [h4]
    have n6 : (((sh : Nat) : Int) != 6) = true := by rw [bne_iff_ne]; simp at h2; omega
    unfold ok3 at RB
    rw [h1] at RB
    have VA := ref_valid_all (bs (rdB (s.data.toList.drop at')).1)
    rw [bs_data, h3] at VA
    generalize rdB (s.data.toList.drop at') = q at *
    obtain ⟨t, k, z⟩ := q
    have RB := Lib.hid RB
    have VA := Lib.hid VA
    simp only [show ¬ (6 : Nat) = 0 by decide, if_false]
    clear h1 h2 h3 h4 hle hs ha _hsh
    go_enter Tryz.func212, Tryz.ntmps212
    go_wp2_with fail
    refine (RB.out).mono ?_
    rintro e w1 ⟨rfl, rfl⟩
    go_wp2_with fail
    refine (VA.out _).mono ?_
    rintro e w1 ⟨rfl, rfl⟩
    go_wp2_with fail
    go_ret3
    exact ⟨rfl, rfl⟩
  · rw [h3]
    unfold ok3 at RB
    rw [h1] at RB
    have VA := ref_valid_all (bs (rdB (s.data.toList.drop at')).1)
    rw [bs_data] at VA
    generalize hq : rdB (s.data.toList.drop at') = q at *
    obtain ⟨t, k, z⟩ := q
    obtain ⟨y, hy⟩ : ∃ y, at' + k = y := ⟨_, rfl⟩
    have q3 : IntKind.i64.wrap ((at' : Int) + (k : Int)) = (y : Int) := by simp only [IntKind.wrap_i64]; simp at hle; omega
    have RB := Lib.hid RB
    simp only [if_true, hy]
    rcases h2 with h2 | ⟨h2, hv⟩
    · have n6 : (((sh : Nat) : Int) != 6) = false := by simp at h2; rw [h2]; rfl
      clear h1 h2 h3 hle hs ha _hsh hq hy VA
      go_enter Tryz.func212, Tryz.ntmps212
      go_wp2_with fail
      refine (RB.out).mono ?_
      rintro e w1 ⟨rfl, rfl⟩
      go_wp2_with fail
      go_ret3
      exact ⟨rfl, rfl⟩
    · have n6 : (((sh : Nat) : Int) != 6) = true := by rw [bne_iff_ne]; simp at h2; omega
      rw [hv] at VA
      have VA := Lib.hid VA
      clear h1 h2 h3 hle hs ha _hsh hq hy hv
      go_enter Tryz.func212, Tryz.ntmps212
      go_wp2_with fail
      refine (RB.out).mono ?_
      rintro e w1 ⟨rfl, rfl⟩
      go_wp2_with fail
      refine (VA.out _).mono ?_
      rintro e w1 ⟨rfl, rfl⟩
      go_wp2_with fail
      go_ret3
      exact ⟨rfl, rfl⟩
end Go.Proofs.YtaahhbjnflimnaaGreat
