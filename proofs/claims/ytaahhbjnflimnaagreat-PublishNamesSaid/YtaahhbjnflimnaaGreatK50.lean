/-
  What prop.Read returns, as the caller reads it. Condition: the bytes are no more than an int says.
  A cursor and what its plain counterpart says: Take, Number, Left, Peek, Fail, Err. Condition: the bytes are no more than an int says.
  What is read of a list of properties is no more than its fields may hold. No condition.
-/
import Derived.Test.YtaahhbjnflimnaaGreatK48
import Derived.Test.YtaahhbjnflimnaaGreatK47
import Derived.Test.YtaahhbjnflimnaaGreatK43
import Derived.Test.YtaahhbjnflimnaaGreatK10
import Derived.Test.YtaahhbjnflimnaaGreatK45
import Derived.Test.YtaahhbjnflimnaaGreatK14
import Derived.Test.YtaahhbjnflimnaaGreatK13
namespace Go.Proofs.YtaahhbjnflimnaaGreat
open Go.RowKit

theorem prop_read_far (kind : Int) (s : ByteArray) (L : List Pr) (k F : Nat) (hk0 : -9223372036854775808 ≤ kind) (hk1 : kind ≤ 9223372036854775807) (hm : s.size ≤ 9223372036854775807) (hq : readP kind s.data.toList = (L, k, F)) (W : World) :
    Calls Tryz.prog 143 #[.int .i64 kind, .string s] W fun e W' => Below W.heap.size W W' ∧ ∃ A c, e = .returned (.tuple #[.slice A L.length c, .int .i64 (k : Nat), .int .i64 (F : Nat)]) ∧ L.length ≤ c ∧ PL W' A L ∧ (∀ p ∈ L, PrOk p) ∧ L.length ≤ 1000 ∧ ∀ g i, A = some ⟨g, i, none⟩ → W.heap.size ≤ g := by
  have := prop_read_any kind s W hk0 hk1 hm
  rw [hq] at this
  refine this.mono fun e W' ⟨hb, ok, hl, v, he, ho⟩ => ⟨hb, ?_⟩
  obtain ⟨A, c, rfl, hc, hP, hg⟩ := PL.owned ho rfl
  exact ⟨A, c, he, hc, hP, ok, hl, hg⟩
end Go.Proofs.YtaahhbjnflimnaaGreat
namespace Go.Proofs.YtaahhbjnflimnaaGreat
open Go.RowKit

/-- A cursor over s stands where x says. -/
def CsAt (W : World) (cb : Nat) (s : ByteArray) (x : Cs) : Prop := ∃ i, i ≤ s.size ∧ Cur W cb s i (x.e : Nat) ∧ s.data.toList.drop i = x.r
section
variable {w W W' : World} {cb : Nat} {s : ByteArray} {x : Cs}
theorem CsAt.lt (h : CsAt W cb s x) : cb < W.heap.size := by obtain ⟨i, _, hc, _⟩ := h; exact hc.lt
theorem CsAt.of_block (h : CsAt W cb s x) (hb : W'.heap[cb]? = W.heap[cb]?) : CsAt W' cb s x := by obtain ⟨i, hi, hc, hr⟩ := h; exact ⟨i, hi, hc.of_block hb, hr⟩
theorem CsAt.alloc (h : CsAt W cb s x) (o : Obj) : CsAt (W.alloc o) cb s x := h.of_block (heap_alloc_old _ _ h.lt)
theorem CsAt.below (h : CsAt W cb s x) (hb : Below W.heap.size W W') : CsAt W' cb s x := h.of_block (hb.block cb h.lt)
theorem CsAt.draws (h : CsAt W cb s x) (n : Nat) : CsAt (W.drewN n) cb s x := h
theorem CsAt.len (h : CsAt W cb s x) : x.r.length ≤ s.size := by
  obtain ⟨i, hi, _, hr⟩ := h
  rw [← hr, List.length_drop, ← size_list]; omega
theorem extract_take (s : ByteArray) (i n : Nat) : s.extract i (i + n) = bs ((s.data.toList.drop i).take n) := by
  apply ByteArray.ext
  apply Array.ext'
  simp [bs, List.extract_eq_take_drop]
theorem cs_take (n : Nat) (hm : s.size ≤ 9223372036854775807) (h : CsAt w cb s x) :
    Calls Tryz.prog 170 #[.pointer (some ⟨cb, 0, none⟩), .int .i64 n] w fun e w' => e = .returned (.string (bs (x.take n).1)) ∧ CsAt w' cb s (x.take n).2 ∧ w.grownBy w' (some cb) := by
  obtain ⟨i, hi, hc, hr⟩ := h
  have hl : x.r.length = s.size - i := by rw [← hr, List.length_drop, ← size_list]
  unfold Cs.take
  by_cases he : x.e = 0
  · rw [if_neg (by simpa using he)]
    rw [he] at hc
    by_cases hn : x.r.length < n
    · rw [if_pos hn]
      refine (take_past (n : Int) hc hi hm (by omega)).mono fun e w' ⟨h1, h2, h3⟩ => ⟨h1, ⟨i, hi, h2, hr⟩, h3⟩
    · rw [if_neg hn]
      refine (take_ok n hc (by omega) hm).mono fun e w' ⟨h1, h2, h3⟩ => ⟨?_, ⟨i + n, by omega, h2, ?_⟩, h3⟩
      · rw [h1, extract_take, hr]
      · rw [← hr, List.drop_drop]
  · rw [if_pos he]
    refine (take_err (n : Int) hc (by simp; omega)).mono fun e w' ⟨h1, h2⟩ => ⟨h1, h2 ▸ ⟨i, hi, hc, hr⟩, h2 ▸ World.grownBy.refl _ _⟩
theorem cs_num (n : Nat) (hn8 : n ≤ 8) (hm : s.size ≤ 9223372036854775807) (h : CsAt w cb s x) :
    Calls Tryz.prog 142 #[.pointer (some ⟨cb, 0, none⟩), .int .i64 n] w fun e w' => e = .returned (.int .u64 ((x.num n).1 : Nat)) ∧ CsAt w' cb s (x.num n).2 ∧ w.grownBy w' (some cb) := by
  obtain ⟨i, hi, hc, hr⟩ := h
  have hl : x.r.length = s.size - i := by rw [← hr, List.length_drop, ← size_list]
  unfold Cs.num Cs.take
  by_cases he : x.e = 0
  · rw [if_neg (by simpa using he)]
    rw [he] at hc
    by_cases hn : x.r.length < n
    · rw [if_pos hn]
      refine (number_past (n : Int) hc hi hm (by omega)).mono fun e w' ⟨h1, h2, h3⟩ => ⟨h1, ⟨i, hi, h2, hr⟩, h3⟩
    · rw [if_neg hn]
      refine (number_ok n hc (by omega) hm).mono fun e w' ⟨h1, h2, h3⟩ => ⟨?_, ⟨i + n, by omega, h2, ?_⟩, h3⟩
      · rw [h1, numOf_part s i n (by omega) hn8, hr]
      · rw [← hr, List.drop_drop]
  · rw [if_pos he]
    refine (number_err (n : Int) hc (by simp; omega)).mono fun e w' ⟨h1, h2⟩ => ⟨h1, h2 ▸ ⟨i, hi, hc, hr⟩, h2 ▸ World.grownBy.refl _ _⟩
theorem cs_left (hm : s.size ≤ 9223372036854775807) (h : CsAt w cb s x) :
    Calls Tryz.prog 53 #[.pointer (some ⟨cb, 0, none⟩)] w fun e w' => e = .returned (.int .i64 (x.r.length : Nat)) ∧ ∃ n, w' = w.drewN n := by
  obtain ⟨i, hi, hc, hr⟩ := h
  have hl : x.r.length = s.size - i := by rw [← hr, List.length_drop, ← size_list]
  rw [hl]
  exact left_yes hc hi hm
/-- What lies ahead: nothing behind an error. -/
def Cs.ahead (x : Cs) : List UInt8 := if x.e = 0 then x.r else []
theorem cs_peek (hm : s.size ≤ 9223372036854775807) (h : CsAt w cb s x) :
    Calls Tryz.prog 234 #[.pointer (some ⟨cb, 0, none⟩), .int .i64 (x.r.length : Nat)] w fun e w' => e = .returned (.string (bs x.ahead)) ∧ ∃ n, w' = w.drewN n := by
  obtain ⟨i, hi, hc, hr⟩ := h
  have hl : x.r.length = s.size - i := by rw [← hr, List.length_drop, ← size_list]
  unfold Cs.ahead
  by_cases he : x.e = 0
  · rw [if_pos he]
    rw [he] at hc
    refine (peek_ok x.r.length hc (by omega) hm).mono fun e w' ⟨h1, h2⟩ => ⟨?_, h2⟩
    rw [h1, extract_take, hr, List.take_length]
  · rw [if_neg he]
    exact (peek_err (x.r.length : Int) hc (by simp; omega)).mono fun e w' ⟨h1, h2⟩ => ⟨h1, h2⟩
theorem cs_fail (f : Nat) (h : CsAt w cb s x) :
    Calls Tryz.prog 116 #[.pointer (some ⟨cb, 0, none⟩), .int .i64 (f : Nat)] w fun e w' => e = .returned (.tuple #[]) ∧ CsAt w' cb s (x.fail f) ∧ w.grownBy w' (some cb) := by
  obtain ⟨i, hi, hc, hr⟩ := h
  unfold Cs.fail
  by_cases he : x.e = 0
  · rw [if_neg (by simpa using he)]
    rw [he] at hc
    exact (fail_yes (f : Int) hc).mono fun e w' ⟨h1, h2, h3⟩ => ⟨h1, ⟨i, hi, h2, hr⟩, h3⟩
  · rw [if_pos he]
    exact (fail_no (f : Int) hc (by simp; omega)).mono fun e w' ⟨h1, h2⟩ => ⟨h1, h2 ▸ ⟨i, hi, hc, hr⟩, h2 ▸ World.grownBy.refl _ _⟩
theorem cs_err (h : CsAt w cb s x) :
    Calls Tryz.prog 54 #[.pointer (some ⟨cb, 0, none⟩)] w fun e w' => e = .returned (.int .i64 (x.e : Nat)) ∧ w = w' := by
  obtain ⟨i, hi, hc, hr⟩ := h
  exact err_yes hc
end
end Go.Proofs.YtaahhbjnflimnaaGreat
namespace Go.Proofs.YtaahhbjnflimnaaGreat


theorem check_ok {kind : Int} {p : Pr} (h : checkP kind p = 0) : PrOk p ∧ p.text.length ≤ 65535 ∧ p.value.length ≤ 65535 := by
  obtain ⟨hm, h4, h5⟩ := check_parts h
  obtain ⟨_, h1, h2, _⟩ := size_one h
  obtain ⟨r1, r2⟩ := may_range hm
  obtain ⟨f0, f7, f1, f2, f3, f4, _⟩ := row_fits hm
  have hn : p.n < 4294967296 := by
    by_cases hs : shapeP p.id ≤ 4
    · have h6 := (h4 hs).2.2.2
      have hs4 : shapeP p.id = 1 ∨ shapeP p.id = 2 ∨ shapeP p.id = 3 ∨ shapeP p.id = 4 := by omega
      rcases hs4 with e | e | e | e
      · have := f1 e; omega
      · have := f2 e; omega
      · have := f3 e; omega
      · have := f4 e; omega
    · have := (h5 (by omega)).1; omega
  exact ⟨⟨by omega, by omega, hn, by omega, by omega⟩, h1, h2⟩
theorem read_ok (kind : Int) (s : List UInt8) : (∀ p ∈ (readP kind s).1, PrOk p ∧ p.text.length ≤ 65535 ∧ p.value.length ≤ 65535) ∧ (readP kind s).1.length ≤ 1000 := by
  by_cases h : (readP kind s).2.2 = 0
  · have hv := (read_back (show readP kind s = ((readP kind s).1, (readP kind s).2.1, 0) by rw [← h])).1
    obtain ⟨h1, h2, _⟩ := (valid_good _ _).1 hv
    exact ⟨fun p hp => check_ok (h2.1 p hp), h1⟩
  · rw [read_err h]
    exact ⟨fun p hp => (nomatch hp), Nat.zero_le _⟩
theorem props_fit (x : Cs) (v kind : Int) : (∀ p ∈ (x.props v kind).1, PrOk p ∧ p.text.length ≤ 65535 ∧ p.value.length ≤ 65535) ∧ (x.props v kind).1.length ≤ 1000 := by
  unfold Cs.props
  split
  · exact ⟨fun p hp => (nomatch hp), Nat.zero_le _⟩
  · exact read_ok _ _
end Go.Proofs.YtaahhbjnflimnaaGreat
