/-
  Plain facts on valid strings, and the contract of what layer 3's laws share: the chapter's examples. No condition.
-/
import Derived.Test.YtohbhmffgaijgaaUsEnc
namespace Go.Proofs.Ytohbhmffgaijgaa
open Go.RowKit

theorem fin_cbs {cs : List Nat} (h : oks cs) : fin (cbs cs) = (cbs cs).length := by unfold fin; rw [pts_cbs h]
theorem bad_cbs {cs : List Nat} (h : oks cs) : badOf (cbs cs) = -1 := by
  unfold badOf
  rw [fin_cbs h, if_neg (Nat.lt_irrefl _)]
theorem valid_cbs {cs : List Nat} (h : oks cs) (hl : (cbs cs).length ≤ 65535) : validOf (cbs cs) = true := (validOf_iff _).2 ⟨hl, fin_cbs h⟩
theorem bad_stop {cs : List Nat} {r : List UInt8} (h : oks cs) (hr : hd r = none) (hne : r ≠ []) : badOf (cbs cs ++ r) = ((cbs cs).length : Int) := by
  have hf : fin (cbs cs ++ r) = (cbs cs).length := by
    rw [fin_append h]; unfold fin; rw [pts_none hr, cbs_nil]; rfl
  have hl : 0 < r.length := List.length_pos_iff.2 hne
  unfold badOf
  rw [hf, if_pos (by rw [List.length_append]; omega)]
theorem valid_stop {cs : List Nat} {r : List UInt8} (h : oks cs) (hr : hd r = none) (hne : r ≠ []) : validOf (cbs cs ++ r) = false := by
  unfold validOf
  rw [bad_stop h hr hne]
  simp
instance (c : Nat) : Decidable (okc c) := by unfold okc; infer_instance
theorem oks_of (cs : List Nat) (h : cs.all (fun c => decide (okc c)) = true) : oks cs := fun c hc => of_decide_eq_true (List.all_eq_true.1 h c hc)

theorem text_at (s t : List UInt8) (W : World) (hv : validOf s = true) (ht : enc2 s = t) :
    Calls Try.prog 12 #[.string (bs s)] W fun e w' => e = .returned (.tuple #[.string (bs t), .int .i64 0]) ∧ Below W.heap.size W w' := by
  subst ht; exact text_yes (bs s) W hv
theorem text_bad (s : List UInt8) (W : World) (hs : s.length ≤ 9223372036854775807) (hv : validOf s = false) :
    Calls Try.prog 12 #[.string (bs s)] W fun e w' => e = .returned (.tuple #[.string ⟨#[]⟩, .int .i64 6]) ∧ Below W.heap.size W w' :=
  text_no (bs s) W (by rw [size_list]; exact hs) hv

theorem lives3 (w : World) :
    Calls Try.prog 8 #[] w fun e w' => e = .returned (.bool true) ∧ Below w.heap.size w w' := by
  have B1 := Lib.hid (show ∀ W, Calls Try.prog 12 #[.string ⟨#[65]⟩] W fun e w' => e = .returned (.tuple #[.string ⟨#[0, 1, 65]⟩, .int .i64 0]) ∧ Below W.heap.size W w' from
    fun W => text_at [65] [0, 1, 65] W (valid_cbs (cs := [65]) (oks_of _ (by decide)) (by decide)) (by decide))
  have B2 := Lib.hid (show ∀ W, Calls Try.prog 12 #[.string ⟨#[192, 128]⟩] W fun e w' => e = .returned (.tuple #[.string ⟨#[]⟩, .int .i64 6]) ∧ Below W.heap.size W w' from
    fun W => text_bad [192, 128] W (by decide) (valid_stop (cs := []) (r := [192, 128]) (oks_of _ (by decide)) (by decide) (by decide)))
  go_enter Try.func8, Try.ntmps8
  go_wp2_with fail
  refine (B1.out _).mono ?_
  rintro e w1 ⟨rfl, hb1⟩
  go_wp2_with fail
  refine (B2.out _).mono ?_
  rintro e w2 ⟨rfl, hb2⟩
  go_wp2_with fail
  go_ret
  exact ⟨rfl, hb1.trans (hb2.mono hb1.size)⟩

theorem append_list (a b : ByteArray) : (a ++ b).data.toList = a.data.toList ++ b.data.toList := by simp
theorem fin_join {a : List UInt8} (b : List UInt8) (ha : validOf a = true) : fin (a ++ b) = a.length + fin b := by
  have h := validOf_cbs a ha
  have ho := pts_oks a
  generalize pts a = cs at h ho
  subst h
  exact fin_append ho b
theorem pts_join {a : List UInt8} (b : List UInt8) (ha : validOf a = true) : pts (a ++ b) = pts a ++ pts b := by
  have h := validOf_cbs a ha
  have ho := pts_oks a
  generalize pts a = cs at h ho
  subst h
  exact pts_append ho b
theorem valid_join {a b : List UInt8} (ha : validOf a = true) (hb : validOf b = true) (hl : (a ++ b).length ≤ 65535) : validOf (a ++ b) = true := by
  have h2 := ((validOf_iff b).1 hb).2
  exact (validOf_iff _).2 ⟨hl, by rw [fin_join b ha, h2, List.length_append]⟩
theorem bad_join {a b : List UInt8} (ha : validOf a = true) (hb : validOf b = false) (hl : b.length ≤ 65535) :
    validOf (a ++ b) = false ∧ 0 ≤ badOf b ∧ badOf (a ++ b) = (a.length : Int) + badOf b := by
  have hle := fin_le b
  have hne : fin b < b.length := by
    rcases Nat.lt_or_ge (fin b) b.length with h | h
    · exact h
    · rw [(validOf_iff b).2 ⟨hl, by omega⟩] at hb; cases hb
  refine ⟨?_, ?_, ?_⟩
  · rw [Bool.eq_false_iff]
    intro h
    have := ((validOf_iff _).1 h).2
    rw [fin_join b ha, List.length_append] at this
    omega
  · unfold badOf; rw [if_pos hne]; omega
  · unfold badOf
    rw [fin_join b ha, if_pos (by rw [List.length_append]; omega), if_pos hne]
    omega

/-- Valid, of a string whose answer is known. -/
theorem valid_is (s : ByteArray) (v : Bool) (hs : s.size ≤ 9223372036854775807) (hv : validOf s.data.toList = v) :
    RowKit.Hid (∀ W, Calls Try.prog 9 #[.string s] W fun e w' => e = .returned (.bool v) ∧ Below W.heap.size W w') :=
  Lib.hid fun W => by have := valid_any s W hs; rwa [hv] at this
theorem count_is (s : ByteArray) (n : Nat) (hs : s.size ≤ 9223372036854775807) (hv : validOf s.data.toList = true) (hn : (pts s.data.toList).length = n) :
    RowKit.Hid (∀ W, Calls Try.prog 10 #[.string s] W fun e w' => e = .returned (.int .i64 (n : Int)) ∧ Below W.heap.size W w') :=
  Lib.hid fun W => by have := count_yes s W hs hv; rwa [hn] at this
theorem bad_is (s : ByteArray) (z : Int) (hs : s.size ≤ 9223372036854775807) (hz : badOf s.data.toList = z) :
    RowKit.Hid (∀ W, Calls Try.prog 17 #[.string s] W fun e w' => e = .returned (.int .i64 z) ∧ Below W.heap.size W w') :=
  Lib.hid fun W => by have := bad_any s W hs; rwa [hz] at this
theorem below_then {w a b : World} (h : Below w.heap.size w a) (k : Below a.heap.size a b) : Below w.heap.size w b := h.trans (k.mono h.size)
end Go.Proofs.Ytohbhmffgaijgaa
