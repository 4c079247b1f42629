/-
  Plain facts on valid strings, and Valid and Bad of a string whose answer is known. No condition but on lengths.
-/
import Derived.Test.YtgdaojihpjfjiaaUsBad
namespace Go.Proofs.Ytgdaojihpjfjiaa
open Go.RowKit

theorem fin_cbs {cs : List Nat} (h : oks cs) : fin (cbs cs) = (cbs cs).length := by unfold fin; rw [pts_cbs h]
theorem bad_cbs {cs : List Nat} (h : oks cs) : badOf (cbs cs) = -1 := by
  unfold badOf
  rw [fin_cbs h, if_neg (Nat.lt_irrefl _)]
theorem valid_cbs {cs : List Nat} (h : oks cs) (hl : (cbs cs).length ≤ 65535) : validOf (cbs cs) = true := (validOf_iff _).2 ⟨hl, fin_cbs h⟩
theorem bad_stop {cs : List Nat} {r : List UInt8} (h : oks cs) (hr : hd r = none) (hne : r ≠ []) : badOf (cbs cs ++ r) = ((cbs cs).length : Int) := by
  have hf : fin (cbs cs ++ r) = (cbs cs).length := by
    rw [fin_append h]; unfold fin; rw [pts_none hr, cbs_nil]; rfl
  have hl : 0 < r.length := List.length_pos_iff.2 hne
  unfold badOf
  rw [hf, if_pos (by rw [List.length_append]; omega)]
theorem valid_stop {cs : List Nat} {r : List UInt8} (h : oks cs) (hr : hd r = none) (hne : r ≠ []) : validOf (cbs cs ++ r) = false := by
  unfold validOf
  rw [bad_stop h hr hne]
  simp
instance (c : Nat) : Decidable (okc c) := by unfold okc; infer_instance
theorem oks_of (cs : List Nat) (h : cs.all (fun c => decide (okc c)) = true) : oks cs := fun c hc => of_decide_eq_true (List.all_eq_true.1 h c hc)

theorem append_list (a b : ByteArray) : (a ++ b).data.toList = a.data.toList ++ b.data.toList := by simp
theorem fin_join {a : List UInt8} (b : List UInt8) (ha : validOf a = true) : fin (a ++ b) = a.length + fin b := by
  have h := validOf_cbs a ha
  have ho := pts_oks a
  generalize pts a = cs at h ho
  subst h
  exact fin_append ho b
theorem pts_join {a : List UInt8} (b : List UInt8) (ha : validOf a = true) : pts (a ++ b) = pts a ++ pts b := by
  have h := validOf_cbs a ha
  have ho := pts_oks a
  generalize pts a = cs at h ho
  subst h
  exact pts_append ho b
theorem valid_join {a b : List UInt8} (ha : validOf a = true) (hb : validOf b = true) (hl : (a ++ b).length ≤ 65535) : validOf (a ++ b) = true := by
  have h2 := ((validOf_iff b).1 hb).2
  exact (validOf_iff _).2 ⟨hl, by rw [fin_join b ha, h2, List.length_append]⟩
theorem bad_join {a b : List UInt8} (ha : validOf a = true) (hb : validOf b = false) (hl : b.length ≤ 65535) :
    validOf (a ++ b) = false ∧ 0 ≤ badOf b ∧ badOf (a ++ b) = (a.length : Int) + badOf b := by
  have hle := fin_le b
  have hne : fin b < b.length := by
    rcases Nat.lt_or_ge (fin b) b.length with h | h
    · exact h
    · rw [(validOf_iff b).2 ⟨hl, by omega⟩] at hb; cases hb
  refine ⟨?_, ?_, ?_⟩
  · rw [Bool.eq_false_iff]
    intro h
    have := ((validOf_iff _).1 h).2
    rw [fin_join b ha, List.length_append] at this
    omega
  · unfold badOf; rw [if_pos hne]; omega
  · unfold badOf
    rw [fin_join b ha, if_pos (by rw [List.length_append]; omega), if_pos hne]
    omega

/-- Valid, of a string whose answer is known. -/
theorem valid_is (s : ByteArray) (v : Bool) (hs : s.size ≤ 9223372036854775807) (hv : validOf s.data.toList = v) :
    RowKit.Hid (∀ W, Calls Try.prog 63 #[.string s] W fun e w' => e = .returned (.bool v) ∧ Below W.heap.size W w') :=
  Lib.hid fun W => by have := valid_any s W hs; rwa [hv] at this
theorem bad_is (s : ByteArray) (z : Int) (hs : s.size ≤ 9223372036854775807) (hz : badOf s.data.toList = z) :
    RowKit.Hid (∀ W, Calls Try.prog 83 #[.string s] W fun e w' => e = .returned (.int .i64 z) ∧ Below W.heap.size W w') :=
  Lib.hid fun W => by have := bad_any s W hs; rwa [hz] at this
theorem below_then {w a b : World} (h : Below w.heap.size w a) (k : Below a.heap.size a b) : Below w.heap.size w b := h.trans (k.mono h.size)
end Go.Proofs.Ytgdaojihpjfjiaa
