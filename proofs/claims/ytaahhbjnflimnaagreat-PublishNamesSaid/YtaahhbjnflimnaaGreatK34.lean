/-
  The contract of topic.Name, and of what it calls. Condition: a string no longer than an int says.
-/
import Derived.Test.YtaahhbjnflimnaaGreatK32
import Derived.Test.YtaahhbjnflimnaaGreatK15
import Derived.Test.YtaahhbjnflimnaaGreatK07
import Derived.Test.YtaahhbjnflimnaaGreatK33
namespace Go.Proofs.YtaahhbjnflimnaaGreat
open Go.RowKit Go.Shelf

def textL (s : List UInt8) : Bool := decide (s ≠ []) && validOf s
theorem textL_le {s : ByteArray} (h : textL s.data.toList = true) : s.size ≤ 65535 := by
  unfold textL at h
  simp only [Bool.and_eq_true] at h
  have := ((validOf_iff _).1 h.2).1
  rw [Lib.size_eq]; exact this
theorem text_valid (s : ByteArray) (w : World) (hs : s.size ≤ 9223372036854775807) :
    Calls Tryz.prog 129 #[.string s] w fun e w' => e = .returned (.bool (textL s.data.toList)) ∧ Below w.heap.size w w' := by
  have hv := Lib.hid (valid_any s w hs)
  by_cases h0 : s.data.toList = []
  · have e1 : (s.toList == []) = true := by rw [toList_data, h0]; rfl
    have hemp : s.toList.isEmpty = true := by rw [toList_data, h0]; rfl
    rw [h0]
    go_enter Tryz.func129, Tryz.ntmps129
    go_wp2_with fail
    go_ret
    exact ⟨rfl, Below.refl _ _⟩
  · have hemp : s.toList.isEmpty = false := by rw [toList_data, List.isEmpty_eq_false_iff]; exact h0
    have hd : textL s.data.toList = validOf s.data.toList := by unfold textL; rw [decide_eq_true h0, Bool.true_and]
    rw [hd]
    clear hd
    generalize validOf s.data.toList = b at *
    go_enter Tryz.func129, Tryz.ntmps129
    go_wp2_with fail
    refine (hv.out).mono ?_
    rintro e w' ⟨rfl, hb⟩
    go_wp2_with fail
    go_ret
    exact ⟨rfl, hb⟩

theorem nameL_eq (s : List UInt8) : nameL s = (textL s && !wild s) := by
  unfold nameL textL wild
  cases decide (s ≠ []) <;> cases validOf s <;> simp
theorem name_any (s : ByteArray) (w : World) (hs : s.size ≤ 9223372036854775807) :
    Calls Tryz.prog 68 #[.string s] w fun e w' => e = .returned (.bool (nameL s.data.toList)) ∧ Below w.heap.size w w' := by
  have ht := text_valid s w hs
  have hn := nameL_eq s.data.toList
  cases hx : textL s.data.toList with
  | false =>
    rw [hx] at ht hn
    rw [Bool.false_and] at hn
    rw [hn]
    have ht := Lib.hid ht
    clear hn hx
    go_enter Tryz.func68, Tryz.ntmps68
    go_wp2_with fail
    refine (ht.out).mono ?_
    rintro e w' ⟨rfl, hb⟩
    go_wp2_with fail
    go_ret
    exact ⟨rfl, hb⟩
  | true =>
    have hle := textL_le hx
    have hw := Lib.hid (fun W => wild_any s W (by omega))
    rw [hx] at ht hn
    rw [Bool.true_and] at hn
    rw [hn]
    have ht := Lib.hid ht
    clear hn hx hle
    generalize wild s.data.toList = b at *
    go_enter Tryz.func68, Tryz.ntmps68
    go_wp2_with fail
    refine (ht.out).mono ?_
    rintro e w' ⟨rfl, hb⟩
    go_wp2_with fail
    refine (hw.out _).mono ?_
    rintro e w' ⟨rfl, hb2⟩
    go_wp2_with fail
    go_ret
    exact ⟨rfl, hb.trans (hb2.mono hb.size)⟩
end Go.Proofs.YtaahhbjnflimnaaGreat
