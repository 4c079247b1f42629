/-
  The contracts of topic.Name, Filter and Dollar, and of what they call. Condition: a string no longer than an int says.
-/
import Derived.Test.YthgilnmfbhmgiaaDoorTopWd
import Derived.Test.YthgilnmfbhmgiaaDoorTopLev
import Derived.Test.YthgilnmfbhmgiaaDoorTopFacts
import Derived.Test.YthgilnmfbhmgiaaDoorUsBad
namespace Go.Proofs.YthgilnmfbhmgiaaDoor
open Go.RowKit Go.Shelf

def textL (s : List UInt8) : Bool := decide (s ≠ []) && validOf s
theorem textL_le {s : ByteArray} (h : textL s.data.toList = true) : s.size ≤ 65535 := by
  unfold textL at h
  simp only [Bool.and_eq_true] at h
  have := ((validOf_iff _).1 h.2).1
  rw [Lib.size_eq]; exact this
theorem text_valid (s : ByteArray) (w : World) (hs : s.size ≤ 9223372036854775807) :
    Calls Tryd.prog 21 #[.string s] w fun e w' => e = .returned (.bool (textL s.data.toList)) ∧ Below w.heap.size w w' := by
  have hv := Lib.hid (valid_any s w hs)
  by_cases h0 : s.data.toList = []
  · have e1 : (s.toList == []) = true := by rw [toList_data, h0]; rfl
    have hemp : s.toList.isEmpty = true := by rw [toList_data, h0]; rfl
    rw [h0]
    go_enter Tryd.func21, Tryd.ntmps21
    go_wp2_with fail
    go_ret
    exact ⟨rfl, Below.refl _ _⟩
  · have hemp : s.toList.isEmpty = false := by rw [toList_data, List.isEmpty_eq_false_iff]; exact h0
    have hd : textL s.data.toList = validOf s.data.toList := by unfold textL; rw [decide_eq_true h0, Bool.true_and]
    rw [hd]
    clear hd
    generalize validOf s.data.toList = b at *
    go_enter Tryd.func21, Tryd.ntmps21
    go_wp2_with fail
    refine (hv.out).mono ?_
    rintro e w' ⟨rfl, hb⟩
    go_wp2_with fail
    go_ret
    exact ⟨rfl, hb⟩

theorem nameL_eq (s : List UInt8) : nameL s = (textL s && !wild s) := by
  unfold nameL textL wild
  cases decide (s ≠ []) <;> cases validOf s <;> simp [Bool.and_assoc]
theorem name_any (s : ByteArray) (w : World) (hs : s.size ≤ 9223372036854775807) :
    Calls Tryd.prog 9 #[.string s] w fun e w' => e = .returned (.bool (nameL s.data.toList)) ∧ Below w.heap.size w w' := by
  have ht := text_valid s w hs
  have hn := nameL_eq s.data.toList
  cases hx : textL s.data.toList with
  | false =>
    rw [hx] at ht hn
    rw [Bool.false_and] at hn
    rw [hn]
    have ht := Lib.hid ht
    clear hn hx
    go_enter Tryd.func9, Tryd.ntmps9
    go_wp2_with fail
    refine (ht.out).mono ?_
    rintro e w' ⟨rfl, hb⟩
    go_wp2_with fail
    go_ret
    exact ⟨rfl, hb⟩
  | true =>
    have hle := textL_le hx
    have hw := Lib.hid (fun W => wild_any s W (by omega))
    rw [hx] at ht hn
    rw [Bool.true_and] at hn
    rw [hn]
    have ht := Lib.hid ht
    clear hn hx hle
    generalize wild s.data.toList = b at *
    go_enter Tryd.func9, Tryd.ntmps9
    go_wp2_with fail
    refine (ht.out).mono ?_
    rintro e w' ⟨rfl, hb⟩
    go_wp2_with fail
    refine (hw.out _).mono ?_
    rintro e w' ⟨rfl, hb2⟩
    go_wp2_with fail
    go_ret
    exact ⟨rfl, hb.trans (hb2.mono hb.size)⟩

/-! ### A filter's levels -/
theorem okl_eq (l : List UInt8) (ls : List (List UInt8)) : okl (l :: ls) ↔ ((43 : UInt8) ∈ l → l = [43]) ∧ ((35 : UInt8) ∈ l → l = [35] ∧ ls = []) ∧ okl ls := Iff.rfl
theorem okl_cons (l : List UInt8) (ls : List (List UInt8)) : okl (l :: ls) ↔ (wild l = true → l = [43] ∨ (l = [35] ∧ ls = [])) ∧ okl ls := by
  rw [okl_eq]
  unfold wild
  simp only [decide_eq_true_eq]
  constructor
  · rintro ⟨h1, h2, h3⟩
    exact ⟨fun h => h.elim (fun x => .inl (h1 x)) (fun x => .inr (h2 x)), h3⟩
  · rintro ⟨h1, h3⟩
    refine ⟨fun x => ?_, fun x => ?_, h3⟩
    · rcases h1 (.inl x) with h | ⟨h, _⟩
      · exact h
      · subst h; simp at x
    · rcases h1 (.inr x) with h | h
      · subst h; simp at x
      · exact h
theorem str_eq (l : List UInt8) (c : List UInt8) : ((bs l).toList == c) = decide (l = c) := by
  rw [bs_toList, Bool.eq_iff_iff]; simp

set_option maxHeartbeats 1000000 in
theorem apart_any (A : Option Addr) (n c : Nat) (ls : List (List UInt8)) (w : World) (h : SR w A ls) (hn : n = ls.length) (hne : ls ≠ []) (hc : n ≤ c) (hN : n ≤ 70000) (hl : ∀ l ∈ ls, l.length ≤ 70000) :
    Calls Tryd.prog 23 #[.slice A n c] w fun e w' => e = .returned (.bool (decide (okl ls))) ∧ Below w.heap.size w w' := by
  obtain ⟨g, i, rfl, hg, hcell⟩ := h hne
  have hn1 : (1 : Int) ≤ (n : Int) := by have := List.length_pos_iff.2 hne; omega
  have hn2 : (n : Int) ≤ 70000 := by omega
  have HC := Lib.hid hcell
  obtain ⟨B, hB⟩ : ∃ B, decide (okl ls) = B := ⟨_, rfl⟩
  rw [hB]
  have HB := Lib.hid hB
  clear hcell h hne hB
  have HN := Lib.hid hn
  clear hn hN
  go_enter Tryd.func23, Tryd.ntmps23
  go_wp2_with fail
  go_loopg [12] n (fun gk s12 wx => ∃ k : Nat, k ≤ n ∧ gk = n - k ∧ s12 = .int .i64 (k : Int) ∧ decide (okl (ls.drop k)) = B ∧ Below w.heap.size w wx)
  case atStart => exact ⟨0, by omega, by omega, rfl, HB.out, Below.refl _ _⟩
  case round =>
    obtain ⟨k, hk, hgk, rfl, hB, hb⟩ := hrel
    have HBK := Lib.hid hb
    by_cases hlt : k < n
    · have hkl : k < ls.length := by rw [← HN.out]; exact hlt
      have hdr : ls.drop k = ls.getD k [] :: ls.drop (k + 1) := by
        rw [List.drop_eq_getElem_cons hkl, List.getD_eq_getElem?_getD, List.getElem?_eq_getElem hkl]; rfl
      have hll : (ls.getD k []).length ≤ 70000 := hl _ (by rw [List.getD_eq_getElem?_getD, List.getElem?_eq_getElem hkl]; exact List.getElem_mem hkl)
      have hcell : wr.cell? ⟨g, i + k, none⟩ = some (.string (bs (ls.getD k []))) := (hb.cell (p := ⟨g, i + k, none⟩) hg).trans (HC.out k hkl)
      have hlast : ls.drop (k + 1) = [] ↔ (k : Int) = (n : Int) - 1 := by
        rw [List.drop_eq_nil_iff, ← HN.out]; omega
      rw [hdr] at hB
      have hoc := okl_cons (ls.getD k []) (ls.drop (k + 1))
      rw [hlast] at hoc
      have hE := fun c => str_eq (ls.getD k []) c
      have hW := fun W => wild_any (bs (ls.getD k [])) W (by rw [bs_size]; omega)
      rw [bs_data] at hW
      generalize ls.getD k [] = l at *
      have NEXT : decide (okl (ls.drop (k + 1))) = decide (okl (ls.drop (k + 1))) := rfl
      obtain ⟨D, hD⟩ : ∃ D, ls.drop (k + 1) = D := ⟨_, rfl⟩
      rw [hD] at hB hoc
      have HD := Lib.hid hD
      clear hD hdr hkl hll hlast NEXT hb
      have hW := Lib.hid hW
      have g1 : (k : Int) < (n : Int) := by omega
      by_cases h43 : l = [43]
      · have e1 := hE [43]
        rw [decide_eq_true h43] at e1
        have w1 : wild l = true := by rw [h43]; rfl
        rw [w1] at hW
        have B2 := Lib.hid (show decide (okl D) = B by rw [← hB, decide_eq_decide, hoc]; simp [h43])
        clear hE h43 w1 hoc hB
        go_wp2_with fail
        refine (hW.out _).mono ?_
        rintro e w' ⟨rfl, hb2⟩
        have HB2 := Lib.hid (HBK.out.trans (hb2.mono HBK.out.size))
        clear hb2
        go_wp2_with fail
        go_roundg (n - (k + 1))
        case measure => omega
        case rel => exact ⟨k + 1, by omega, rfl, by go_num, by rw [HD.out]; exact B2.out, HB2.out⟩
      · have e1 := hE [43]
        rw [decide_eq_false h43] at e1
        by_cases h35 : l = [35]
        · have e2 := hE [35]
          rw [decide_eq_true h35] at e2
          have w1 : wild l = true := by rw [h35]; rfl
          rw [w1] at hW
          by_cases hkn : (k : Int) = (n : Int) - 1
          · have B2 := Lib.hid (show decide (okl D) = B by rw [← hB, decide_eq_decide, hoc]; simp [h35, hkn])
            have e3 : ((k : Int) == (n : Int) - 1) = true := by simp [hkn]
            clear hE h43 h35 w1 hoc hB hkn
            go_wp2_with fail
            refine (hW.out _).mono ?_
            rintro e w' ⟨rfl, hb2⟩
            have HB2 := Lib.hid (HBK.out.trans (hb2.mono HBK.out.size))
            clear hb2
            go_wp2_with fail
            go_roundg (n - (k + 1))
            case measure => omega
            case rel => exact ⟨k + 1, by omega, rfl, by go_num, by rw [HD.out]; exact B2.out, HB2.out⟩
          · have B2 := Lib.hid (show false = B by rw [← hB, eq_comm, decide_eq_false_iff_not, hoc]; simp [h35, hkn, w1, wild])
            have e3 : ((k : Int) == (n : Int) - 1) = false := by simp [hkn]
            clear hE h43 h35 w1 hoc hB hkn
            go_wp2_with fail
            refine (hW.out _).mono ?_
            rintro e w' ⟨rfl, hb2⟩
            have HB2 := Lib.hid (HBK.out.trans (hb2.mono HBK.out.size))
            clear hb2
            go_wp2_with fail
            go_ret
            exact ⟨by rw [← B2.out]; rfl, HB2.out⟩
        · have e2 := hE [35]
          rw [decide_eq_false h35] at e2
          cases hwl : wild l with
          | true =>
            have B2 := Lib.hid (show false = B by rw [← hB, eq_comm, decide_eq_false_iff_not, hoc]; simp [h35, h43, hwl])
            rw [hwl] at hW
            clear hE h43 h35 hoc hB hwl
            go_wp2_with fail
            refine (hW.out _).mono ?_
            rintro e w' ⟨rfl, hb2⟩
            have HB2 := Lib.hid (HBK.out.trans (hb2.mono HBK.out.size))
            clear hb2
            go_wp2_with fail
            go_ret
            exact ⟨by rw [← B2.out]; rfl, HB2.out⟩
          | false =>
            have B2 := Lib.hid (show decide (okl D) = B by rw [← hB, decide_eq_decide, hoc]; simp [hwl])
            rw [hwl] at hW
            clear hE h43 h35 hoc hB hwl
            go_wp2_with fail
            refine (hW.out _).mono ?_
            rintro e w' ⟨rfl, hb2⟩
            have HB2 := Lib.hid (HBK.out.trans (hb2.mono HBK.out.size))
            clear hb2
            go_wp2_with fail
            go_roundg (n - (k + 1))
            case measure => omega
            case rel => exact ⟨k + 1, by omega, rfl, by go_num, by rw [HD.out]; exact B2.out, HB2.out⟩
    · have hkn : k = n := by omega
      subst hkn
      have hD : ls.drop k = [] := List.drop_eq_nil_of_le (by rw [← HN.out]; exact Nat.le_refl _)
      rw [hD] at hB
      have B2 := Lib.hid (show true = B from hB)
      clear hB hD hb
      go_wp2_with fail
      go_ret
      exact ⟨by rw [← B2.out]; rfl, HBK.out⟩

theorem joins_mem {l : List UInt8} : ∀ {ls : List (List UInt8)}, l ∈ ls → l.length ≤ (joins ls).length
  | [], h => by simp at h
  | [m], h => by simp at h; subst h; exact Nat.le_refl _
  | m :: k :: ls, h => by
    rw [joins_cons m (by simp), List.length_append, List.length_cons]
    rcases List.mem_cons.1 h with rfl | h
    · omega
    · have := joins_mem h; omega
theorem lvls_le (s : List UInt8) : (lvls s).length ≤ s.length + 1 := by
  rw [lvls_length]; have := List.count_le_length (a := (47 : UInt8)) (l := s); omega
theorem level_le {s l : List UInt8} (h : l ∈ lvls s) : l.length ≤ s.length := by
  have := joins_mem h; rwa [joins_lvls] at this
theorem filterL_eq (s : List UInt8) : filterL s = (textL s && decide (okl (lvls s))) := by
  unfold filterL textL; rw [Bool.and_assoc]
theorem filter_any (s : ByteArray) (w : World) (hs : s.size ≤ 9223372036854775807) :
    Calls Tryd.prog 10 #[.string s] w fun e w' => e = .returned (.bool (filterL s.data.toList)) ∧ Below w.heap.size w w' := by
  have ht := text_valid s w hs
  have hn := filterL_eq s.data.toList
  cases hx : textL s.data.toList with
  | false =>
    rw [hx] at ht hn
    rw [Bool.false_and] at hn
    rw [hn]
    have ht := Lib.hid ht
    clear hn hx
    go_enter Tryd.func10, Tryd.ntmps10
    go_wp2_with fail
    refine (ht.out).mono ?_
    rintro e w' ⟨rfl, hb⟩
    go_wp2_with fail
    go_ret
    exact ⟨rfl, hb⟩
  | true =>
    have hle := textL_le hx
    have hll := lvls_le s.data.toList
    rw [← Lib.size_eq] at hll
    have hL := Lib.hid (fun W => levels_any s W (by omega))
    have hA := Lib.hid (fun (W : World) => apart_any (some ⟨W.heap.size, 0, none⟩) (lvls s.data.toList).length (lvls s.data.toList).length (lvls s.data.toList) (W.alloc (.cells (strs (lvls s.data.toList)).toArray 9)) (SR.alloc _) rfl (lvls_ne _) (Nat.le_refl _) (by omega) (fun l hl => by
      have := level_le hl
      rw [← Lib.size_eq] at this; omega))
    rw [hx] at ht hn
    rw [Bool.true_and] at hn
    rw [hn]
    have ht := Lib.hid ht
    clear hn hx hle hll
    generalize decide (okl (lvls s.data.toList)) = b at *
    go_enter Tryd.func10, Tryd.ntmps10
    go_wp2_with fail
    refine (ht.out).mono ?_
    rintro e w' ⟨rfl, hb⟩
    go_wp2_with fail
    refine (hL.out _).mono ?_
    rintro e w2 ⟨rfl, rfl⟩
    go_wp2_with fail
    refine (hA.out w').mono ?_
    rintro e w2 ⟨rfl, hb2⟩
    go_wp2_with fail
    go_ret
    exact ⟨rfl, hb.trans ((((Below.refl _ w').alloc (Nat.le_refl _) _).trans (hb2.mono (by simp))).mono hb.size)⟩
end Go.Proofs.YthgilnmfbhmgiaaDoor
