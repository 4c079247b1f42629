/-
  The contract of topic.Shared. Condition: a string shorter than 4,000,000,000 bytes.
-/
import Derived.Test.YthgilnmfbhmgiaaDoorTopCall
import Derived.Test.YthgilnmfbhmgiaaDoorTopShare
namespace Go.Proofs.YthgilnmfbhmgiaaDoor
open Go.RowKit Go.Shelf

theorem shared_cut {g f : List UInt8} (hg : (47 : UInt8) ∉ g) : sharedL (share ++ 47 :: (g ++ 47 :: f)) = if validOf (share ++ 47 :: (g ++ 47 :: f)) = true ∧ g ≠ [] ∧ wild g = false ∧ filterL f = true then (g, f, true) else ([], [], false) := by
  have e : lvls (share ++ 47 :: (g ++ 47 :: f)) = share :: g :: lvls f := by rw [lvls_append share_flat, lvls_append hg]
  obtain ⟨l, ls, eb⟩ := List.exists_cons_of_ne_nil (lvls_ne f)
  have hjb : joins (l :: ls) = f := by rw [← eb, joins_lvls]
  unfold sharedL
  rw [e, eb]
  simp only [hjb]
  have key : (validOf (share ++ 47 :: (g ++ 47 :: f)) = true ∧ True ∧ g ≠ [] ∧ (43 : UInt8) ∉ g ∧ (35 : UInt8) ∉ g ∧ filterL f = true) ↔ (validOf (share ++ 47 :: (g ++ 47 :: f)) = true ∧ g ≠ [] ∧ wild g = false ∧ filterL f = true) := by
    unfold wild
    simp only [decide_eq_false_iff_not, not_or, true_and, and_assoc]
  by_cases hc : validOf (share ++ 47 :: (g ++ 47 :: f)) = true ∧ g ≠ [] ∧ wild g = false ∧ filterL f = true
  · rw [if_pos hc, if_pos (key.2 hc)]
  · rw [if_neg hc, if_neg (fun h => hc (key.1 h))]
theorem shared_none {r : List UInt8} (hg : (47 : UInt8) ∉ r) : sharedL (share ++ 47 :: r) = ([], [], false) := by
  unfold sharedL
  rw [lvls_append share_flat, lvls_one hg]
theorem shared_other {s : List UInt8} (h : ¬ ∃ r, s = share ++ 47 :: r) : sharedL s = ([], [], false) := by
  rcases shared_cases s with ⟨g, f, _, e, _⟩ | h2
  · exact absurd ⟨_, e⟩ h
  · exact h2
theorem shared_bad {s : List UInt8} (h : validOf s = false) : sharedL s = ([], [], false) := by
  rcases shared_cases s with ⟨g, f, _, _, _, _, e, _⟩ | h2
  · rw [h] at e; cases e
  · exact h2

def front : ByteArray := ⟨#[36, 115, 104, 97, 114, 101, 47]⟩
theorem prefix_share (l : List UInt8) : Lib.hasPrefix l front.data.toList = true ↔ ∃ r, l = share ++ 47 :: r := by
  unfold Lib.hasPrefix
  rw [List.isPrefixOf_iff_prefix]
  constructor
  · rintro ⟨r, h⟩
    exact ⟨r, h.symm⟩
  · rintro ⟨r, h⟩
    exact ⟨r, h.symm⟩
theorem cutprefix_yes (s : ByteArray) (r : List UInt8) (w : World) (h : s.data.toList = share ++ 47 :: r) :
    Calls Tryd.prog 26 #[.string s, .string front] w fun e w' => e = .returned (.tuple #[.string (bs r), .bool true]) ∧ w = w' := by
  have hp : Lib.hasPrefix s.data.toList front.data.toList = true := (prefix_share _).2 ⟨r, h⟩
  have c := Any.stringslite_HasPrefix (P := Tryd.prog) lays206 s front w
  rw [hp] at c
  have c : Calls Tryd.prog 42 #[.string s, .string front] w fun e w' => e = .returned (.bool true) ∧ w' = w := c
  have c := Lib.hid c
  have hsz : front.size = 7 := rfl
  have h7 : (7 : Int) ≤ (s.size : Int) := by
    have := Lib.size_eq s
    rw [h] at this
    simp [share] at this
    omega
  have hext : s.extract 7 s.size = bs r := by
    rw [← bs_mk (s.extract 7 s.size), ByteArray.data_extract, Array.toList_extract, List.extract_eq_take_drop, h]
    have hl : s.size - 7 = r.length := by
      have := Lib.size_eq s
      rw [h] at this
      simp [share] at this
      omega
    rw [hl]
    simp [share]
  have hext2 := Lib.hid hext
  clear hp h hext
  have c2 : Calls Tryd.prog 35 #[.string s, .string front] w fun e w' => e = .returned (.tuple #[.string (bs r), .bool true]) ∧ w = w' := by
    go_enter Tryd.func35, Tryd.ntmps35
    go_wp2_with fail
    refine (c.out).mono ?_
    rintro e w' ⟨rfl, rfl⟩
    go_wp2_with fail
    go_ret2
    exact ⟨by rw [← hext2.out]; rfl, rfl⟩
  have c2 := Lib.hid c2
  go_enter Tryd.func26, Tryd.ntmps26
  go_wp2_with fail
  refine (c2.out).mono ?_
  rintro e w' ⟨rfl, rfl⟩
  go_wp2_with fail
  go_ret2
  exact ⟨rfl, rfl⟩
theorem cutprefix_no (s : ByteArray) (w : World) (h : ¬ ∃ r, s.data.toList = share ++ 47 :: r) :
    Calls Tryd.prog 26 #[.string s, .string front] w fun e w' => e = .returned (.tuple #[.string s, .bool false]) ∧ w = w' := by
  have hp : Lib.hasPrefix s.data.toList front.data.toList = false := Bool.eq_false_iff.2 fun e => h ((prefix_share _).1 e)
  have c := Any.stringslite_HasPrefix (P := Tryd.prog) lays206 s front w
  rw [hp] at c
  have c : Calls Tryd.prog 42 #[.string s, .string front] w fun e w' => e = .returned (.bool false) ∧ w' = w := c
  have c := Lib.hid c
  clear hp h
  have c2 : Calls Tryd.prog 35 #[.string s, .string front] w fun e w' => e = .returned (.tuple #[.string s, .bool false]) ∧ w = w' := by
    go_enter Tryd.func35, Tryd.ntmps35
    go_wp2_with fail
    refine (c.out).mono ?_
    rintro e w' ⟨rfl, rfl⟩
    go_wp2_with fail
    go_ret2
    exact ⟨rfl, rfl⟩
  have c2 := Lib.hid c2
  go_enter Tryd.func26, Tryd.ntmps26
  go_wp2_with fail
  refine (c2.out).mono ?_
  rintro e w' ⟨rfl, rfl⟩
  go_wp2_with fail
  go_ret2
  exact ⟨rfl, rfl⟩

theorem cut_yes (s : ByteArray) (g f : List UInt8) (w : World) (h : s.data.toList = g ++ 47 :: f) (hg : (47 : UInt8) ∉ g) (hs : s.size < 4000000000) :
    Calls Tryd.prog 28 #[.string s, .string ⟨#[47]⟩] w fun e w' => e = .returned (.tuple #[.string (bs g), .string (bs f), .bool true]) ∧ ∃ n, w' = w.drewN n := by
  have c : Calls Tryd.prog 48 #[.string s, .string ⟨#[47]⟩] w fun e w' => e = .returned (.int .i64 (g.length : Int)) ∧ w' = w := by
    have c := Any.stringslite_Index_one (P := Tryd.prog) lays219 s 47 w
    rw [h, indexByte_at g f hg] at c
    exact c
  have hlen : s.size = g.length + 1 + f.length := by rw [Lib.size_eq, h]; simp; omega
  have e1 : s.extract 0 g.length = bs g := by
    rw [← bs_mk (s.extract 0 g.length), ByteArray.data_extract, Array.toList_extract, List.extract_eq_take_drop, h]; simp
  have e2 : s.extract (g.length + 1) s.size = bs f := by
    rw [← bs_mk (s.extract (g.length + 1) s.size), ByteArray.data_extract, Array.toList_extract, List.extract_eq_take_drop, h, hlen]
    simp [show g.length + 1 + f.length - (g.length + 1) = f.length by omega]
  obtain ⟨k, hk⟩ : ∃ k, g.length = k := ⟨_, rfl⟩
  rw [hk] at c hlen e1 e2
  have e1 := Lib.hid e1
  have e2 := Lib.hid e2
  have c := Lib.hid c
  have g1 : (k : Int) + 1 ≤ (s.size : Int) := by omega
  have g2 : (s.size : Int) ≤ 4000000000 := by omega
  have g3 : (k : Int) ≤ (s.size : Int) := by omega
  clear h hg hlen hk hs
  have c2 : Calls Tryd.prog 37 #[.string s, .string ⟨#[47]⟩] w fun e w' => e = .returned (.tuple #[.string (bs g), .string (bs f), .bool true]) ∧ ∃ n, w' = w.drewN n := by
    go_enter Tryd.func37, Tryd.ntmps37
    go_wp2_with fail
    refine (c.out).mono ?_
    rintro e w' ⟨rfl, rfl⟩
    go_wp2_with fail
    go_quiet (fail)
    go_wp2_with fail
    go_ret3
    exact ⟨by rw [← e1.out, ← e2.out]; rfl, _, rfl⟩
  have c2 := Lib.hid c2
  go_enter Tryd.func28, Tryd.ntmps28
  go_wp2_with fail
  refine (c2.out).mono ?_
  rintro e w' ⟨rfl, hq⟩
  go_wp2_with fail
  go_ret3
  exact ⟨rfl, hq⟩
theorem cut_no (s : ByteArray) (w : World) (hg : (47 : UInt8) ∉ s.data.toList) :
    Calls Tryd.prog 28 #[.string s, .string ⟨#[47]⟩] w fun e w' => e = .returned (.tuple #[.string s, .string ⟨#[]⟩, .bool false]) ∧ w = w' := by
  have c : Calls Tryd.prog 48 #[.string s, .string ⟨#[47]⟩] w fun e w' => e = .returned (.int .i64 (-1)) ∧ w' = w := by
    have c := Any.stringslite_Index_one (P := Tryd.prog) lays219 s 47 w
    rw [indexByte_no hg] at c
    exact c
  have c := Lib.hid c
  clear hg
  have c2 : Calls Tryd.prog 37 #[.string s, .string ⟨#[47]⟩] w fun e w' => e = .returned (.tuple #[.string s, .string ⟨#[]⟩, .bool false]) ∧ w = w' := by
    go_enter Tryd.func37, Tryd.ntmps37
    go_wp2_with fail
    refine (c.out).mono ?_
    rintro e w' ⟨rfl, rfl⟩
    go_wp2_with fail
    go_ret3
    exact ⟨rfl, rfl⟩
  have c2 := Lib.hid c2
  go_enter Tryd.func28, Tryd.ntmps28
  go_wp2_with fail
  refine (c2.out).mono ?_
  rintro e w' ⟨rfl, rfl⟩
  go_wp2_with fail
  go_ret3
  exact ⟨rfl, rfl⟩

/-- What Shared answers, as a value. -/
def shv (x : List UInt8 × List UInt8 × Bool) : Value := .tuple #[.string (bs x.1), .string (bs x.2.1), .bool x.2.2]
theorem shv_none : shv ([], [], false) = .tuple #[.string ⟨#[]⟩, .string ⟨#[]⟩, .bool false] := rfl
set_option maxHeartbeats 1000000 in
theorem shared_any (s : ByteArray) (w : World) (hs : s.size < 4000000000) :
    Calls Tryd.prog 12 #[.string s] w fun e w' => e = .returned (shv (sharedL s.data.toList)) ∧ Below w.heap.size w w' := by
  by_cases hp : ∃ r, s.data.toList = share ++ 47 :: r
  · obtain ⟨r, hr⟩ := hp
    have hP := cutprefix_yes s r w hr
    have hV := fun W => valid_any s W (by omega)
    have hrl : r.length < 4000000000 := by
      have := Lib.size_eq s
      rw [hr] at this
      simp [share] at this
      omega
    cases hv : validOf s.data.toList with
    | false =>
      rw [shared_bad hv, shv_none]
      rw [hv] at hV
      have hV := Lib.hid hV
      have hP := Lib.hid hP
      clear hr hv
      go_enter Tryd.func12, Tryd.ntmps12
      go_wp2_with fail
      refine (hP.out).mono ?_
      rintro e w' ⟨rfl, rfl⟩
      go_wp2_with fail
      refine (hV.out _).mono ?_
      rintro e w1 ⟨rfl, hb1⟩
      go_wp2_with fail
      go_ret3
      exact ⟨rfl, hb1⟩
    | true =>
      rw [hv] at hV
      rcases first_slash r with hno | ⟨g, f, hgf, hg⟩
      · have e0 : sharedL s.data.toList = ([], [], false) := by rw [hr]; exact shared_none hno
        rw [e0, shv_none]
        have hC := cut_no (bs r)
        rw [bs_data] at hC
        have hC := fun W => hC W hno
        have hF : ∀ W, Calls Tryd.prog 10 #[.string ⟨#[]⟩] W fun e w' => e = .returned (.bool false) ∧ Below W.heap.size W w' := fun W => filter_any ⟨#[]⟩ W (by decide)
        have hW := fun W => wild_any (bs r) W (by rw [bs_size]; exact hrl)
        rw [bs_data] at hW
        have hV := Lib.hid hV
        have hP := Lib.hid hP
        have hC := Lib.hid hC
        have hF := Lib.hid hF
        clear hr hv e0 hno hrl hs
        by_cases hr0 : r = []
        · subst hr0
          have hemp : (bs []).toList.isEmpty = true := by rw [bs_toList]; rfl
          clear hW
          go_enter Tryd.func12, Tryd.ntmps12
          go_wp2_with fail
          refine (hP.out).mono ?_
          rintro e w' ⟨rfl, rfl⟩
          go_wp2_with fail
          refine (hV.out _).mono ?_
          rintro e w1 ⟨rfl, hb1⟩
          have hb1 := Lib.hid hb1
          go_wp2_with fail
          refine (hC.out _).mono ?_
          rintro e w2 ⟨rfl, rfl⟩
          have hb2 := hb1
          go_wp2_with fail
          go_ret3
          exact ⟨rfl, hb2.out⟩
        · have hemp : (bs r).toList.isEmpty = false := by rw [bs_toList, List.isEmpty_eq_false_iff]; exact hr0
          cases hwd : wild r with
          | true =>
            rw [hwd] at hW
            have hW := Lib.hid hW
            clear hr0 hwd
            go_enter Tryd.func12, Tryd.ntmps12
            go_wp2_with fail
            refine (hP.out).mono ?_
            rintro e w' ⟨rfl, rfl⟩
            go_wp2_with fail
            refine (hV.out _).mono ?_
            rintro e w1 ⟨rfl, hb1⟩
            have hb1 := Lib.hid hb1
            go_wp2_with fail
            refine (hC.out _).mono ?_
            rintro e w2 ⟨rfl, rfl⟩
            have hb2 := hb1
            go_wp2_with fail
            refine (hW.out _).mono ?_
            rintro e w3 ⟨rfl, hb3⟩
            have hb3 := Lib.hid (hb2.out.trans (hb3.mono hb2.out.size))
            go_wp2_with fail
            go_ret3
            exact ⟨rfl, hb3.out⟩
          | false =>
            rw [hwd] at hW
            have hW := Lib.hid hW
            clear hr0 hwd
            go_enter Tryd.func12, Tryd.ntmps12
            go_wp2_with fail
            refine (hP.out).mono ?_
            rintro e w' ⟨rfl, rfl⟩
            go_wp2_with fail
            refine (hV.out _).mono ?_
            rintro e w1 ⟨rfl, hb1⟩
            have hb1 := Lib.hid hb1
            go_wp2_with fail
            refine (hC.out _).mono ?_
            rintro e w2 ⟨rfl, rfl⟩
            have hb2 := hb1
            go_wp2_with fail
            refine (hW.out _).mono ?_
            rintro e w3 ⟨rfl, hb3⟩
            have hb3 := Lib.hid (hb2.out.trans (hb3.mono hb2.out.size))
            go_wp2_with fail
            refine (hF.out _).mono ?_
            rintro e w4 ⟨rfl, hb4⟩
            have hb4 := Lib.hid (hb3.out.trans (hb4.mono hb3.out.size))
            go_wp2_with fail
            go_ret3
            exact ⟨rfl, hb4.out⟩
      · subst hgf
        have e0 : sharedL s.data.toList = if g ≠ [] ∧ wild g = false ∧ filterL f = true then (g, f, true) else ([], [], false) := by
          rw [hr, shared_cut hg, ← hr, hv]; simp
        rw [List.length_append, List.length_cons] at hrl
        have hC := fun W => cut_yes (bs (g ++ 47 :: f)) g f W rfl hg (by rw [bs_size, List.length_append, List.length_cons]; exact hrl)
        have hF := fun W => filter_any (bs f) W (by rw [bs_size]; omega)
        rw [bs_data] at hF
        have hW := fun W => wild_any (bs g) W (by rw [bs_size]; omega)
        rw [bs_data] at hW
        have hV := Lib.hid hV
        have hP := Lib.hid hP
        have hC := Lib.hid hC
        by_cases hr0 : g = []
        · have e1 : sharedL s.data.toList = ([], [], false) := by rw [e0]; simp [hr0]
          rw [e1, shv_none]
          subst hr0
          have hemp : (bs []).toList.isEmpty = true := by rw [bs_toList]; rfl
          clear hr hv e0 e1 hrl hs hg hW hF
          go_enter Tryd.func12, Tryd.ntmps12
          go_wp2_with fail
          refine (hP.out).mono ?_
          rintro e w' ⟨rfl, rfl⟩
          go_wp2_with fail
          refine (hV.out _).mono ?_
          rintro e w1 ⟨rfl, hb1⟩
          have hb1 := Lib.hid hb1
          go_wp2_with fail
          refine (hC.out _).mono ?_
          rintro e w2 ⟨rfl, q, rfl⟩
          have hb2 := Lib.hid (below_draws hb1.out q)
          go_wp2_with fail
          go_ret3
          exact ⟨rfl, hb2.out⟩
        · have hemp : (bs g).toList.isEmpty = false := by rw [bs_toList, List.isEmpty_eq_false_iff]; exact hr0
          cases hwd : wild g with
          | true =>
            have e1 : sharedL s.data.toList = ([], [], false) := by rw [e0]; simp [hwd]
            rw [e1, shv_none]
            rw [hwd] at hW
            have hW := Lib.hid hW
            clear hr hv e0 e1 hrl hs hg hr0 hwd hF
            go_enter Tryd.func12, Tryd.ntmps12
            go_wp2_with fail
            refine (hP.out).mono ?_
            rintro e w' ⟨rfl, rfl⟩
            go_wp2_with fail
            refine (hV.out _).mono ?_
            rintro e w1 ⟨rfl, hb1⟩
            have hb1 := Lib.hid hb1
            go_wp2_with fail
            refine (hC.out _).mono ?_
            rintro e w2 ⟨rfl, q, rfl⟩
            have hb2 := Lib.hid (below_draws hb1.out q)
            go_wp2_with fail
            refine (hW.out _).mono ?_
            rintro e w3 ⟨rfl, hb3⟩
            have hb3 := Lib.hid (hb2.out.trans (hb3.mono hb2.out.size))
            go_wp2_with fail
            go_ret3
            exact ⟨rfl, hb3.out⟩
          | false =>
            rw [hwd] at hW
            have hW := Lib.hid hW
            cases hfl : filterL f with
            | false =>
              have e1 : sharedL s.data.toList = ([], [], false) := by rw [e0]; simp [hfl]
              rw [e1, shv_none]
              rw [hfl] at hF
              have hF := Lib.hid hF
              clear hr hv e0 e1 hrl hs hg hr0 hwd hfl
              go_enter Tryd.func12, Tryd.ntmps12
              go_wp2_with fail
              refine (hP.out).mono ?_
              rintro e w' ⟨rfl, rfl⟩
              go_wp2_with fail
              refine (hV.out _).mono ?_
              rintro e w1 ⟨rfl, hb1⟩
              have hb1 := Lib.hid hb1
              go_wp2_with fail
              refine (hC.out _).mono ?_
              rintro e w2 ⟨rfl, q, rfl⟩
              have hb2 := Lib.hid (below_draws hb1.out q)
              go_wp2_with fail
              refine (hW.out _).mono ?_
              rintro e w3 ⟨rfl, hb3⟩
              have hb3 := Lib.hid (hb2.out.trans (hb3.mono hb2.out.size))
              go_wp2_with fail
              refine (hF.out _).mono ?_
              rintro e w4 ⟨rfl, hb4⟩
              have hb4 := Lib.hid (hb3.out.trans (hb4.mono hb3.out.size))
              go_wp2_with fail
              go_ret3
              exact ⟨rfl, hb4.out⟩
            | true =>
              have e1 : sharedL s.data.toList = (g, f, true) := by rw [e0]; simp [hfl, hwd, hr0]
              rw [e1]
              rw [hfl] at hF
              have hF := Lib.hid hF
              clear hr hv e0 e1 hrl hs hg hr0 hwd hfl
              go_enter Tryd.func12, Tryd.ntmps12
              go_wp2_with fail
              refine (hP.out).mono ?_
              rintro e w' ⟨rfl, rfl⟩
              go_wp2_with fail
              refine (hV.out _).mono ?_
              rintro e w1 ⟨rfl, hb1⟩
              have hb1 := Lib.hid hb1
              go_wp2_with fail
              refine (hC.out _).mono ?_
              rintro e w2 ⟨rfl, q, rfl⟩
              have hb2 := Lib.hid (below_draws hb1.out q)
              go_wp2_with fail
              refine (hW.out _).mono ?_
              rintro e w3 ⟨rfl, hb3⟩
              have hb3 := Lib.hid (hb2.out.trans (hb3.mono hb2.out.size))
              go_wp2_with fail
              refine (hF.out _).mono ?_
              rintro e w4 ⟨rfl, hb4⟩
              have hb4 := Lib.hid (hb3.out.trans (hb4.mono hb3.out.size))
              go_wp2_with fail
              go_ret3
              exact ⟨rfl, hb4.out⟩
  · rw [shared_other hp, shv_none]
    have hP := Lib.hid (cutprefix_no s w hp)
    clear hp hs
    go_enter Tryd.func12, Tryd.ntmps12
    go_wp2_with fail
    refine (hP.out).mono ?_
    rintro e w' ⟨rfl, rfl⟩
    go_wp2_with fail
    go_ret3
    exact ⟨rfl, Below.refl _ _⟩
end Go.Proofs.YthgilnmfbhmgiaaDoor
