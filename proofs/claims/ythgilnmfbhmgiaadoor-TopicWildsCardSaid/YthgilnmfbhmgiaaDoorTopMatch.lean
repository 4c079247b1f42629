/-
  The contracts of topic.Dollar, hides, covers, Matches, needed and Within. Condition: strings no longer than an int says.
-/
import Derived.Test.YthgilnmfbhmgiaaDoorTopName
import Derived.Test.YthgilnmfbhmgiaaDoorTopWithin
namespace Go.Proofs.YthgilnmfbhmgiaaDoor
open Go.RowKit Go.Shelf

theorem prefix_dollar (s : ByteArray) : (s.extract 0 1).toList = s.data.toList.take 1 := by
  rw [toList_data]
  simp [List.extract_eq_take_drop]
theorem dollarL_take (s : List UInt8) : dollarL s = decide (s.take 1 = [36]) := by
  unfold dollarL
  cases s with
  | nil => simp
  | cons c s => simp
theorem dollar_any (s : ByteArray) (w : World) :
    Calls Tryd.prog 16 #[.string s] w fun e w' => e = .returned (.bool (dollarL s.data.toList)) ∧ w = w' := by
  have c := Any.stringslite_HasPrefix (P := Tryd.prog) lays206 s ⟨#[36]⟩ w
  have hd : Lib.hasPrefix s.data.toList [36] = dollarL s.data.toList := by
    unfold Lib.hasPrefix
    rw [dollarL_take]
    cases s.data.toList with
    | nil => rfl
    | cons c l =>
      rw [Bool.eq_iff_iff]
      simp only [List.isPrefixOf, List.take_succ_cons, List.take_zero, Bool.and_true, beq_iff_eq, decide_eq_true_eq, List.cons.injEq, and_true]
      exact ⟨Eq.symm, Eq.symm⟩
  have c : Calls Tryd.prog 42 #[.string s, .string ⟨#[36]⟩] w fun e w' => e = .returned (.bool (dollarL s.data.toList)) ∧ w' = w := by
    rw [← hd]; exact c
  clear hd
  generalize dollarL s.data.toList = b at *
  have c := Lib.hid c
  have c2 : Calls Tryd.prog 31 #[.string s, .string ⟨#[36]⟩] w fun e w' => e = .returned (.bool b) ∧ w = w' := by
    go_enter Tryd.func31, Tryd.ntmps31
    go_wp2_with fail
    refine (c.out).mono ?_
    rintro e w' ⟨rfl, rfl⟩
    go_wp2_with fail
    go_ret
    exact ⟨rfl, rfl⟩
  have c2 := Lib.hid c2
  go_enter Tryd.func16, Tryd.ntmps16
  go_wp2_with fail
  refine (c2.out).mono ?_
  rintro e w' ⟨rfl, rfl⟩
  go_wp2_with fail
  go_ret
  exact ⟨rfl, rfl⟩

/-- A filter's first byte is + or # exactly if its first level is. -/
theorem wild_first {f : List UInt8} (h : filterL f = true) : wild (f.take 1) = wildL ((lvls f).headD []) := by
  obtain ⟨h0, _, ho⟩ := (filter_iff f).1 h
  cases f with
  | nil => exact absurd rfl h0
  | cons c f =>
    by_cases hc : c = 47
    · subst hc
      rw [lvls_slash]; rfl
    · obtain ⟨l, ls, e1, e2⟩ := lvls_other hc f
      rw [e2] at ho ⊢
      have hw := (okl_cons _ _).1 ho
      show wild [c] = wildL (c :: l)
      by_cases h1 : c = 43
      · subst h1
        have : wild (43 :: l) = true := by unfold wild; simp
        rcases hw.1 this with h | ⟨h, _⟩
        · rw [h]; rfl
        · cases h
      · by_cases h2 : c = 35
        · subst h2
          have : wild (35 :: l) = true := by unfold wild; simp
          rcases hw.1 this with h | ⟨h, _⟩
          · cases h
          · rw [h]; rfl
        · unfold wild wildL; simp [Ne.symm h1, Ne.symm h2, h1, h2]
theorem extract_one (f : ByteArray) : (f.extract 0 1).data.toList = f.data.toList.take 1 := by rw [← toList_data]; exact prefix_dollar f
theorem hides_any (f s : ByteArray) (w : World) (hf : filterL f.data.toList = true) :
    Calls Tryd.prog 24 #[.string f, .string s] w fun e w' => e = .returned (.bool (dollarL s.data.toList && wildL ((lvls f.data.toList).headD []))) ∧ Below w.heap.size w w' := by
  have hd := dollar_any s w
  have hw := fun W => wild_any (f.extract 0 1) W (by rw [ByteArray.size_extract]; omega)
  rw [extract_one, wild_first hf] at hw
  have h1 : 1 ≤ f.size := by
    have := ((filter_iff _).1 hf).1
    rw [Lib.size_eq]
    exact List.length_pos_iff.2 this
  generalize wildL ((lvls f.data.toList).headD []) = b at *
  have hw := Lib.hid hw
  cases hx : dollarL s.data.toList with
  | false =>
    rw [hx] at hd
    have hd := Lib.hid hd
    clear hf hx
    go_enter Tryd.func24, Tryd.ntmps24
    go_wp2_with fail
    refine (hd.out).mono ?_
    rintro e w' ⟨rfl, rfl⟩
    go_wp2_with fail
    go_ret
    exact ⟨rfl, Below.refl _ _⟩
  | true =>
    rw [hx] at hd
    have hd := Lib.hid hd
    clear hf hx
    have g1 : (1 : Int) ≤ (f.size : Int) := by omega
    go_enter Tryd.func24, Tryd.ntmps24
    go_wp2_with fail
    refine (hd.out).mono ?_
    rintro e w' ⟨rfl, rfl⟩
    go_wp2_with fail
    refine (hw.out _).mono ?_
    rintro e w' ⟨rfl, hb⟩
    go_wp2_with fail
    go_ret
    exact ⟨rfl, hb⟩

theorem SR.head {w : World} {A : Option Addr} {l : List UInt8} {ls : List (List UInt8)} (h : SR w A (l :: ls)) : ∃ g i, A = some ⟨g, i, none⟩ ∧ w.cell? ⟨g, i, none⟩ = some (.string (bs l)) ∧ SR w (some ⟨g, i + 1, none⟩) ls := by
  obtain ⟨g, i, e, hg, hc⟩ := h (by simp)
  refine ⟨g, i, e, hc 0 (by simp), fun _ => ⟨g, i + 1, rfl, hg, fun j hj => ?_⟩⟩
  have := hc (j + 1) (by simp; omega)
  rw [show i + 1 + j = i + (j + 1) by omega]
  simpa using this

theorem quiet_then {w w'' : World} {a b : Nat} (h : ∃ j, w'' = (w.drewN (a + b)).drewN j) : ∃ n, w'' = w.drewN (a + n) := by
  obtain ⟨j, rfl⟩ := h
  exact ⟨b + j, by rw [World.drewN_drewN, Nat.add_assoc]⟩
theorem SR.next {w : World} {g i c : Nat} {ls : List (List UInt8)} (h : SR w (some ⟨g, i + 1, none⟩) ls) (hc : ls.length + 1 ≤ c) : SR w (if c = 1 then some ⟨g, i, none⟩ else some ⟨g, i + 1, none⟩) ls := by
  by_cases h1 : c = 1
  · have : ls = [] := List.eq_nil_of_length_eq_zero (by omega)
    subst this; exact SR.nil
  · rw [if_neg h1]; exact h
set_option maxHeartbeats 2000000 in
theorem covers_any : ∀ (fs os : List (List UInt8)) (A B : Option Addr) (n c m d : Nat) (w : World), SR w A fs → SR w B os → n = fs.length → m = os.length → n ≤ c → m ≤ d → n ≤ 70000 → m ≤ 70000 → c ≤ 100000 → d ≤ 100000 →
    Calls Tryd.prog 25 #[.slice A n c, .slice B m d] w fun e w' => e = .returned (.bool (win os fs)) ∧ ∃ k, w' = w.drewN k
  | [], os, A, B, n, c, m, d, w, hA, hB, hn, hm, hc, hd, _, _, _, _ => by
    subst hn
    cases os with
    | nil =>
      subst hm
      rw [win_nil_nil]
      clear hA hB hc hd
      go_enter Tryd.func25, Tryd.ntmps25
      go_wp2_with fail
      go_ret
      exact ⟨rfl, 0, rfl⟩
    | cons o os =>
      rw [win_cons_nil]
      have g1 : ((m : Int) == 0) = false := by rw [beq_eq_false_iff_ne, hm, List.length_cons]; omega
      clear hA hB hc hd hm
      go_enter Tryd.func25, Tryd.ntmps25
      go_wp2_with fail
      go_ret
      exact ⟨rfl, 0, rfl⟩
  | f :: fs, os, A, B, n, c, m, d, w, hA, hB, hn, hm, hc, hd, hN, hM, hC, hD => by
    have hIH := covers_any fs
    obtain ⟨g, i, rfl, hcf, hAf⟩ := hA.head
    have E1 := str_eq f [35]
    have E2 := str_eq f [43]
    have g1 : (1 : Int) ≤ (n : Int) := by rw [hn, List.length_cons]; omega
    have g2 : (n : Int) ≤ (c : Int) := by omega
    have g3 : (c : Int) ≤ 100000 := by omega
    by_cases h35 : f = [35]
    · have hv : win os (f :: fs) = true := by
        cases os with
        | nil => rw [win_nil_cons]; simp [h35]
        | cons o os => rw [win_cons]; simp [h35]
      rw [hv]
      rw [decide_eq_true h35] at E1
      clear hIH hv hA hB hAf hc hd hm hn hN hM hC hD E2 h35
      go_enter Tryd.func25, Tryd.ntmps25
      go_wp2_with fail
      go_ret
      exact ⟨rfl, 0, rfl⟩
    · rw [decide_eq_false h35] at E1
      cases os with
      | nil =>
        have hv : win [] (f :: fs) = false := by rw [win_nil_cons]; simp [h35]
        rw [hv]
        subst hm
        clear hIH hv hA hB hAf hc hd hn hN hM hC hD E2 h35
        go_enter Tryd.func25, Tryd.ntmps25
        go_wp2_with fail
        go_ret
        exact ⟨rfl, 0, rfl⟩
      | cons o os =>
        obtain ⟨g', i', rfl, hco, hBo⟩ := hB.head
        have E3 := str_eq o [35]
        have E4 := str_eq f o
        have g4 : (1 : Int) ≤ (m : Int) := by rw [hm, List.length_cons]; omega
        have g5 : (m : Int) ≤ (d : Int) := by omega
        have g6 : (d : Int) ≤ 100000 := by omega
        by_cases ho : o = [35]
        · have hv : win (o :: os) (f :: fs) = false := by rw [win_cons]; simp [h35, ho]
          rw [hv]
          rw [decide_eq_true ho] at E3
          clear hIH hv hA hB hAf hBo hc hd hm hn hN hM hC hD E2 E4 h35 ho
          go_enter Tryd.func25, Tryd.ntmps25
          go_wp2_with fail
          go_ret
          exact ⟨rfl, 0, rfl⟩
        · rw [decide_eq_false ho] at E3
          have E5 : ((bs f).toList == (bs o).toList) = decide (f = o) := by rw [bs_toList o]; exact E4
          clear E4
          by_cases hmat : f = [43] ∨ f = o
          · have hv : win (o :: os) (f :: fs) = win os fs := by
              rw [win_cons, decide_eq_false h35, decide_eq_false ho]
              rcases hmat with h | h
              · rw [decide_eq_true h]; simp
              · rw [decide_eq_true h.symm]; simp
            rw [hv]
            have HNM := Lib.hid (show n = fs.length + 1 ∧ m = os.length + 1 ∧ n ≤ c ∧ m ≤ d ∧ n ≤ 70000 ∧ m ≤ 70000 ∧ c ≤ 100000 ∧ d ≤ 100000 from ⟨by rw [hn, List.length_cons], by rw [hm, List.length_cons], hc, hd, hN, hM, hC, hD⟩)
            have REC := Lib.hid (fun (k : Nat) => hIH os (if c = 1 then some ⟨g, i, none⟩ else some ⟨g, i + 1, none⟩) (if d = 1 then some ⟨g', i', none⟩ else some ⟨g', i' + 1, none⟩) (n - 1) (c - 1) (m - 1) (d - 1) (w.drewN k)
              (SR.draws (SR.next hAf (by have := HNM.out; omega)) k) (SR.draws (SR.next hBo (by have := HNM.out; omega)) k) (by have := HNM.out; omega) (by have := HNM.out; omega) (by omega) (by omega) (by omega) (by omega) (by omega) (by omega))
            by_cases h43 : f = [43]
            · rw [decide_eq_true h43] at E2
              clear hv hA hB E5 h35 ho hmat h43 hn hm hc hd hN hM hC hD hIH hAf hBo HNM
              generalize win os fs = b at *
              go_enter Tryd.func25, Tryd.ntmps25
              go_wp2_with fail
              go_quiet (fail)
              go_wp2_with fail
              go_quiet (first | (go_at_call 25; exact (REC.out _).mono fun _ _ h => ⟨h.1, quiet_then h.2⟩))
              go_wp2_with fail
              all_goals
                go_ret
                exact ⟨rfl, _, rfl⟩
            · rw [decide_eq_false h43] at E2
              rw [decide_eq_true (hmat.resolve_left h43)] at E5
              clear hv hA hB h35 ho hmat h43 hn hm hc hd hN hM hC hD hIH hAf hBo HNM
              generalize win os fs = b at *
              go_enter Tryd.func25, Tryd.ntmps25
              go_wp2_with fail
              go_quiet (fail)
              go_wp2_with fail
              go_quiet (first | (go_at_call 25; exact (REC.out _).mono fun _ _ h => ⟨h.1, quiet_then h.2⟩))
              go_wp2_with fail
              all_goals
                go_ret
                exact ⟨rfl, _, rfl⟩
          · have h43 : f ≠ [43] := fun h => hmat (.inl h)
            have hfo : f ≠ o := fun h => hmat (.inr h)
            have hv : win (o :: os) (f :: fs) = false := by
              rw [win_cons, decide_eq_false h35, decide_eq_false ho, decide_eq_false h43, decide_eq_false (Ne.symm hfo)]; rfl
            rw [hv]
            rw [decide_eq_false h43] at E2
            rw [decide_eq_false hfo] at E5
            clear hv hA hB h35 ho hmat h43 hfo hn hm hc hd hN hM hC hD hIH hAf hBo
            go_enter Tryd.func25, Tryd.ntmps25
            go_wp2_with fail
            go_quiet (fail)
            go_wp2_with fail
            go_ret
            exact ⟨rfl, _, rfl⟩
end Go.Proofs.YthgilnmfbhmgiaaDoor
