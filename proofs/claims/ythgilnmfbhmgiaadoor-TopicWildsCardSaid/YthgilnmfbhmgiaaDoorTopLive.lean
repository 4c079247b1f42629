/-
  What layer 4's laws share: the chapter's examples; the calls at strings whose answers are known. No condition but on lengths.
-/
import Derived.Test.YthgilnmfbhmgiaaDoorTopWith
import Derived.Test.YthgilnmfbhmgiaaDoorTopShd
import Derived.Test.YthgilnmfbhmgiaaDoorUsFacts
import Derived.Test.YthgilnmfbhmgiaaDoorLawKit
namespace Go.Proofs.YthgilnmfbhmgiaaDoor
open Go.RowKit Go.Shelf

theorem ascii_cbs : ∀ (l : List UInt8), l.all (fun b => decide (0 < b.toNat) && decide (b.toNat < 128)) = true → cbs (l.map (·.toNat)) = l ∧ oks (l.map (·.toNat))
  | [], _ => ⟨rfl, fun c hc => by simp at hc⟩
  | b :: l, h => by
    rw [List.all_cons] at h
    simp only [Bool.and_eq_true, decide_eq_true_eq] at h
    obtain ⟨⟨h1, h2⟩, h3⟩ := h
    obtain ⟨e, ho⟩ := ascii_cbs l h3
    refine ⟨?_, fun c hc => ?_⟩
    · rw [List.map_cons, cbs_cons, e]
      unfold cb
      rw [if_pos h2]
      simp
    · rcases List.mem_cons.1 hc with rfl | hc
      · exact ⟨h1, .inl (show b.toNat < 55296 by omega)⟩
      · exact ho c hc
theorem ascii_valid (l : List UInt8) (h : l.all (fun b => decide (0 < b.toNat) && decide (b.toNat < 128)) = true) (hl : l.length ≤ 65535) : validOf l = true := by
  obtain ⟨e, ho⟩ := ascii_cbs l h
  have := valid_cbs ho (by rw [e]; exact hl)
  rwa [e] at this
theorem filter_of (f : List UInt8) (v : Bool) (hv : validOf f = v) : filterL f = (decide (f ≠ []) && v && decide (okl (lvls f))) := by unfold filterL; rw [hv]
theorem name_of (f : List UInt8) (v : Bool) (hv : validOf f = v) : nameL f = (decide (f ≠ []) && v && decide ((43 : UInt8) ∉ f) && decide ((35 : UInt8) ∉ f)) := by unfold nameL; rw [hv]
theorem match_of (f n : List UInt8) (u v : Bool) (hu : validOf f = u) (hv : validOf n = v) : matchL f n = ((decide (f ≠ []) && u && decide (okl (lvls f))) && (decide (n ≠ []) && v && decide ((43 : UInt8) ∉ n) && decide ((35 : UInt8) ∉ n)) && !(dollarL n && wildL ((lvls f).headD [])) && mat (lvls f) (lvls n)) := by
  unfold matchL; rw [filter_of f u hu, name_of n v hv]
theorem within_of (f n : List UInt8) (u v : Bool) (hu : validOf f = u) (hv : validOf n = v) : withinL f n = ((decide (f ≠ []) && u && decide (okl (lvls f))) && (decide (n ≠ []) && v && decide (okl (lvls n))) && !(dollarL f && wildL ((lvls n).headD [])) && win (opened (lvls f)) (lvls n)) := by
  unfold withinL; rw [filter_of f u hu, filter_of n v hv]
theorem matches_at (f n : List UInt8) (b : Bool) (W : World) (hf : f.length ≤ 1000) (hn : n.length ≤ 1000) (h : matchL f n = b) :
    Calls Tryd.prog 11 #[.string (bs f), .string (bs n)] W fun e w' => e = .returned (.bool b) ∧ Below W.heap.size W w' := by
  have := matches_any (bs f) (bs n) W (by rw [bs_size]; omega) (by rw [bs_size]; omega)
  rwa [bs_data, bs_data, h] at this
theorem within_at (f n : List UInt8) (b : Bool) (W : World) (hf : f.length ≤ 1000) (hn : n.length ≤ 1000) (h : withinL f n = b) :
    Calls Tryd.prog 17 #[.string (bs f), .string (bs n)] W fun e w' => e = .returned (.bool b) ∧ Below W.heap.size W w' := by
  have := within_any (bs f) (bs n) W (by rw [bs_size]; omega) (by rw [bs_size]; omega)
  rwa [bs_data, bs_data, h] at this

theorem lives4 (w : World) :
    Calls Tryd.prog 8 #[] w fun e w' => e = .returned (.bool true) ∧ Below w.heap.size w w' := by
  have a1 := Lib.hid (fun W => matches_at [97, 47, 35] [97] true W (by decide) (by decide) ((match_of _ _ _ _ (ascii_valid _ (by decide) (by decide)) (ascii_valid _ (by decide) (by decide))).trans (by decide)))
  have a2 := Lib.hid (fun W => matches_at [43, 47, 98] [47, 98] true W (by decide) (by decide) ((match_of _ _ _ _ (ascii_valid _ (by decide) (by decide)) (ascii_valid _ (by decide) (by decide))).trans (by decide)))
  have a3 := Lib.hid (fun W => matches_at [35] [36, 120] false W (by decide) (by decide) ((match_of _ _ _ _ (ascii_valid _ (by decide) (by decide)) (ascii_valid _ (by decide) (by decide))).trans (by decide)))
  go_enter Tryd.func8, Tryd.ntmps8
  go_wp2_with fail
  refine (a1.out _).mono ?_
  rintro e w1 ⟨rfl, h1⟩
  have h1 := Lib.hid h1
  go_wp2_with fail
  refine (a2.out _).mono ?_
  rintro e w2 ⟨rfl, h2⟩
  have h2 := Lib.hid (h1.out.trans (h2.mono h1.out.size))
  go_wp2_with fail
  refine (a3.out _).mono ?_
  rintro e w3 ⟨rfl, h3⟩
  have h3 := Lib.hid (h2.out.trans (h3.mono h2.out.size))
  go_wp2_with fail
  go_ret
  exact ⟨rfl, h3.out⟩
end Go.Proofs.YthgilnmfbhmgiaaDoor
