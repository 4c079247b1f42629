/-
  The contracts of topic.Matches, needed, Within and Shared. Condition: strings no longer than an int says (Within: at most 60,000 bytes; Shared: 4,000,000,000).
-/
import Derived.Test.YthgilnmfbhmgiaaDoorTopMatch
import Derived.Test.YthgilnmfbhmgiaaDoorTopShare
namespace Go.Proofs.YthgilnmfbhmgiaaDoor
open Go.RowKit Go.Shelf

theorem filterL_le {s : ByteArray} (h : filterL s.data.toList = true) : s.size ≤ 65535 := by
  have := ((validOf_iff _).1 ((filter_iff _).1 h).2.1).1
  rw [Lib.size_eq]; exact this
theorem nameL_le {s : ByteArray} (h : nameL s.data.toList = true) : s.size ≤ 65535 := by
  have := ((validOf_iff _).1 ((name_iff _).1 h).2.1).1
  rw [Lib.size_eq]; exact this

/-- Both lists of levels, and what they cover. -/
theorem covers_two (fs os : List (List UInt8)) (w w1 w2 : World) (A B : Option Addr) (c d : Nat) (hA : SR w1 A fs) (h12 : Below w1.heap.size w1 w2) (hB : SR w2 B os) (hc : fs.length ≤ c) (hd : os.length ≤ d) (h3 : c ≤ 70000) (h4 : d ≤ 70000) :
    Calls Tryd.prog 25 #[.slice A fs.length c, .slice B os.length d] w2 fun e w' => e = .returned (.bool (win os fs)) ∧ Below w2.heap.size w2 w' :=
  (covers_any fs os A B fs.length c os.length d w2 (hA.kept h12) hB rfl rfl hc hd (by omega) (by omega) (by omega) (by omega)).mono fun e w' ⟨he, k, hw⟩ => ⟨he, hw ▸ below_draws (Below.refl _ _) k⟩

theorem SR.alloc2 {W : World} {o : Obj} {ls : List (List UInt8)} (t : TypeId) : SR ((W.alloc o).alloc (.cells (strs ls).toArray t)) (some ⟨W.heap.size + 1, 0, none⟩) ls := by
  have := SR.alloc (W := W.alloc o) (ls := ls) t
  rwa [World.size_alloc] at this
set_option maxHeartbeats 1000000 in
theorem matches_any (f n : ByteArray) (w : World) (hf : f.size ≤ 9223372036854775807) (hn : n.size ≤ 9223372036854775807) :
    Calls Tryd.prog 11 #[.string f, .string n] w fun e w' => e = .returned (.bool (matchL f.data.toList n.data.toList)) ∧ Below w.heap.size w w' := by
  have hF := fun W => filter_any f W hf
  have hN := fun W => name_any n W hn
  cases hx : filterL f.data.toList with
  | false =>
    have hv : matchL f.data.toList n.data.toList = false := by unfold matchL; rw [hx]; rfl
    rw [hv]
    rw [hx] at hF
    have hF := Lib.hid hF
    clear hv hx hN
    go_enter Tryd.func11, Tryd.ntmps11
    go_wp2_with fail
    refine (hF.out _).mono ?_
    rintro e w1 ⟨rfl, hb1⟩
    go_wp2_with fail
    go_ret
    exact ⟨rfl, hb1⟩
  | true =>
    have hfl := filterL_le hx
    have hH := fun W => hides_any f n W hx
    cases hy : nameL n.data.toList with
    | false =>
      have hv : matchL f.data.toList n.data.toList = false := by unfold matchL; rw [hx, hy]; rfl
      rw [hv]
      rw [hx] at hF
      rw [hy] at hN
      have hF := Lib.hid hF
      have hN := Lib.hid hN
      clear hv hx hy hH
      go_enter Tryd.func11, Tryd.ntmps11
      go_wp2_with fail
      refine (hF.out _).mono ?_
      rintro e w1 ⟨rfl, hb1⟩
      go_wp2_with fail
      refine (hN.out _).mono ?_
      rintro e w2 ⟨rfl, hb2⟩
      have hb2 := Lib.hid (hb1.trans (hb2.mono hb1.size))
      go_wp2_with fail
      go_ret
      exact ⟨rfl, hb2.out⟩
    | true =>
      have hnl := nameL_le hy
      cases hz : (dollarL n.data.toList && wildL ((lvls f.data.toList).headD [])) with
      | true =>
        have hv : matchL f.data.toList n.data.toList = false := by unfold matchL; rw [hx, hy, hz]; rfl
        rw [hv]
        rw [hx] at hF
        rw [hy] at hN
        rw [hz] at hH
        have hF := Lib.hid hF
        have hN := Lib.hid hN
        have hH := Lib.hid hH
        clear hv hx hy hz
        go_enter Tryd.func11, Tryd.ntmps11
        go_wp2_with fail
        refine (hF.out _).mono ?_
        rintro e w1 ⟨rfl, hb1⟩
        go_wp2_with fail
        refine (hN.out _).mono ?_
        rintro e w2 ⟨rfl, hb2⟩
        have hb2 := Lib.hid (hb1.trans (hb2.mono hb1.size))
        go_wp2_with fail
        refine (hH.out _).mono ?_
        rintro e w3 ⟨rfl, hb3⟩
        have hb3 := Lib.hid (hb2.out.trans (hb3.mono hb2.out.size))
        go_wp2_with fail
        go_ret
        exact ⟨rfl, hb3.out⟩
      | false =>
        have hv : matchL f.data.toList n.data.toList = win (lvls n.data.toList) (lvls f.data.toList) := by
          unfold matchL
          rw [hx, hy, hz, win_name _ _ fun l hl => wild_plain (name_levels hy l hl)]; rfl
        have hll1 := lvls_le f.data.toList
        have hll2 := lvls_le n.data.toList
        rw [← Lib.size_eq] at hll1 hll2
        have hL1 := Lib.hid (fun W => levels_any f W (by omega))
        have hL2 := Lib.hid (fun W => levels_any n W (by omega))
        have hC := Lib.hid (fun (W : World) => covers_two (lvls f.data.toList) (lvls n.data.toList) W (W.alloc (.cells (strs (lvls f.data.toList)).toArray 9)) ((W.alloc (.cells (strs (lvls f.data.toList)).toArray 9)).alloc (.cells (strs (lvls n.data.toList)).toArray 9)) _ _ _ _ (SR.alloc _) ((Below.refl _ _).alloc (Nat.le_refl _) _) (SR.alloc2 _) (Nat.le_refl _) (Nat.le_refl _) (by omega) (by omega))
        rw [hv]
        rw [hx] at hF
        rw [hy] at hN
        rw [hz] at hH
        have hF := Lib.hid hF
        have hN := Lib.hid hN
        have hH := Lib.hid hH
        clear hv hx hy hz hll1 hll2 hfl hnl
        generalize win (lvls n.data.toList) (lvls f.data.toList) = b at *
        go_enter Tryd.func11, Tryd.ntmps11
        go_wp2_with fail
        refine (hF.out _).mono ?_
        rintro e w1 ⟨rfl, hb1⟩
        go_wp2_with fail
        refine (hN.out _).mono ?_
        rintro e w2 ⟨rfl, hb2⟩
        have hb2 := Lib.hid (hb1.trans (hb2.mono hb1.size))
        go_wp2_with fail
        refine (hH.out _).mono ?_
        rintro e w3 ⟨rfl, hb3⟩
        have hb3 := Lib.hid (hb2.out.trans (hb3.mono hb2.out.size))
        go_wp2_with fail
        refine (hL1.out _).mono ?_
        rintro e w4 ⟨rfl, rfl⟩
        go_wp2_with fail
        refine (hL2.out _).mono ?_
        rintro e w4 ⟨rfl, rfl⟩
        go_wp2_with fail
        refine (hC.out w3).mono ?_
        rintro e w4 ⟨rfl, hb4⟩
        go_wp2_with fail
        go_ret
        exact ⟨rfl, hb3.out.trans (((((Below.refl _ w3).alloc (Nat.le_refl _) _).alloc (by simp) _).trans (hb4.mono (by simp; omega))).mono hb3.out.size)⟩
end Go.Proofs.YthgilnmfbhmgiaaDoor
