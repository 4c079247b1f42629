/-
  The walk of polyglotlaw04.TopicWithin: whatever the filters and the name, it answers true. No condition.
-/
import Derived.Test.YthgilnmfbhmgiaaDoorTopLive
import Derived.Test.YthgilnmfbhmgiaaDoorUsRef
namespace Go.Proofs.YthgilnmfbhmgiaaDoor
open Go.RowKit Go.Shelf
set_option maxHeartbeats 1000000 in
theorem within_long (a b c d : ByteArray) (w : World) (h : 200 < a.size ∨ 200 < b.size ∨ 200 < c.size ∨ 200 < d.size) :
    Calls Tryd.prog 6 #[.string a, .string b, .string c, .string d] w fun e w' => e = .returned (.bool true) ∧ Below w.heap.size w w' := by
  have L4 := Lib.hid lives4
  by_cases ha : 200 < a.size
  · have ga : (200 : Int) < (a.size : Int) := by omega
    clear h ha
    go_enter Tryd.func6, Tryd.ntmps6
    go_wp2_with fail
    refine (L4.out _).mono ?_
    rintro e v1 ⟨rfl, b1⟩
    have B1 := Lib.hid b1
    clear b1
    go_wp2_with fail
    go_ret
    exact ⟨rfl, B1.out⟩
  · have ga : (a.size : Int) ≤ 200 := by omega
    by_cases hb : 200 < b.size
    · have gb : (200 : Int) < (b.size : Int) := by omega
      clear h ha hb
      go_enter Tryd.func6, Tryd.ntmps6
      go_wp2_with fail
      refine (L4.out _).mono ?_
      rintro e v1 ⟨rfl, b1⟩
      have B1 := Lib.hid b1
      clear b1
      go_wp2_with fail
      go_ret
      exact ⟨rfl, B1.out⟩
    · have gb : (b.size : Int) ≤ 200 := by omega
      by_cases hc : 200 < c.size
      · have gc : (200 : Int) < (c.size : Int) := by omega
        clear h ha hb hc
        go_enter Tryd.func6, Tryd.ntmps6
        go_wp2_with fail
        refine (L4.out _).mono ?_
        rintro e v1 ⟨rfl, b1⟩
        have B1 := Lib.hid b1
        clear b1
        go_wp2_with fail
        go_ret
        exact ⟨rfl, B1.out⟩
      · have gc : (c.size : Int) ≤ 200 := by omega
        by_cases hd : 200 < d.size
        · have gd : (200 : Int) < (d.size : Int) := by omega
          clear h ha hb hc hd
          go_enter Tryd.func6, Tryd.ntmps6
          go_wp2_with fail
          refine (L4.out _).mono ?_
          rintro e v1 ⟨rfl, b1⟩
          have B1 := Lib.hid b1
          clear b1
          go_wp2_with fail
          go_ret
          exact ⟨rfl, B1.out⟩
        · have gd : (d.size : Int) ≤ 200 := by omega
          omega
set_option maxHeartbeats 4000000 in
theorem within_short (a b c d : ByteArray) (w : World) (ha : a.size ≤ 200) (hb : b.size ≤ 200) (hc : c.size ≤ 200) (hd : d.size ≤ 200) :
    Calls Tryd.prog 6 #[.string a, .string b, .string c, .string d] w fun e w' => e = .returned (.bool true) ∧ Below w.heap.size w w' := by
  have L4 := Lib.hid lives4
  have gl : (a.size : Int) ≤ 200 ∧ (b.size : Int) ≤ 200 ∧ (c.size : Int) ≤ 200 ∧ (d.size : Int) ≤ 200 := by omega
  obtain ⟨ga, gb, gc, gd⟩ := gl
  have hF := fun W => filter_any a W (by omega)
  have hS := fun W => within_any a a W (by omega) (by omega)
  rw [within_self] at hS
  have hW := fun W => within_any a b W (by omega) (by omega)
  have hN := fun W => name_any a W (by omega)
  have hMa := fun W => matches_any a d W (by omega) (by omega)
  have hMb := fun W => matches_any b d W (by omega) (by omega)
  have hWb := fun W => within_any b c W (by omega) (by omega)
  have hWa := fun W => within_any a c W (by omega) (by omega)
  have hMn := fun W => matches_any b a W (by omega) (by omega)
  have k1 := fun h h' => within_match (a := a.data.toList) (b := b.data.toList) (n := d.data.toList) h h'
  have k2 := fun h h' => within_trans (a := a.data.toList) (b := b.data.toList) (c := c.data.toList) h h'
  have k3 := fun h => within_name (a := a.data.toList) b.data.toList h
  have hF := Lib.hid hF
  have hS := Lib.hid hS
  generalize filterL a.data.toList = bF at *
  have hbb : (bF != bF) = false := by cases bF <;> rfl
  generalize hW1 : withinL a.data.toList b.data.toList = bW at *
  generalize hN1 : nameL a.data.toList = bN at *
  generalize hM1 : matchL a.data.toList d.data.toList = bM at *
  generalize hM2 : matchL b.data.toList d.data.toList = bM2 at *
  generalize hW2 : withinL b.data.toList c.data.toList = bW2 at *
  generalize hW3 : withinL a.data.toList c.data.toList = bW3 at *
  generalize hM3 : matchL b.data.toList a.data.toList = bM3 at *
  clear ha hb hc hd hW1 hN1 hM1 hM2 hW2 hW3 hM3
  have hW := Lib.hid hW
  have hN := Lib.hid hN
  cases bW with
  | false =>
    clear k1 k2 hMa hMb hWb hWa
    cases bN with
    | false =>
      clear k3 hMn
      go_enter Tryd.func6, Tryd.ntmps6
      go_wp2_with fail
      refine (L4.out _).mono ?_
      rintro e v1 ⟨rfl, b1⟩
      have B1 := Lib.hid b1
      clear b1
      go_wp2_with fail
      refine (hF.out _).mono ?_
      rintro e v2 ⟨rfl, b2⟩
      have B2 := Lib.hid (B1.out.trans (b2.mono B1.out.size))
      clear b2
      go_wp2_with fail
      refine (hS.out _).mono ?_
      rintro e v3 ⟨rfl, b3⟩
      have B3 := Lib.hid (B2.out.trans (b3.mono B2.out.size))
      clear b3
      go_wp2_with fail
      refine (hW.out _).mono ?_
      rintro e v4 ⟨rfl, b4⟩
      have B4 := Lib.hid (B3.out.trans (b4.mono B3.out.size))
      clear b4
      go_wp2_with fail
      refine (hN.out _).mono ?_
      rintro e v5 ⟨rfl, b5⟩
      have B5 := Lib.hid (B4.out.trans (b5.mono B4.out.size))
      clear b5
      go_wp2_with fail
      go_ret
      exact ⟨rfl, B5.out⟩
    | true =>
      obtain rfl := k3 rfl
      have hMn := Lib.hid hMn
      clear k3
      go_enter Tryd.func6, Tryd.ntmps6
      go_wp2_with fail
      refine (L4.out _).mono ?_
      rintro e v1 ⟨rfl, b1⟩
      have B1 := Lib.hid b1
      clear b1
      go_wp2_with fail
      refine (hF.out _).mono ?_
      rintro e v2 ⟨rfl, b2⟩
      have B2 := Lib.hid (B1.out.trans (b2.mono B1.out.size))
      clear b2
      go_wp2_with fail
      refine (hS.out _).mono ?_
      rintro e v3 ⟨rfl, b3⟩
      have B3 := Lib.hid (B2.out.trans (b3.mono B2.out.size))
      clear b3
      go_wp2_with fail
      refine (hW.out _).mono ?_
      rintro e v4 ⟨rfl, b4⟩
      have B4 := Lib.hid (B3.out.trans (b4.mono B3.out.size))
      clear b4
      go_wp2_with fail
      refine (hN.out _).mono ?_
      rintro e v5 ⟨rfl, b5⟩
      have B5 := Lib.hid (B4.out.trans (b5.mono B4.out.size))
      clear b5
      go_wp2_with fail
      refine (hW.out _).mono ?_
      rintro e v6 ⟨rfl, b6⟩
      have B6 := Lib.hid (B5.out.trans (b6.mono B5.out.size))
      clear b6
      go_wp2_with fail
      refine (hMn.out _).mono ?_
      rintro e v7 ⟨rfl, b7⟩
      have B7 := Lib.hid (B6.out.trans (b7.mono B6.out.size))
      clear b7
      go_wp2_with fail
      go_ret
      exact ⟨by simp, B7.out⟩
  | true =>
    have hMa := Lib.hid hMa
    have hWb := Lib.hid hWb
    cases bM with
    | false =>
      clear k1 hMb
      cases bW2 with
      | false =>
        clear k2 hWa
        cases bN with
        | false =>
          clear k3 hMn
          go_enter Tryd.func6, Tryd.ntmps6
          go_wp2_with fail
          refine (L4.out _).mono ?_
          rintro e v1 ⟨rfl, b1⟩
          have B1 := Lib.hid b1
          clear b1
          go_wp2_with fail
          refine (hF.out _).mono ?_
          rintro e v2 ⟨rfl, b2⟩
          have B2 := Lib.hid (B1.out.trans (b2.mono B1.out.size))
          clear b2
          go_wp2_with fail
          refine (hS.out _).mono ?_
          rintro e v3 ⟨rfl, b3⟩
          have B3 := Lib.hid (B2.out.trans (b3.mono B2.out.size))
          clear b3
          go_wp2_with fail
          refine (hW.out _).mono ?_
          rintro e v4 ⟨rfl, b4⟩
          have B4 := Lib.hid (B3.out.trans (b4.mono B3.out.size))
          clear b4
          go_wp2_with fail
          refine (hMa.out _).mono ?_
          rintro e v5 ⟨rfl, b5⟩
          have B5 := Lib.hid (B4.out.trans (b5.mono B4.out.size))
          clear b5
          go_wp2_with fail
          refine (hWb.out _).mono ?_
          rintro e v6 ⟨rfl, b6⟩
          have B6 := Lib.hid (B5.out.trans (b6.mono B5.out.size))
          clear b6
          go_wp2_with fail
          refine (hN.out _).mono ?_
          rintro e v7 ⟨rfl, b7⟩
          have B7 := Lib.hid (B6.out.trans (b7.mono B6.out.size))
          clear b7
          go_wp2_with fail
          go_ret
          exact ⟨rfl, B7.out⟩
        | true =>
          obtain rfl := k3 rfl
          have hMn := Lib.hid hMn
          clear k3
          go_enter Tryd.func6, Tryd.ntmps6
          go_wp2_with fail
          refine (L4.out _).mono ?_
          rintro e v1 ⟨rfl, b1⟩
          have B1 := Lib.hid b1
          clear b1
          go_wp2_with fail
          refine (hF.out _).mono ?_
          rintro e v2 ⟨rfl, b2⟩
          have B2 := Lib.hid (B1.out.trans (b2.mono B1.out.size))
          clear b2
          go_wp2_with fail
          refine (hS.out _).mono ?_
          rintro e v3 ⟨rfl, b3⟩
          have B3 := Lib.hid (B2.out.trans (b3.mono B2.out.size))
          clear b3
          go_wp2_with fail
          refine (hW.out _).mono ?_
          rintro e v4 ⟨rfl, b4⟩
          have B4 := Lib.hid (B3.out.trans (b4.mono B3.out.size))
          clear b4
          go_wp2_with fail
          refine (hMa.out _).mono ?_
          rintro e v5 ⟨rfl, b5⟩
          have B5 := Lib.hid (B4.out.trans (b5.mono B4.out.size))
          clear b5
          go_wp2_with fail
          refine (hWb.out _).mono ?_
          rintro e v6 ⟨rfl, b6⟩
          have B6 := Lib.hid (B5.out.trans (b6.mono B5.out.size))
          clear b6
          go_wp2_with fail
          refine (hN.out _).mono ?_
          rintro e v7 ⟨rfl, b7⟩
          have B7 := Lib.hid (B6.out.trans (b7.mono B6.out.size))
          clear b7
          go_wp2_with fail
          refine (hW.out _).mono ?_
          rintro e v8 ⟨rfl, b8⟩
          have B8 := Lib.hid (B7.out.trans (b8.mono B7.out.size))
          clear b8
          go_wp2_with fail
          refine (hMn.out _).mono ?_
          rintro e v9 ⟨rfl, b9⟩
          have B9 := Lib.hid (B8.out.trans (b9.mono B8.out.size))
          clear b9
          go_wp2_with fail
          go_ret
          exact ⟨by simp, B9.out⟩
      | true =>
        obtain rfl := k2 rfl rfl
        have hWa := Lib.hid hWa
        clear k2
        cases bN with
        | false =>
          clear k3 hMn
          go_enter Tryd.func6, Tryd.ntmps6
          go_wp2_with fail
          refine (L4.out _).mono ?_
          rintro e v1 ⟨rfl, b1⟩
          have B1 := Lib.hid b1
          clear b1
          go_wp2_with fail
          refine (hF.out _).mono ?_
          rintro e v2 ⟨rfl, b2⟩
          have B2 := Lib.hid (B1.out.trans (b2.mono B1.out.size))
          clear b2
          go_wp2_with fail
          refine (hS.out _).mono ?_
          rintro e v3 ⟨rfl, b3⟩
          have B3 := Lib.hid (B2.out.trans (b3.mono B2.out.size))
          clear b3
          go_wp2_with fail
          refine (hW.out _).mono ?_
          rintro e v4 ⟨rfl, b4⟩
          have B4 := Lib.hid (B3.out.trans (b4.mono B3.out.size))
          clear b4
          go_wp2_with fail
          refine (hMa.out _).mono ?_
          rintro e v5 ⟨rfl, b5⟩
          have B5 := Lib.hid (B4.out.trans (b5.mono B4.out.size))
          clear b5
          go_wp2_with fail
          refine (hWb.out _).mono ?_
          rintro e v6 ⟨rfl, b6⟩
          have B6 := Lib.hid (B5.out.trans (b6.mono B5.out.size))
          clear b6
          go_wp2_with fail
          refine (hWa.out _).mono ?_
          rintro e v7 ⟨rfl, b7⟩
          have B7 := Lib.hid (B6.out.trans (b7.mono B6.out.size))
          clear b7
          go_wp2_with fail
          refine (hN.out _).mono ?_
          rintro e v8 ⟨rfl, b8⟩
          have B8 := Lib.hid (B7.out.trans (b8.mono B7.out.size))
          clear b8
          go_wp2_with fail
          go_ret
          exact ⟨rfl, B8.out⟩
        | true =>
          obtain rfl := k3 rfl
          have hMn := Lib.hid hMn
          clear k3
          go_enter Tryd.func6, Tryd.ntmps6
          go_wp2_with fail
          refine (L4.out _).mono ?_
          rintro e v1 ⟨rfl, b1⟩
          have B1 := Lib.hid b1
          clear b1
          go_wp2_with fail
          refine (hF.out _).mono ?_
          rintro e v2 ⟨rfl, b2⟩
          have B2 := Lib.hid (B1.out.trans (b2.mono B1.out.size))
          clear b2
          go_wp2_with fail
          refine (hS.out _).mono ?_
          rintro e v3 ⟨rfl, b3⟩
          have B3 := Lib.hid (B2.out.trans (b3.mono B2.out.size))
          clear b3
          go_wp2_with fail
          refine (hW.out _).mono ?_
          rintro e v4 ⟨rfl, b4⟩
          have B4 := Lib.hid (B3.out.trans (b4.mono B3.out.size))
          clear b4
          go_wp2_with fail
          refine (hMa.out _).mono ?_
          rintro e v5 ⟨rfl, b5⟩
          have B5 := Lib.hid (B4.out.trans (b5.mono B4.out.size))
          clear b5
          go_wp2_with fail
          refine (hWb.out _).mono ?_
          rintro e v6 ⟨rfl, b6⟩
          have B6 := Lib.hid (B5.out.trans (b6.mono B5.out.size))
          clear b6
          go_wp2_with fail
          refine (hWa.out _).mono ?_
          rintro e v7 ⟨rfl, b7⟩
          have B7 := Lib.hid (B6.out.trans (b7.mono B6.out.size))
          clear b7
          go_wp2_with fail
          refine (hN.out _).mono ?_
          rintro e v8 ⟨rfl, b8⟩
          have B8 := Lib.hid (B7.out.trans (b8.mono B7.out.size))
          clear b8
          go_wp2_with fail
          refine (hW.out _).mono ?_
          rintro e v9 ⟨rfl, b9⟩
          have B9 := Lib.hid (B8.out.trans (b9.mono B8.out.size))
          clear b9
          go_wp2_with fail
          refine (hMn.out _).mono ?_
          rintro e v10 ⟨rfl, b10⟩
          have B10 := Lib.hid (B9.out.trans (b10.mono B9.out.size))
          clear b10
          go_wp2_with fail
          go_ret
          exact ⟨by simp, B10.out⟩
    | true =>
      obtain rfl := k1 rfl rfl
      have hMb := Lib.hid hMb
      clear k1
      cases bW2 with
      | false =>
        clear k2 hWa
        cases bN with
        | false =>
          clear k3 hMn
          go_enter Tryd.func6, Tryd.ntmps6
          go_wp2_with fail
          refine (L4.out _).mono ?_
          rintro e v1 ⟨rfl, b1⟩
          have B1 := Lib.hid b1
          clear b1
          go_wp2_with fail
          refine (hF.out _).mono ?_
          rintro e v2 ⟨rfl, b2⟩
          have B2 := Lib.hid (B1.out.trans (b2.mono B1.out.size))
          clear b2
          go_wp2_with fail
          refine (hS.out _).mono ?_
          rintro e v3 ⟨rfl, b3⟩
          have B3 := Lib.hid (B2.out.trans (b3.mono B2.out.size))
          clear b3
          go_wp2_with fail
          refine (hW.out _).mono ?_
          rintro e v4 ⟨rfl, b4⟩
          have B4 := Lib.hid (B3.out.trans (b4.mono B3.out.size))
          clear b4
          go_wp2_with fail
          refine (hMa.out _).mono ?_
          rintro e v5 ⟨rfl, b5⟩
          have B5 := Lib.hid (B4.out.trans (b5.mono B4.out.size))
          clear b5
          go_wp2_with fail
          refine (hMb.out _).mono ?_
          rintro e v6 ⟨rfl, b6⟩
          have B6 := Lib.hid (B5.out.trans (b6.mono B5.out.size))
          clear b6
          go_wp2_with fail
          refine (hWb.out _).mono ?_
          rintro e v7 ⟨rfl, b7⟩
          have B7 := Lib.hid (B6.out.trans (b7.mono B6.out.size))
          clear b7
          go_wp2_with fail
          refine (hN.out _).mono ?_
          rintro e v8 ⟨rfl, b8⟩
          have B8 := Lib.hid (B7.out.trans (b8.mono B7.out.size))
          clear b8
          go_wp2_with fail
          go_ret
          exact ⟨rfl, B8.out⟩
        | true =>
          obtain rfl := k3 rfl
          have hMn := Lib.hid hMn
          clear k3
          go_enter Tryd.func6, Tryd.ntmps6
          go_wp2_with fail
          refine (L4.out _).mono ?_
          rintro e v1 ⟨rfl, b1⟩
          have B1 := Lib.hid b1
          clear b1
          go_wp2_with fail
          refine (hF.out _).mono ?_
          rintro e v2 ⟨rfl, b2⟩
          have B2 := Lib.hid (B1.out.trans (b2.mono B1.out.size))
          clear b2
          go_wp2_with fail
          refine (hS.out _).mono ?_
          rintro e v3 ⟨rfl, b3⟩
          have B3 := Lib.hid (B2.out.trans (b3.mono B2.out.size))
          clear b3
          go_wp2_with fail
          refine (hW.out _).mono ?_
          rintro e v4 ⟨rfl, b4⟩
          have B4 := Lib.hid (B3.out.trans (b4.mono B3.out.size))
          clear b4
          go_wp2_with fail
          refine (hMa.out _).mono ?_
          rintro e v5 ⟨rfl, b5⟩
          have B5 := Lib.hid (B4.out.trans (b5.mono B4.out.size))
          clear b5
          go_wp2_with fail
          refine (hMb.out _).mono ?_
          rintro e v6 ⟨rfl, b6⟩
          have B6 := Lib.hid (B5.out.trans (b6.mono B5.out.size))
          clear b6
          go_wp2_with fail
          refine (hWb.out _).mono ?_
          rintro e v7 ⟨rfl, b7⟩
          have B7 := Lib.hid (B6.out.trans (b7.mono B6.out.size))
          clear b7
          go_wp2_with fail
          refine (hN.out _).mono ?_
          rintro e v8 ⟨rfl, b8⟩
          have B8 := Lib.hid (B7.out.trans (b8.mono B7.out.size))
          clear b8
          go_wp2_with fail
          refine (hW.out _).mono ?_
          rintro e v9 ⟨rfl, b9⟩
          have B9 := Lib.hid (B8.out.trans (b9.mono B8.out.size))
          clear b9
          go_wp2_with fail
          refine (hMn.out _).mono ?_
          rintro e v10 ⟨rfl, b10⟩
          have B10 := Lib.hid (B9.out.trans (b10.mono B9.out.size))
          clear b10
          go_wp2_with fail
          go_ret
          exact ⟨by simp, B10.out⟩
      | true =>
        obtain rfl := k2 rfl rfl
        have hWa := Lib.hid hWa
        clear k2
        cases bN with
        | false =>
          clear k3 hMn
          go_enter Tryd.func6, Tryd.ntmps6
          go_wp2_with fail
          refine (L4.out _).mono ?_
          rintro e v1 ⟨rfl, b1⟩
          have B1 := Lib.hid b1
          clear b1
          go_wp2_with fail
          refine (hF.out _).mono ?_
          rintro e v2 ⟨rfl, b2⟩
          have B2 := Lib.hid (B1.out.trans (b2.mono B1.out.size))
          clear b2
          go_wp2_with fail
          refine (hS.out _).mono ?_
          rintro e v3 ⟨rfl, b3⟩
          have B3 := Lib.hid (B2.out.trans (b3.mono B2.out.size))
          clear b3
          go_wp2_with fail
          refine (hW.out _).mono ?_
          rintro e v4 ⟨rfl, b4⟩
          have B4 := Lib.hid (B3.out.trans (b4.mono B3.out.size))
          clear b4
          go_wp2_with fail
          refine (hMa.out _).mono ?_
          rintro e v5 ⟨rfl, b5⟩
          have B5 := Lib.hid (B4.out.trans (b5.mono B4.out.size))
          clear b5
          go_wp2_with fail
          refine (hMb.out _).mono ?_
          rintro e v6 ⟨rfl, b6⟩
          have B6 := Lib.hid (B5.out.trans (b6.mono B5.out.size))
          clear b6
          go_wp2_with fail
          refine (hWb.out _).mono ?_
          rintro e v7 ⟨rfl, b7⟩
          have B7 := Lib.hid (B6.out.trans (b7.mono B6.out.size))
          clear b7
          go_wp2_with fail
          refine (hWa.out _).mono ?_
          rintro e v8 ⟨rfl, b8⟩
          have B8 := Lib.hid (B7.out.trans (b8.mono B7.out.size))
          clear b8
          go_wp2_with fail
          refine (hN.out _).mono ?_
          rintro e v9 ⟨rfl, b9⟩
          have B9 := Lib.hid (B8.out.trans (b9.mono B8.out.size))
          clear b9
          go_wp2_with fail
          go_ret
          exact ⟨rfl, B9.out⟩
        | true =>
          obtain rfl := k3 rfl
          have hMn := Lib.hid hMn
          clear k3
          go_enter Tryd.func6, Tryd.ntmps6
          go_wp2_with fail
          refine (L4.out _).mono ?_
          rintro e v1 ⟨rfl, b1⟩
          have B1 := Lib.hid b1
          clear b1
          go_wp2_with fail
          refine (hF.out _).mono ?_
          rintro e v2 ⟨rfl, b2⟩
          have B2 := Lib.hid (B1.out.trans (b2.mono B1.out.size))
          clear b2
          go_wp2_with fail
          refine (hS.out _).mono ?_
          rintro e v3 ⟨rfl, b3⟩
          have B3 := Lib.hid (B2.out.trans (b3.mono B2.out.size))
          clear b3
          go_wp2_with fail
          refine (hW.out _).mono ?_
          rintro e v4 ⟨rfl, b4⟩
          have B4 := Lib.hid (B3.out.trans (b4.mono B3.out.size))
          clear b4
          go_wp2_with fail
          refine (hMa.out _).mono ?_
          rintro e v5 ⟨rfl, b5⟩
          have B5 := Lib.hid (B4.out.trans (b5.mono B4.out.size))
          clear b5
          go_wp2_with fail
          refine (hMb.out _).mono ?_
          rintro e v6 ⟨rfl, b6⟩
          have B6 := Lib.hid (B5.out.trans (b6.mono B5.out.size))
          clear b6
          go_wp2_with fail
          refine (hWb.out _).mono ?_
          rintro e v7 ⟨rfl, b7⟩
          have B7 := Lib.hid (B6.out.trans (b7.mono B6.out.size))
          clear b7
          go_wp2_with fail
          refine (hWa.out _).mono ?_
          rintro e v8 ⟨rfl, b8⟩
          have B8 := Lib.hid (B7.out.trans (b8.mono B7.out.size))
          clear b8
          go_wp2_with fail
          refine (hN.out _).mono ?_
          rintro e v9 ⟨rfl, b9⟩
          have B9 := Lib.hid (B8.out.trans (b9.mono B8.out.size))
          clear b9
          go_wp2_with fail
          refine (hW.out _).mono ?_
          rintro e v10 ⟨rfl, b10⟩
          have B10 := Lib.hid (B9.out.trans (b10.mono B9.out.size))
          clear b10
          go_wp2_with fail
          refine (hMn.out _).mono ?_
          rintro e v11 ⟨rfl, b11⟩
          have B11 := Lib.hid (B10.out.trans (b11.mono B10.out.size))
          clear b11
          go_wp2_with fail
          go_ret
          exact ⟨by simp, B11.out⟩
theorem within_walk (a b c d : ByteArray) (w : World) :
    Calls Tryd.prog 6 #[.string a, .string b, .string c, .string d] w fun e w' => e = .returned (.bool true) ∧ Below w.heap.size w w' := by
  by_cases h : 200 < a.size ∨ 200 < b.size ∨ 200 < c.size ∨ 200 < d.size
  · exact within_long a b c d w h
  · exact within_short a b c d w (by omega) (by omega) (by omega) (by omega)
end Go.Proofs.YthgilnmfbhmgiaaDoor
