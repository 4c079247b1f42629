/-
  The walk of polyglotlaw06.ReasonNames. Condition: the tables read as the program's text lays them.
-/
import Derived.Test.YtonfkaoobajbkaaDoorRsnRef3
import Derived.Test.YtonfkaoobajbkaaDoorRsnLives
namespace Go.Proofs.YtonfkaoobajbkaaDoor
open Go.RowKit

/-- A call with a known answer. -/
theorem may_is {kind code : Int} {b : Bool} (w : World) (h : mayR kind code = b) : Calls Tryd.prog 12 #[.int .i64 kind, .int .i64 code] w fun e w' => e = .returned (.bool b) ∧ Below w.heap.size w w' := by
  rw [← h]; exact may_any kind code w
theorem text_is {code : Int} {s : ByteArray} (w : World) (ht : Tabs w) (h : textS code = s) : Calls Tryd.prog 16 #[.int .i64 code] w fun e w' => e = .returned (.string s) ∧ Below w.heap.size w w' := by
  rw [← h]; exact text_any code w ht
theorem ret_is {code : Int} {b : Bool} (w : World) (h : returnR code = b) : Calls Tryd.prog 13 #[.int .i64 code] w fun e w' => e = .returned (.bool b) ∧ w = w' := by
  rw [← h]; exact return_any code w
theorem grant_is {code : Int} {b : Bool} (w : World) (h : grantR code = b) : Calls Tryd.prog 14 #[.int .i64 code] w fun e w' => e = .returned (.bool b) ∧ w = w' := by
  rw [← h]; exact grant_any code w
theorem bad_is {code : Int} {b : Bool} (w : World) (h : badR code = b) : Calls Tryd.prog 15 #[.int .i64 code] w fun e w' => e = .returned (.bool b) ∧ w = w' := by
  rw [← h]; exact bad_any code w
/-- All codes of a kind: a slice of that length. -/
theorem all_len (kind : Int) (n : Nat) (w : World) (hn : (allR kind).length = n) :
    Calls Tryd.prog 11 #[.int .i64 kind] w fun e w' => ∃ o c, e = .returned (.slice o n c) ∧ Below w.heap.size w w' := by
  refine (all_any kind w).mono fun e w' ⟨v, he, ho, hb⟩ => ?_
  rw [hn] at ho
  rcases ho.2 with ⟨h1, h2⟩ | ⟨g, c, cur, h1, _⟩
  · exact ⟨none, 0, by rw [he, h1, h2], hb⟩
  · exact ⟨_, c, by rw [he, h1], hb⟩
set_option maxRecDepth 100000 in
set_option maxHeartbeats 1000000 in
theorem rsnnames_walk (w : World) (ht : Tabs w) :
    Calls Tryd.prog 3 #[] w fun e w' => e = .returned (.bool true) ∧ Below w.heap.size w w' := by
  have LV := Lib.hid (lives_rsn w ht)
  have HT := Lib.hid (fun W (h : Below w.heap.size w W) => ht.below h)
  clear ht
  go_enter Tryd.func3, Tryd.ntmps3
  go_wp2_with fail
  refine LV.out.mono ?_
  rintro e w1 ⟨rfl, hb⟩
  have L1 := Lib.hid hb
  clear hb
  go_wp2_with fail
  refine (to5_any 6 _ (HT.out _ L1.out)).mono ?_
  rintro e w' ⟨rfl, rfl⟩
  go_wp2_with fail
  refine (to311_any 132 _ (HT.out _ L1.out)).mono ?_
  rintro e w' ⟨rfl, rfl⟩
  go_wp2_with fail
  refine (to311_any 131 _ (HT.out _ L1.out)).mono ?_
  rintro e w' ⟨rfl, rfl⟩
  simp only [show to5R 6 = (0, false) from rfl, show to311R 132 = (1, true) from rfl, show to311R 131 = (0, false) from rfl]
  go_wp2_with fail
  refine (all_any 15 _).mono ?_
  rintro e w2 ⟨v1, rfl, ho, hb⟩
  have L2 := Lib.hid (L1.out.trans (hb.mono L1.out.size))
  have R2 := Lib.hid ((RowI.own (l := allR 15) ho).below ((Below.refl _ _).alloc (Nat.le_refl _) (.cells #[.int .i64 0, .int .i64 24, .int .i64 25] 3)))
  have L3 := Lib.hid (L2.out.alloc L2.out.size (.cells #[.int .i64 0, .int .i64 24, .int .i64 25] 3))
  clear hb ho
  go_wp2_with fail
  refine (same_ints v1 _ (allR 15) _ R2.out (RowI.lit w2 [0, 24, 25] 3 #[.int .i64 0, .int .i64 24, .int .i64 25] rfl rfl) (by decide)).mono ?_
  rintro e w4 ⟨rfl, hb⟩
  have L4 := Lib.hid (L3.out.trans (hb.mono L3.out.size))
  clear hb R2
  go_wp2_with fail
  refine (all_len 3 0 _ rfl).mono ?_
  rintro e w5 ⟨o4, c4, rfl, hb⟩
  have L5 := Lib.hid (L4.out.trans (hb.mono L4.out.size))
  clear hb
  go_wp2_with fail
  refine (all_len 2 22 _ rfl).mono ?_
  rintro e w6 ⟨o5, c5, rfl, hb⟩
  have L6 := Lib.hid (L5.out.trans (hb.mono L5.out.size))
  clear hb
  go_wp2_with fail
  refine (all_len 14 29 _ rfl).mono ?_
  rintro e w7 ⟨o6, c6, rfl, hb⟩
  have L7 := Lib.hid (L6.out.trans (hb.mono L6.out.size))
  clear hb
  go_wp2_with fail
  refine (may_is (kind := 9) (code := 3) (b := false) _ (by decide)).mono ?_
  rintro e w8 ⟨rfl, hb⟩
  have L8 := Lib.hid (L7.out.trans (hb.mono L7.out.size))
  clear hb
  go_wp2_with fail
  refine (may_is (kind := 9) (code := 162) (b := true) _ (by decide)).mono ?_
  rintro e w9 ⟨rfl, hb⟩
  have L9 := Lib.hid (L8.out.trans (hb.mono L8.out.size))
  clear hb
  go_wp2_with fail
  refine (ret_is (code := 5) (b := true) _ (by decide)).mono ?_
  rintro e w' ⟨rfl, rfl⟩
  go_wp2_with fail
  refine (ret_is (code := 6) (b := false) _ (by decide)).mono ?_
  rintro e w' ⟨rfl, rfl⟩
  go_wp2_with fail
  refine (grant_is (code := 128) (b := true) _ (by decide)).mono ?_
  rintro e w' ⟨rfl, rfl⟩
  go_wp2_with fail
  refine (grant_is (code := 3) (b := false) _ (by decide)).mono ?_
  rintro e w' ⟨rfl, rfl⟩
  go_wp2_with fail
  refine (bad_is (code := 128) (b := true) _ (by decide)).mono ?_
  rintro e w' ⟨rfl, rfl⟩
  go_wp2_with fail
  refine (bad_is (code := 127) (b := false) _ (by decide)).mono ?_
  rintro e w' ⟨rfl, rfl⟩
  go_wp2_with fail
  refine (bad_is (code := 256) (b := false) _ (by decide)).mono ?_
  rintro e w' ⟨rfl, rfl⟩
  go_wp2_with fail
  refine (text_is (code := 162) (s := ⟨#[97, 50]⟩) _ (HT.out _ L9.out) (by decide +kernel)).mono ?_
  rintro e w10 ⟨rfl, hb⟩
  have L10 := Lib.hid (L9.out.trans (hb.mono L9.out.size))
  clear hb
  go_wp2_with fail
  refine (text_is (code := 0) (s := ⟨#[48, 48]⟩) _ (HT.out _ L10.out) (by decide +kernel)).mono ?_
  rintro e w11 ⟨rfl, hb⟩
  have L11 := Lib.hid (L10.out.trans (hb.mono L10.out.size))
  clear hb
  go_wp2_with fail
  refine (text_is (code := 3) (s := ⟨#[63]⟩) _ (HT.out _ L11.out) (by decide +kernel)).mono ?_
  rintro e w12 ⟨rfl, hb⟩
  have L12 := Lib.hid (L11.out.trans (hb.mono L11.out.size))
  clear hb
  go_wp2_with fail
  refine (text_is (code := (-1)) (s := ⟨#[63]⟩) _ (HT.out _ L12.out) (by decide +kernel)).mono ?_
  rintro e w13 ⟨rfl, hb⟩
  have L13 := Lib.hid (L12.out.trans (hb.mono L12.out.size))
  clear hb
  go_wp2_with fail
  go_ret
  exact ⟨rfl, L13.out⟩
end Go.Proofs.YtonfkaoobajbkaaDoor
