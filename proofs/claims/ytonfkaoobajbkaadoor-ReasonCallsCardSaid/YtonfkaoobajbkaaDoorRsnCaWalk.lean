/-
  The walk of polyglotlaw06.ReasonCalls. Condition: the tables read as the program's text lays them.
-/
import Derived.Test.YtonfkaoobajbkaaDoorRsnRef2
import Derived.Test.YtonfkaoobajbkaaDoorRsnRef3
import Derived.Test.YtonfkaoobajbkaaDoorRsnLives
namespace Go.Proofs.YtonfkaoobajbkaaDoor
open Go.RowKit

theorem codesR_length (kind : Int) : (codesG (grp kind)).length ≤ 1000 := Nat.le_trans (codesG_length _ (grp_lt kind)) (by decide)
set_option maxRecDepth 100000 in
set_option maxHeartbeats 1000000 in
theorem rsncalls_walk (kind code : Int) (w : World) (_k0 : -9223372036854775808 ≤ kind) (_k1 : kind ≤ 9223372036854775807) (_c0 : -9223372036854775808 ≤ code) (_c1 : code ≤ 9223372036854775807) (ht : Tabs w) :
    Calls Tryd.prog 4 #[.int .i64 kind, .int .i64 code] w fun e w' => e = .returned (.bool true) ∧ Below w.heap.size w w' := by
  have LV := Lib.hid (lives_rsn w ht)
  have HT := Lib.hid (fun W (h : Below w.heap.size w W) => ht.below h)
  have A5 := Lib.hid (fun W (h : Below w.heap.size w W) => to5_any code W (ht.below h))
  have B5 := Lib.hid (fun W => rto5_any code W)
  have A3 := Lib.hid (fun W (h : Below w.heap.size w W) => to311_any code W (ht.below h))
  have B3 := Lib.hid (fun W => rto311_any code W)
  clear ht
  go_enter Tryd.func4, Tryd.ntmps4
  go_wp2_with fail
  refine LV.out.mono ?_
  rintro e w1 ⟨rfl, hb⟩
  have L1 := Lib.hid hb
  clear hb
  go_wp2_with fail
  refine (A5.out _ L1.out).mono ?_
  rintro e w' ⟨rfl, rfl⟩
  go_wp2_with fail
  refine (B5.out _).mono ?_
  rintro e w2 ⟨rfl, hb⟩
  have L2 := Lib.hid (L1.out.trans (hb.mono L1.out.size))
  clear hb
  generalize to5R code = t5 at *
  obtain ⟨p5, q5⟩ := t5
  go_wp2_with fail
  refine (A3.out _ L2.out).mono ?_
  rintro e w' ⟨rfl, rfl⟩
  go_wp2_with fail
  refine (B3.out _).mono ?_
  rintro e w3 ⟨rfl, hb⟩
  have L3 := Lib.hid (L2.out.trans (hb.mono L2.out.size))
  clear hb
  generalize to311R code = t3 at *
  obtain ⟨p3, q3⟩ := t3
  go_wp2_with fail
  refine (may_any kind code _).mono ?_
  rintro e w4 ⟨rfl, hb⟩
  have L4 := Lib.hid (L3.out.trans (hb.mono L3.out.size))
  clear hb
  go_wp2_with fail
  refine (rmay_any kind code _).mono ?_
  rintro e w5 ⟨rfl, hb⟩
  have L5 := Lib.hid (L4.out.trans (hb.mono L4.out.size))
  clear hb
  generalize mayR kind code = b1 at *
  go_wp2_with fail
  refine (all_any kind _).mono ?_
  rintro e w6 ⟨v1, rfl, ho, hb⟩
  have L6 := Lib.hid (L5.out.trans (hb.mono L5.out.size))
  have R6 := Lib.hid (RowI.own (l := codesG (grp kind)) ho)
  clear hb ho
  go_wp2_with fail
  refine (rall_any kind _).mono ?_
  rintro e w7 ⟨v2, rfl, ho, hb⟩
  have L7 := Lib.hid (L6.out.trans (hb.mono L6.out.size))
  have R7 := Lib.hid (R6.out.below hb)
  have S7 := Lib.hid (RowI.own (l := codesG (grp kind)) ho)
  clear hb ho R6
  go_wp2_with fail
  refine (same_ints v1 v2 _ _ R7.out S7.out (codesR_length kind)).mono ?_
  rintro e w8 ⟨rfl, hb⟩
  have L8 := Lib.hid (L7.out.trans (hb.mono L7.out.size))
  clear hb R7 S7
  go_wp2_with fail
  refine (return_any code _).mono ?_
  rintro e w' ⟨rfl, rfl⟩
  go_wp2_with fail
  refine (rreturn_any code _).mono ?_
  rintro e w' ⟨rfl, rfl⟩
  generalize returnR code = reb at *
  go_wp2_with fail
  refine (grant_any code _).mono ?_
  rintro e w' ⟨rfl, rfl⟩
  go_wp2_with fail
  refine (rgrant_any code _).mono ?_
  rintro e w' ⟨rfl, rfl⟩
  generalize grantR code = grb at *
  go_wp2_with fail
  refine (bad_any code _).mono ?_
  rintro e w' ⟨rfl, rfl⟩
  go_wp2_with fail
  refine (rbad_any code _).mono ?_
  rintro e w' ⟨rfl, rfl⟩
  generalize badR code = bab at *
  go_wp2_with fail
  refine (text_any code _ (HT.out _ L8.out)).mono ?_
  rintro e w9 ⟨rfl, hb⟩
  have L9 := Lib.hid (L8.out.trans (hb.mono L8.out.size))
  clear hb
  go_wp2_with fail
  refine (rtext_any code _).mono ?_
  rintro e w10 ⟨rfl, hb⟩
  have L10 := Lib.hid (L9.out.trans (hb.mono L9.out.size))
  clear hb
  generalize textS code = sb at *
  go_wp2_with fail
  go_ret
  exact ⟨rfl, L10.out⟩
end Go.Proofs.YtonfkaoobajbkaaDoor
