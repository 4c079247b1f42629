/-
  Does any kind have a code: reason.known. Condition: none.
-/
import Derived.Test.YtonfkaoobajbkaaDoorRsnMay
namespace Go.Proofs.YtonfkaoobajbkaaDoor
open Go.RowKit

def knownTo (code : Int) (k : Nat) : Bool := (List.range k).any fun j => mayR (j : Int) code
theorem knownTo_succ (code : Int) (k : Nat) : knownTo code (k + 1) = (knownTo code k || mayR (k : Int) code) := by
  unfold knownTo
  rw [List.range_succ, List.any_append]
  simp
theorem knownTo_more {code : Int} {k : Nat} (h : mayR (k : Int) code = true) (hk : k < 17) : knownR code = true := by
  unfold knownR
  rw [List.any_eq_true]
  exact ⟨k, List.mem_range.2 hk, h⟩
set_option maxRecDepth 100000 in
set_option maxHeartbeats 1000000 in
theorem known_any (code : Int) (w : World) :
    Calls Tryd.prog 27 #[.int .i64 code] w fun e w' => e = .returned (.bool (knownR code)) ∧ Below w.heap.size w w' := by
  have MA := Lib.hid (fun (k : Nat) W => may_any (k : Int) code W)
  go_enter Tryd.func27, Tryd.ntmps27
  go_wp2_with fail
  go_loopg [3, 4] 17 (fun gk _ s4 wx => ∃ k : Nat, k ≤ 17 ∧ gk = 17 - k ∧ s4 = .int .i64 (k : Int) ∧ knownTo code k = false ∧ Below w.heap.size w wx)
  case atStart => exact ⟨0, Nat.zero_le _, rfl, rfl, rfl, Below.refl _ _⟩
  case round =>
    obtain ⟨k, hk, rfl, rfl, hN, hB⟩ := hrel
    have HN := Lib.hid hN
    have HB := Lib.hid hB
    clear hN hB
    by_cases hlt : k < 17
    · have k1 : (k : Int) < 17 := by omega
      have HK := Lib.hid hlt
      have MK := Lib.hid (fun W => MA.out k W)
      clear hlt
      cases hc : mayR (k : Int) code
      · rw [hc] at MK
        have HM := Lib.hid (show knownTo code (k + 1) = false by rw [knownTo_succ, HN.out, hc]; rfl)
        clear hc
        go_wp2_with fail
        refine (MK.out _).mono ?_
        rintro e wx ⟨rfl, hb⟩
        have LB := Lib.hid (HB.out.trans (hb.mono HB.out.size))
        clear hb
        go_wp2_with fail
        go_roundg (17 - (k + 1))
        case measure => have := HK.out; omega
        case rel => exact ⟨k + 1, HK.out, rfl, by go_num, HM.out, LB.out⟩
      · rw [hc] at MK
        have HM := Lib.hid (knownTo_more hc HK.out)
        clear hc
        go_wp2_with fail
        refine (MK.out _).mono ?_
        rintro e wx ⟨rfl, hb⟩
        have LB := Lib.hid (HB.out.trans (hb.mono HB.out.size))
        clear hb
        go_wp2_with fail
        go_ret
        exact ⟨by rw [HM.out]; rfl, LB.out⟩
    · obtain rfl : k = 17 := by omega
      have HM := Lib.hid (show knownR code = false from HN.out)
      clear HN
      go_wp2_with fail
      go_ret
      exact ⟨by rw [HM.out]; rfl, HB.out⟩
end Go.Proofs.YtonfkaoobajbkaaDoor
