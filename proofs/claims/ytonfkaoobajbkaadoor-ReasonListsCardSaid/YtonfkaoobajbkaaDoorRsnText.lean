/-
  A code's text: reason.Text. Condition: the table of math/bits reads as the program's text lays it.
-/
import Derived.Test.YtonfkaoobajbkaaDoorRsnFmt
import Derived.Test.YtonfkaoobajbkaaDoorRsnKnown
namespace Go.Proofs.YtonfkaoobajbkaaDoor
open Go.RowKit

def textS (code : Int) : ByteArray := ⟨(textR code).toArray⟩
set_option maxRecDepth 100000 in
theorem text_any (code : Int) (w : World) (ht : Tabs w) :
    Calls Tryd.prog 16 #[.int .i64 code] w fun e w' => e = .returned (.string (textS code)) ∧ Below w.heap.size w w' := by
  have KN := Lib.hid (known_any code w)
  cases hk : knownR code
  · rw [hk] at KN
    have HX := Lib.hid (show textS code = ⟨#[63]⟩ by unfold textS textR; rw [hk]; rfl)
    clear hk ht
    go_enter Tryd.func16, Tryd.ntmps16
    go_wp2_with fail
    refine KN.out.mono ?_
    rintro e w1 ⟨rfl, hb⟩
    have HB := Lib.hid hb
    clear hb
    go_wp2_with fail
    go_ret
    exact ⟨by rw [HX.out]; rfl, HB.out⟩
  · rw [hk] at KN
    obtain ⟨r0, r1⟩ := known_range hk
    have HX := Lib.hid (show textS code = ⟨#[hexD (code.toNat / 16), hexD (code.toNat % 16)]⟩ by unfold textS textR; rw [hk]; rfl)
    have FM := Lib.hid (fun W (h : Tabs W) => fmt_16 (code.toNat / 16) (code.toNat % 16) W h (by omega) (by omega))
    rw [show (((256 + 16 * (code.toNat / 16) + code.toNat % 16 : Nat)) : Int) = code + 256 by omega] at FM
    generalize hexD (code.toNat / 16) = x at *
    generalize hexD (code.toNat % 16) = y at *
    have HT := Lib.hid ht
    have E1 : (⟨#[49, x, y]⟩ : ByteArray).extract 1 3 = ⟨#[x, y]⟩ := rfl
    have E2 : (⟨#[49, x, y]⟩ : ByteArray).size = 3 := rfl
    clear hk ht
    go_enter Tryd.func16, Tryd.ntmps16
    go_wp2_with fail
    refine KN.out.mono ?_
    rintro e w1 ⟨rfl, hb⟩
    have HB := Lib.hid hb
    have FW := Lib.hid (FM.out _ (HT.out.below hb))
    clear hb
    go_wp2_with fail
    refine FW.out.mono ?_
    rintro e w2 ⟨rfl, hb⟩
    have HB2 := Lib.hid (HB.out.trans (hb.mono HB.out.size))
    clear hb
    go_wp2_with fail
    go_ret
    exact ⟨by rw [HX.out]; rfl, HB2.out⟩
end Go.Proofs.YtonfkaoobajbkaaDoor
