/-
  A header that came in as a struct: what it holds. No condition.
-/
import Derived.Test.YtnmdbbkcbedklaaDoorK01
import Derived.Test.YtnmdbbkcbedklaaDoorK20
namespace Go.Proofs.YtnmdbbkcbedklaaDoor
open Go.ChangeShapes Go.WideShapes Go.ChangeAt Go.RowKit

set_option maxRecDepth 100000 in
theorem head_arg {H : Type} {enc : TypeId × Value → H} {W : World} {base b0 : Nat} {sp : Nat → Bool} {held : Bool} {r : Reach} {v : Value} {d : DataW H} {ps : List MemPlace}
    (hval : Value.okWide Tryd.prog W r b0 26 v) (h : DataW.Trod enc Tryd.prog W base sp held 26 v d ps) :
    ∃ x : Hd, v = hdV x := by
  have hC : Tryd.prog.cellsOf 26 = 3 := by kernel_rfl
  have hCi : Tryd.prog.cellsOf 3 = 1 := by kernel_rfl
  obtain ⟨cs, rfl, hc⟩ := okWide_struct Tryd.underlying26 hval
  rw [hC] at hc
  obtain ⟨c0, c1, c2, rfl⟩ : ∃ c0 c1 c2, cs = #[c0, c1, c2] := by
    rcases cs with ⟨l⟩
    match l, hc with
    | [a, b, c], _ => exact ⟨a, b, c, rfl⟩
  obtain ⟨fuel, hf⟩ := h
  obtain ⟨ys, n', _, hD, _, hyl, hfld⟩ := DataW.trod_struct Tryd.underlying26 hf
  obtain ⟨y0, y1, y2, rfl⟩ : ∃ y0 y1 y2, ys = [y0, y1, y2] := by
    match ys, hyl with
    | [a, b, c], _ => exact ⟨a, b, c, rfl⟩
  have f0 : DataW.trod enc Tryd.prog W base sp held n' 3 [c0] = some y0 := by have := hfld 0 _ rfl; simpa [Value.cells, hCi] using this
  have f1 : DataW.trod enc Tryd.prog W base sp held n' 3 [c1] = some y1 := by have := hfld 1 _ rfl; simpa [Value.cells, hCi] using this
  have f2 : DataW.trod enc Tryd.prog W base sp held n' 3 [c2] = some y2 := by have := hfld 2 _ rfl; simpa [Value.cells, hCi] using this
  obtain ⟨z0, e0, _, _⟩ := DataW.trod_int Tryd.underlying3 f0
  obtain ⟨z1, e1, _, _⟩ := DataW.trod_int Tryd.underlying3 f1
  obtain ⟨z2, e2, _, _⟩ := DataW.trod_int Tryd.underlying3 f2
  simp only [List.cons.injEq, and_true] at e0 e1 e2
  subst e0 e1 e2
  exact ⟨⟨z0, z1, z2⟩, rfl⟩
end Go.Proofs.YtnmdbbkcbedklaaDoor
