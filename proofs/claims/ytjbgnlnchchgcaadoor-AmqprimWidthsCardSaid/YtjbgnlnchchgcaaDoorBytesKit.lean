/-
  A string made of an owned row of bytes. No condition.
-/
import Derived.Test.YtjbgnlnchchgcaaDoorKit
namespace Go.Proofs.YtjbgnlnchchgcaaDoor
open Go.RowKit

theorem info5 : (Tryd.prog.info? 5).map (fun i => (i.zero, i.size, i.bytes)) = some (some (.int .u8 0), 1, 1) := by kernel_rfl

theorem conv_own {w : World} {base : Nat} {v : Value} {n : Nat} (l : List UInt8) (h : w.ownsRow base 5 1 v n (l.map u8v)) :
    (convert 93 9 v).run Tryd.prog w = .ok (.string (bs l)) w := by
  have hl : l.length = n := by have := h.1; simpa using this
  rcases h.2 with ⟨rfl, hn⟩ | ⟨g, cap, cur, rfl, _⟩
  · have : l = [] := List.eq_nil_of_length_eq_zero (by omega)
    subst this
    exact run_convert_bytes_nil w 93 5 Tryd.underlying93 Tryd.underlying5 0 0 9 Tryd.underlying9
  · have hc := h.cells (g := g) rfl
    have e := run_convert_bytes_arg (P := Tryd.prog) w 93 5 Tryd.underlying93 Tryd.underlying5 g 0 n cap (l.map fun b => (b.toNat : Int)) (by simp [hl]) (fun i hi => by
      have := hc i (u8v (l.getD i 0)) (by simp [List.getElem?_eq_getElem (show i < l.length by omega)])
      have hadd : (⟨g, 0, none⟩ : Addr).add i = ⟨g, 0 + i, none⟩ := by unfold Addr.add; split <;> simp_all
      rw [hadd] at this
      rw [this]
      simp [u8v, List.getD, List.getElem?_eq_getElem (show i < l.length by omega)]) 9 Tryd.underlying9
    rw [e]
    simp [bs, strOfNums, Function.comp_def]

end Go.Proofs.YtjbgnlnchchgcaaDoor
