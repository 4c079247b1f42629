/-
  What prop.Bytes gathers: the strings that are joined, and what stands meanwhile. No condition.
-/
import Derived.Deep.AppendLies
import Derived.OwnWalk
import Derived.Test.YtgdaojihpjfjiaaPropValue
import Derived.Test.YtgdaojihpjfjiaaPropGood
import Derived.Test.YtgdaojihpjfjiaaShJoin
import Derived.Test.YtgdaojihpjfjiaaTopStr
namespace Go.Proofs.Ytgdaojihpjfjiaa
open Go.RowKit Go.Shelf

theorem infoStr : (Try.prog.info? 9).map (fun i => (i.zero, i.size, i.bytes)) = some (some (.string .empty), 1, 16) := by kernel_rfl
/-- The strings that are joined. -/
def partsP (L : List UInt8) (l : List Pr) : List (List UInt8) := L :: l.flatMap fun p => [be p.id.toNat 1, valueP p]
theorem partsP_nil (L : List UInt8) : partsP L [] = [L] := rfl
theorem partsP_snoc (L : List UInt8) (l : List Pr) (p : Pr) : partsP L (l ++ [p]) = partsP L l ++ [be p.id.toNat 1, valueP p] := by simp [partsP]
theorem partsP_length (L : List UInt8) : ∀ (l : List Pr), (partsP L l).length = 1 + 2 * l.length
  | [] => rfl
  | p :: l => by
    have := partsP_length L l
    unfold partsP at this ⊢
    rw [List.length_cons] at this
    rw [List.length_cons, List.flatMap_cons, List.length_append, List.length_cons]
    simp only [List.length_cons, List.length_nil]
    omega
theorem be_one (n : Nat) : be n 1 = [UInt8.ofNat n] := by simp [be]
theorem partsP_flat (L : List UInt8) (l : List Pr) : (partsP L l).flatten = L ++ bodyP l := by
  unfold partsP
  rw [List.flatten_cons]
  congr 1
  induction l with
  | nil => rfl
  | cons p l ih =>
    rw [List.flatMap_cons, List.flatten_append, ih, bodyP_cons]
    congr 1
    simp [oneP, be_one]
theorem strs_append (a b : List (List UInt8)) : strs (a ++ b) = strs a ++ strs b := by simp [strs]
theorem strs_len (a : List (List UInt8)) : (strs a).length = a.length := by simp [strs]
theorem join_nil (ls : List (List UInt8)) : Lib.join ls [] = ls.flatten := by
  cases ls with
  | nil => rfl
  | cons a r =>
    rw [Lib.join_cons]
    unfold Lib.joinTail
    simp
/-- Joined, the strings are one after the other. -/
theorem join_parts (g i c : Nat) (ls : List (List UInt8)) (w : World) (hcell : ∀ j, j < ls.length → w.cell? ⟨g, i + j, none⟩ = some (.string (bs (ls.getD j [])))) (hg : g < w.heap.size) (hc : ls.length ≤ c) (hl : ls.flatten.length ≤ 4000000000) (hN : ls.length ≤ 4000000000) :
    Calls Try.prog 38 #[.slice (some ⟨g, i, none⟩) ls.length c, .string ⟨#[]⟩] w fun e w' => e = .returned (.string (bs ls.flatten)) ∧ Below w.heap.size w w' := by
  have e1 : (ls.map bs).map (·.data.toList) = ls := by rw [List.map_map]; simp [Function.comp_def, bs_data]
  have := Any.strings_Join lays156 Builder_Extra_156 g i c (ls.map bs) ⟨#[]⟩ w (fun j x hx => by
    have hj : j < ls.length := by
      have := (List.getElem?_eq_some_iff.1 hx).1
      simpa using this
    rw [hcell j hj]
    rw [List.getElem?_map, List.getElem?_eq_getElem hj] at hx
    simp only [Option.map_some, Option.some.injEq] at hx
    rw [← hx]
    simp [List.getD, List.getElem?_eq_getElem hj]) hg (by simp; omega) (by simp; omega) (by rw [e1]; show (Lib.join ls []).length ≤ _; rw [join_nil]; omega)
  rw [e1, List.length_map] at this
  have e2 : Lib.join ls (ByteArray.mk #[]).data.toList = ls.flatten := join_nil ls
  rw [e2] at this
  exact this

/-- What stands while a list's bytes are gathered: the property in block v, the tally, what was there ahead of the row. -/
def ByS (w3 : World) (b mb v : Nat) (kind : Int) (p : Pr) (l : List Pr) (W : World) : Prop :=
  W.cell? ⟨v, 0, none⟩ = some (.int .i64 p.id) ∧ W.cell? ⟨v, 1, none⟩ = some (.int .u32 p.n) ∧ W.cell? ⟨v, 2, none⟩ = some (.string (bs p.text)) ∧ W.cell? ⟨v, 3, none⟩ = some (.string (bs p.value)) ∧
  W.cell? ⟨b, 1, none⟩ = some (.map (some mb)) ∧
  (Instr.lookup 51 (.map (some mb)) (.int .i64 p.id) false).run Try.prog W = .ok (.agg #[.int .i64 (shapeP p.id : Nat), .int .u32 (maskP p.id : Nat), .int .u32 ((prow p.id).least : Nat)]) W ∧
  (PropAt W v p ∧ TalL W b mb kind l ∧ Below w3.heap.size w3 W ∧ PrOk p ∧ b < w3.heap.size ∧ mb < w3.heap.size ∧ w3.heap.size ≤ v)
section
variable {w3 W W' : World} {b mb v : Nat} {kind : Int} {p : Pr} {l : List Pr}
theorem ByS.mk (ok : PrOk p) (h1 : PropAt W v p) (h2 : TalL W b mb kind l) (h3 : Below w3.heap.size w3 W) (hb : b < w3.heap.size) (hm : mb < w3.heap.size) (hv : w3.heap.size ≤ v) : ByS w3 b mb v kind p l W := by
  obtain ⟨s, t1, t2⟩ := h2
  exact ⟨h1.c0, h1.c1, h1.c2, h1.c3, t1.c1, t1.2.look ok.lo ok.hi, h1, ⟨s, t1, t2⟩, h3, ok, hb, hm, hv⟩
theorem ByS.call (h : ByS w3 b mb v kind p l W) (hb : Below W.heap.size W W') : ByS w3 b mb v kind p l W' := by
  obtain ⟨_, _, _, _, _, _, h1, h2, h3, ok, k1, k2, k3⟩ := h
  exact ByS.mk ok (h1.below hb h1.lt) (h2.below hb) (h3.trans (hb.mono h3.size)) k1 k2 k3
theorem ByS.alloc (h : ByS w3 b mb v kind p l W) (o : Obj) : ByS w3 b mb v kind p l (W.alloc o) := h.call ((Below.refl _ _).alloc (Nat.le_refl _) _)
theorem ByS.drew (h : ByS w3 b mb v kind p l W) : ByS w3 b mb v kind p l W.drew := by
  obtain ⟨_, _, _, _, _, _, h1, h2, h3, ok, k1, k2, k3⟩ := h
  exact ByS.mk ok h1 (h2.draws 1) h3.drew k1 k2 k3
theorem ByS.app (h : ByS w3 b mb v kind p l W) {r : Option Nat} (hg : W.grownBy W' r) (hr : ∀ k, r = some k → w3.heap.size ≤ k ∧ k < v) : ByS w3 b mb v kind p l W' := by
  obtain ⟨_, _, _, _, _, _, h1, ⟨s, t1, t2⟩, h3, ok, k1, k2, k3⟩ := h
  refine ByS.mk ok (h1.of_block (hg.block v h1.lt (fun e => by have := (hr v e.symm).2; omega))) ⟨s, t1.of_block (hg.block b t1.lt (fun e => by have := (hr b e.symm).1; omega)) (hg.block mb t1.mlt (fun e => by have := (hr mb e.symm).1; omega)), t2⟩ ?_ k1 k2 k3
  exact h3.grown hg h3.size (fun k e => (hr k e).1)
end
theorem ByS.base {w3 W : World} {b mb v : Nat} {kind : Int} {p : Pr} {l : List Pr} (h : ByS w3 b mb v kind p l W) (o : Obj) : w3.heap.size ≤ (W.alloc o).heap.size := by
  have := h.2.2.2.2.2.2.2.2.1.size
  rw [World.size_alloc]
  omega
theorem own_below {W W' : World} {base : Nat} {e : TypeId} {size n : Nat} {v : Value} {xs : List Value} (h : W.ownsRow base e size v n xs) (hb : Below W.heap.size W W') : W'.ownsRow base e size v n xs := by
  refine ⟨h.1, ?_⟩
  rcases h.2 with h2 | ⟨g, cap, cur, hv, h3, hg, h4⟩
  · exact .inl h2
  · exact .inr ⟨g, cap, cur, hv, h3, (hb.block g (Array.getElem?_eq_some_iff.1 hg).1).trans hg, h4⟩
end Go.Proofs.Ytgdaojihpjfjiaa
