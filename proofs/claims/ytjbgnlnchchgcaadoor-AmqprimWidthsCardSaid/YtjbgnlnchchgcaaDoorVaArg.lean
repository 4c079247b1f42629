/-
  A value of AMQP that came in, as deep as it is. No condition.
-/
import Derived.Test.YtjbgnlnchchgcaaDoorLawKit
import Derived.Test.YtjbgnlnchchgcaaDoorVaPlain
namespace Go.Proofs.YtjbgnlnchchgcaaDoor
open Go.ChangeShapes Go.WideShapes Go.ChangeAt Go.RowKit

theorem int_wf {z : Int} (h : (Lit.int .u64 z).wf = true) : 0 ≤ z ∧ z < 18446744073709551616 := by
  have := u64_range h
  omega
theorem int_wf_i64 {z : Int} (h : (Lit.int .i64 z).wf = true) : -9223372036854775808 ≤ z ∧ z ≤ 9223372036854775807 := i64_range h
section
variable {H : Type} {enc : TypeId × Value → H} {W : World} {base : Nat} {sp : Nat → Bool} {held : Bool}
set_option maxRecDepth 100000 in
theorem value_of : ∀ (fuel : Nat) (cs : List Value) (y : DataW H × List MemPlace), DataW.trod enc Tryd.prog W base sp held fuel 26 cs = some y → ∃ v, cs = (avC v).toList ∧ VAt (fuel + 1) W v ∧ VOk (fuel + 1) v := by
  have hCi : Tryd.prog.cellsOf 3 = 1 := by kernel_rfl
  have hCu : Tryd.prog.cellsOf 23 = 1 := by kernel_rfl
  have hCs : Tryd.prog.cellsOf 9 = 1 := by kernel_rfl
  have hCl : Tryd.prog.cellsOf 24 = 1 := by kernel_rfl
  have hCv : Tryd.prog.cellsOf 26 = 4 := by kernel_rfl
  intro fuel
  induction fuel using Nat.strongRecOn with
  | ind fuel ih =>
  intro cs y hy
  obtain ⟨xs, n, rfl, -, hlen, hxl, hf⟩ := DataW.trod_struct Tryd.underlying26 hy
  rw [hCv] at hlen
  obtain ⟨c0, c1, c2, c3, rfl⟩ : ∃ c0 c1 c2 c3, cs = [c0, c1, c2, c3] := by
    match cs, hlen with
    | [a, b, c, d], _ => exact ⟨a, b, c, d, rfl⟩
  obtain ⟨x0, x1, x2, x3, rfl⟩ : ∃ x0 x1 x2 x3, xs = [x0, x1, x2, x3] := by
    match xs, hxl with
    | [a, b, c, d], _ => exact ⟨a, b, c, d, rfl⟩
  have f0 : DataW.trod enc Tryd.prog W base sp held n 3 [c0] = some x0 := by have h0 : DataW.trod enc Tryd.prog W base sp held n 3 (([c0, c1, c2, c3].drop 0).take (Tryd.prog.cellsOf 3)) = some x0 := hf 0 _ rfl; rw [hCi] at h0; exact h0
  have f1 : DataW.trod enc Tryd.prog W base sp held n 23 [c1] = some x1 := by have h0 : DataW.trod enc Tryd.prog W base sp held n 23 (([c0, c1, c2, c3].drop 1).take (Tryd.prog.cellsOf 23)) = some x1 := hf 1 _ rfl; rw [hCu] at h0; exact h0
  have f2 : DataW.trod enc Tryd.prog W base sp held n 9 [c2] = some x2 := by have h0 : DataW.trod enc Tryd.prog W base sp held n 9 (([c0, c1, c2, c3].drop 2).take (Tryd.prog.cellsOf 9)) = some x2 := hf 2 _ rfl; rw [hCs] at h0; exact h0
  have f3 : DataW.trod enc Tryd.prog W base sp held n 24 [c3] = some x3 := by have h0 : DataW.trod enc Tryd.prog W base sp held n 24 (([c0, c1, c2, c3].drop 3).take (Tryd.prog.cellsOf 24)) = some x3 := hf 3 _ rfl; rw [hCl] at h0; exact h0
  obtain ⟨k, e, _, rk⟩ := DataW.trod_int Tryd.underlying3 f0
  simp only [List.cons.injEq, and_true] at e
  subst e
  obtain ⟨z, e, _, rz⟩ := DataW.trod_int Tryd.underlying23 f1
  simp only [List.cons.injEq, and_true] at e
  subst e
  obtain ⟨s, e, _, rs⟩ := DataW.trod_string Tryd.underlying9 f2
  simp only [List.cons.injEq, and_true] at e
  subst e
  obtain ⟨N, rfl⟩ : ∃ N : Nat, z = (N : Int) := ⟨z.toNat, by
    have h := (int_wf rz).1
    omega⟩
  have rN : N < 18446744073709551616 := by
    have h := (int_wf rz).2
    omega
  have rk2 := int_wf_i64 rk
  have rs2 : s.data.toList.length ≤ 9223372036854775807 := by
    unfold maxLen at rs
    rw [Array.length_toList]
    exact rs
  rcases DataW.trod_slice Tryd.underlying24 f3 with ⟨e, -⟩ | ⟨a, len, cap, elems, rest, n', rfl, e, -, -, hlc, hcm, hel, hea, -, -⟩
  · simp only [List.cons.injEq, and_true] at e
    subst e
    refine ⟨.mk k N s.data.toList none 0 [], rfl, ⟨Nat.le_refl _, fun _ => rfl, fun h => absurd h (Nat.lt_irrefl _), fun x hx => nomatch hx⟩, ⟨rk2, rN, rs2, (by show 0 ≤ _; omega), fun x hx => nomatch hx⟩⟩
  · simp only [List.cons.injEq, and_true] at e
    subst e
    rw [hCv] at hea
    have each : ∀ i, i < len → ∃ v, W.cells? base (a.add (i * 4)) 4 = some (avC v).toList ∧ VAt (n' + 1 + 1) W v ∧ VOk (n' + 1 + 1) v := fun i hi => by
      have h := hea i hi
      rw [List.getElem?_eq_getElem (by omega)] at h
      cases hc : W.cells? base (a.add (i * 4)) 4 with
      | none => rw [hc] at h; cases h
      | some cs' =>
        rw [hc] at h
        obtain ⟨v, rfl, h1, h2⟩ := ih n' (by omega) cs' _ h
        exact ⟨v, rfl, h1.mono (by omega), h2.mono (by omega)⟩
    let g : Nat → Av := fun i => if h : i < len then Classical.choose (each i h) else default
    have hg : ∀ i, i < len → W.cells? base (a.add (i * 4)) 4 = some (avC (g i)).toList ∧ VAt (n' + 1 + 1) W (g i) ∧ VOk (n' + 1 + 1) (g i) := fun i h => by
      show W.cells? base (a.add (i * 4)) 4 = some (avC (if h : i < len then Classical.choose (each i h) else default)).toList ∧ VAt (n' + 1 + 1) W (if h : i < len then Classical.choose (each i h) else default) ∧ VOk (n' + 1 + 1) (if h : i < len then Classical.choose (each i h) else default)
      rw [dif_pos h]
      exact Classical.choose_spec (each i h)
    have hL : ((List.range len).map g).length = len := by simp
    have hget : ∀ (i : Nat) (x : Av), ((List.range len).map g)[i]? = some x → i < len ∧ x = g i := fun i x hx => by
      have hi : i < len := by
        have := (List.getElem?_eq_some_iff.1 hx).1
        rwa [hL] at this
      refine ⟨hi, ?_⟩
      rw [List.getElem?_map, List.getElem?_range hi] at hx
      exact (Option.some.inj hx).symm
    have hmem : ∀ x ∈ (List.range len).map g, ∃ i, i < len ∧ x = g i := fun x hx => by
      obtain ⟨i, hi, rfl⟩ := List.mem_map.1 hx
      exact ⟨i, List.mem_range.1 hi, rfl⟩
    have hcell : ∀ i, i < len → ∀ (j : Nat) (u : Value), (avC (g i))[j]? = some u → W.cell? (a.add (i * 4 + j)) = some u := fun i hi j u hu => by
      obtain ⟨-, hcl, hat⟩ := World.cells?_some (hg i hi).1
      have hj : j < 4 := by
        have := (Array.getElem?_eq_some_iff.1 hu).1
        exact this
      have h := hat j hj
      rw [add_twice] at h
      rw [h]
      simpa using hu
    refine ⟨.mk k N s.data.toList (some a) cap ((List.range len).map g), ?_, ⟨?_, (fun e => nomatch e), (fun h0 => ⟨a, rfl, ?_, fun i x hx j u hu => ?_⟩), fun x hx => ?_⟩, ⟨rk2, rN, rs2, ?_, fun x hx => ?_⟩⟩
    · simp only [avC, Av.kind, Av.n, Av.text, Av.A, Av.items, Av.cap, hL]
      rfl
    · show ((List.range len).map g).length ≤ cap
      rw [hL]; exact hlc
    · have h0' : 0 < len := by
        have : 0 < ((List.range len).map g).length := h0
        rwa [hL] at this
      have := World.block_lt_of_cell? W _ (hcell 0 h0' 0 (.int .i64 (g 0).kind) rfl)
      rwa [addr_blk] at this
    · obtain ⟨hi, rfl⟩ := hget i x hx
      exact hcell i hi j u hu
    · obtain ⟨i, hi, rfl⟩ := hmem x hx
      exact (hg i hi).2.1
    · show cap ≤ _
      unfold maxLen at hcm
      exact hcm
    · obtain ⟨i, hi, rfl⟩ := hmem x hx
      exact (hg i hi).2.2
end
set_option maxRecDepth 100000 in
theorem value_arg {H : Type} {enc : TypeId × Value → H} {W : World} {base b0 : Nat} {sp : Nat → Bool} {held : Bool} {r : Reach} {x : Value} {d : DataW H} {ps : List MemPlace}
    (hval : Value.okWide Tryd.prog W r b0 26 x) (h : DataW.Trod enc Tryd.prog W base sp held 26 x d ps) : ∃ (q : Nat) (v : Av), x = .agg (avC v) ∧ VAt q W v ∧ VOk q v := by
  obtain ⟨fuel, hf⟩ := h
  obtain ⟨v, h1, h2, h3⟩ := value_of fuel _ _ hf
  unfold Value.okWide at hval
  rw [Tryd.underlying26] at hval
  obtain ⟨cs, rfl, -, -⟩ := hval
  refine ⟨fuel + 1, v, ?_, h2, h3⟩
  have : cs = avC v := Array.toList_inj.1 h1
  rw [this]
end Go.Proofs.YtjbgnlnchchgcaaDoor
