/-
  Lists of integers as they lie in memory, and a row of strings that is gathered. Condition: at most 2,000 strings.
-/
import Derived.Laws.IdiomCopy
import Derived.Test.YtecadfnajogffaaTopStr
import Derived.Test.YtecadfnajogffaaCl
import Derived.Test.YtecadfnajogffaaAppEq
import Derived.Test.YtecadfnajogffaaChkPlain
namespace Go.Proofs.Ytecadfnajogffaa
open Go.RowKit

/-- Integers as cells. -/
def zcs (l : List Int) : List Value := l.map (Value.int .i64)
theorem zcs_length (l : List Int) : (zcs l).length = l.length := by simp [zcs]
theorem zcs_one (l : List Int) : ∀ u ∈ zcs l, u.oneCell' = true := fun u hu => by
  unfold zcs at hu
  obtain ⟨z, _, rfl⟩ := List.mem_map.1 hu
  rfl
theorem zcs_get {l : List Int} {j : Nat} (h : j < l.length) : (zcs l)[j]? = some (.int .i64 (l.getD j 0)) := by
  simp [zcs, List.getD, List.getElem?_eq_getElem h]
/-- The integers zs lie behind the address A, wherever it points. -/
def IR (W : World) (A : Option Addr) (zs : List Int) : Prop :=
  0 < zs.length → ∃ a, A = some a ∧ a.block < W.heap.size ∧ ∀ i, i < zs.length → W.cell? (a.add i) = some (.int .i64 (zs.getD i 0))
theorem addr_block (a : Addr) (k : Nat) : (a.add k).block = a.block := by
  obtain ⟨b, o, s⟩ := a
  unfold Addr.add
  split <;> rfl
theorem IR.kept {W W' : World} {A : Option Addr} {zs : List Int} (h : IR W A zs) (hb : Below W.heap.size W W') : IR W' A zs := fun hne => by
  obtain ⟨a, e, hg, hc⟩ := h hne
  exact ⟨a, e, Nat.lt_of_lt_of_le hg hb.size, fun i hi => (World.cell?_of_block (a := a.add i) (by rw [addr_block]; exact hb.block _ hg)).trans (hc i hi)⟩
theorem IR.nil {W : World} {A : Option Addr} : IR W A [] := fun h => absurd h (Nat.lt_irrefl _)
theorem IR.alloc {W : World} (zs : List Int) (t : TypeId) : IR (W.alloc (.cells (zcs zs).toArray t)) (some ⟨W.heap.size, 0, none⟩) zs := fun _ =>
  ⟨_, rfl, by simp, fun i hi => by
    rw [Addr.add_lit, Nat.zero_add, World.cell?_alloc_at _ _ _ _ rfl]
    simpa using zcs_get hi⟩
theorem row_below {w w' : World} {base n size : Nat} {t : TypeId} {v : Value} {xs : List Value} (h : w.ownsRow base t size v n xs) (hb : Below w.heap.size w w') : w'.ownsRow base t size v n xs :=
  h.kept (row := none) ⟨hb.os, hb.tape, hb.output, hb.size, fun k hk _ => hb.block k hk⟩ (by cases v.ownBlock <;> simp)
theorem below_cells {B : Nat} {w : World} {b : Nat} (hB : B ≤ b) : ∀ (vs : List Value) (o : Nat) (W : World), Below B w W → Below B w (W.setCells b o vs)
  | [], _, _, h => h
  | v :: vs, o, W, h => by
    rw [World.setCells]
    exact below_cells hB vs (o + 1) _ (h.setCell (p := ⟨b, o, none⟩) hB v)

/-- What a list of strings returns that is made. -/
def ChkRet (w : World) (l : List (List UInt8)) (e : Ending) (W : World) : Prop :=
  ∃ A c, e = .returned (.slice A l.length c) ∧ SR W A l ∧ Below w.heap.size w W ∧ ∀ i j, A = some ⟨i, j, none⟩ → w.heap.size ≤ i
theorem ChkRet.since {w w1 W : World} {l : List (List UInt8)} {e : Ending} (hb : Below w.heap.size w w1) (h : ChkRet w1 l e W) : ChkRet w l e W := by
  obtain ⟨A, c, h1, h2, h3, h4⟩ := h
  exact ⟨A, c, h1, h2, hb.trans (h3.mono hb.size), fun i j e => Nat.le_trans hb.size (h4 i j e)⟩
/-- What stands while strings are gathered. -/
structure ChS (w : World) (G : List (List UInt8)) (x : Value) (W : World) : Prop where
  low : Below w.heap.size w W
  own : W.ownsRow w.heap.size 9 1 x G.length (strs G)
theorem infoChk : (Try.prog.info? 9).map (fun i => (i.zero, i.size, i.bytes)) = some (some (.string .empty), 1, 16) := by kernel_rfl
section
variable {w W W' : World} {G : List (List UInt8)} {x x' : Value}
theorem ChS.call (h : ChS w G x W) (hb : Below W.heap.size W W') : ChS w G x W' := ⟨h.low.trans (hb.mono h.low.size), row_below h.own hb⟩
theorem ChS.app (h : ChS w G x W) (p : List UInt8) (hG : G.length ≤ 2000) (n : Nat) : ∃ x' W', (Builtin.append_ #[24, 24] 24 #[x, .slice (some ⟨W.heap.size, 0, none⟩) 1 1]).run Try.prog ((W.alloc (.cells #[.string (bs p)] 9)).drewN n) = .ok x' W' ∧ ChS w (G ++ [p]) x' W' := by
  obtain ⟨i0, hi, hz0, hz1, hz2⟩ := info_parts infoChk
  have SA : ChS w G x ((W.alloc (.cells #[.string (bs p)] 9)).drewN n) := h.call (below_draws ((Below.refl _ _).alloc (Nat.le_refl _) _) n)
  obtain ⟨x', W', hr, ho, hg, -, hor⟩ := run_append_own_at (P := Try.prog) ((W.alloc (.cells #[.string (bs p)] 9)).drewN n) w.heap.size 24 24 9 i0 (.string .empty) 1 16 Try.underlying24 hi hz0 hz1 hz2 rfl (by decide) x G.length (strs G) SA.own ⟨W.heap.size, 0, none⟩ 1 1 [.string (bs p)] rfl
    (fun j u hj => by
      rw [Addr.add_lit, Nat.zero_add]
      refine (show ((W.alloc (.cells #[.string (bs p)] 9)).drewN n).cell? ⟨W.heap.size, j, none⟩ = (W.alloc (.cells #[.string (bs p)] 9)).cell? ⟨W.heap.size, j, none⟩ from rfl).trans ?_
      rw [World.cell?_alloc_at _ _ _ _ rfl]
      simpa using hj) (by simp [Value.oneCell']) (by simp only [maxLen]; omega) (by omega) SA.low.size
  refine ⟨x', W', hr, SA.low.grown hg SA.low.size (fun j hj => (SA.own.lt j hj).1), ?_⟩
  rw [List.length_append]
  have e : strs (G ++ [p]) = strs G ++ [.string (bs p)] := by simp [strs]
  rw [e]
  exact ho
theorem ChS.ret (h : ChS w G x W) : ChkRet w G (.returned x) W := by
  obtain ⟨A, c, hx, -, hcl, hnew⟩ := CL.owned h.own (by simp [strs])
  refine ⟨A, c, by rw [hx], fun hne => ?_, h.low, hnew⟩
  obtain ⟨g, i, e, hg, hc⟩ := hcl (fun e => hne (List.map_eq_nil_iff.1 e))
  exact ⟨g, i, e, hg, fun j hj => hc j _ (by simp [strs, List.getD, List.getElem?_eq_getElem hj])⟩
end
end Go.Proofs.Ytecadfnajogffaa
