/-
  A list of cells as it lies in memory behind an address, whatever the cells: what keeps it, rows that a call has made. No program. Condition: none.
-/
import Derived.Lib.Hide
import Derived.WalkKit
import Derived.OwnWalk
namespace Go.Proofs.YtjbgnlnchchgcaaDoor
open Go.RowKit

/-- The cells cs lie behind the address A. -/
def CL (W : World) (A : Option Addr) (cs : List Value) : Prop :=
  cs ≠ [] → ∃ g i, A = some ⟨g, i, none⟩ ∧ g < W.heap.size ∧ ∀ j u, cs[j]? = some u → W.cell? ⟨g, i + j, none⟩ = some u
section
variable {W W' : World} {A : Option Addr} {cs : List Value}
theorem CL.nil : CL W A [] := fun h => absurd rfl h
theorem CL.kept (h : CL W A cs) (hs : W.heap.size ≤ W'.heap.size) (hb : ∀ g i, A = some ⟨g, i, none⟩ → g < W.heap.size → W'.heap[g]? = W.heap[g]?) : CL W' A cs := fun hne => by
  obtain ⟨g, i, e, hg, hc⟩ := h hne
  have he := hb g i e hg
  exact ⟨g, i, e, Nat.lt_of_lt_of_le hg hs, fun j u hj => (World.cell?_of_block (a := ⟨g, i + j, none⟩) he).trans (hc j u hj)⟩
theorem CL.below (h : CL W A cs) (hb : Below W.heap.size W W') : CL W' A cs := h.kept hb.size fun g _ _ hg => hb.block g hg
theorem CL.addr (h : CL W A cs) (hne : cs ≠ []) : ∃ g i, A = some ⟨g, i, none⟩ ∧ g < W.heap.size := by
  obtain ⟨g, i, e, hg, _⟩ := h hne
  exact ⟨g, i, e, hg⟩
theorem CL.of_cells {g : Nat} {xs : Array Value} {t : TypeId} (hg : W.heap[g]? = some (.cells xs t (0, 0))) (h : ∀ (j : Nat) (u : Value), cs[j]? = some u → xs[j]? = some u) : CL W (some ⟨g, 0, none⟩) cs := fun _ =>
  ⟨g, 0, rfl, lt_of_block hg, fun j u hj => by
    rw [cell_of_row W g _ xs _ _ hg, Nat.zero_add]
    exact h j u hj⟩
theorem CL.owned {base n s : Nat} {v : Value} {t : TypeId} (h : W.ownsRow base t s v n cs) (hn : cs.length = n * s) :
    ∃ A c, v = .slice A n c ∧ n ≤ c ∧ CL W A cs ∧ ∀ g i, A = some ⟨g, i, none⟩ → base ≤ g := by
  rcases h.2 with ⟨rfl, h0⟩ | ⟨g, cap, cur, rfl, hb, hg, hc, _, _, hcur⟩
  · subst h0
    have : cs = [] := List.length_eq_zero_iff.1 (by rw [hn, Nat.zero_mul])
    subst this
    exact ⟨none, 0, rfl, Nat.le_refl _, CL.nil, fun g i e => by cases e⟩
  · refine ⟨_, cap, rfl, hc, CL.of_cells hg (fun j u hu => ?_), fun g' i e => by cases e; exact hb⟩
    rw [← hcur] at hu
    have hj : j < n * s := by
      have := (List.getElem?_eq_some_iff.1 hu).1
      rw [List.length_take] at this; omega
    rw [List.getElem?_take_of_lt hj] at hu
    simpa using hu
end
/-- A store of what lies there. -/
theorem setCell_idem {w : World} {g i : Nat} {v : Value} {cs : Array Value} {t : TypeId} {fr : Nat × Nat} (hg : w.heap[g]? = some (.cells cs t fr)) (hv : cs[i]? = some v) : w.setCell ⟨g, i, none⟩ v = w := by
  rw [setCell_eq_setRow w g i cs t fr v hg]
  have e : cs.setIfInBounds i v = cs := by
    obtain ⟨hi, hv⟩ := Array.getElem?_eq_some_iff.1 hv
    apply Array.ext
    · simp
    · intro j h1 h2
      rw [Array.getElem_setIfInBounds]
      split
      · rename_i h; subst h; exact hv.symm
      · rfl
  rw [e]
  have key : (w.setRow g cs).heap = w.heap := by
    apply Array.ext_getElem?
    intro k
    by_cases hk : k = g
    · subst hk; rw [setRow_heap w k cs cs t fr hg, hg]
    · exact setRow_other w g k cs hk
  show ({ w with heap := (w.setRow g cs).heap } : World) = w
  rw [key]
end Go.Proofs.YtjbgnlnchchgcaaDoor
