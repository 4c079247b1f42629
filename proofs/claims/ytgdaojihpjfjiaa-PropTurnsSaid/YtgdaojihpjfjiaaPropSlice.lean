/-
  A list of properties as it lies in memory. No condition.
-/
import Derived.Test.YtgdaojihpjfjiaaPropSize
namespace Go.Proofs.Ytgdaojihpjfjiaa
open Go.RowKit

/-- The list of properties l lies behind the address A. -/
def PL (W : World) (A : Option Addr) (l : List Pr) : Prop :=
  l ≠ [] → ∃ g i, A = some ⟨g, i, none⟩ ∧ g < W.heap.size ∧ ∀ j p, l[j]? = some p →
    W.cell? ⟨g, i + j * 4, none⟩ = some (.int .i64 p.id) ∧ W.cell? ⟨g, i + j * 4 + 1, none⟩ = some (.int .u32 p.n) ∧ W.cell? ⟨g, i + j * 4 + 2, none⟩ = some (.string (bs p.text)) ∧ W.cell? ⟨g, i + j * 4 + 3, none⟩ = some (.string (bs p.value))
theorem PL.nil {W : World} {A : Option Addr} : PL W A [] := fun h => absurd rfl h
theorem PL.kept {W W' : World} {A : Option Addr} {l : List Pr} (h : PL W A l) (hs : W.heap.size ≤ W'.heap.size) (hb : ∀ g i, A = some ⟨g, i, none⟩ → g < W.heap.size → W'.heap[g]? = W.heap[g]?) : PL W' A l := fun hne => by
  obtain ⟨g, i, e, hg, hc⟩ := h hne
  have he := hb g i e hg
  refine ⟨g, i, e, Nat.lt_of_lt_of_le hg hs, fun j p hj => ?_⟩
  obtain ⟨h0, h1, h2, h3⟩ := hc j p hj
  exact ⟨(World.cell?_of_block (a := ⟨g, i + j * 4, none⟩) he).trans h0, (World.cell?_of_block (a := ⟨g, i + j * 4 + 1, none⟩) he).trans h1, (World.cell?_of_block (a := ⟨g, i + j * 4 + 2, none⟩) he).trans h2, (World.cell?_of_block (a := ⟨g, i + j * 4 + 3, none⟩) he).trans h3⟩
theorem PL.below {W W' : World} {A : Option Addr} {l : List Pr} (h : PL W A l) (hb : Below W.heap.size W W') : PL W' A l := h.kept hb.size fun g _ _ hg => hb.block g hg
theorem PL.grown {W W' : World} {A : Option Addr} {l : List Pr} {b : Nat} (h : PL W A l) (hb : W.grownBy W' (some b)) (hne : ∀ g i, A = some ⟨g, i, none⟩ → g ≠ b) : PL W' A l := h.kept hb.size fun g i e hg => hb.block g hg (fun x => hne g i e (Option.some.inj x))
theorem PL.at {W : World} {A : Option Addr} {l : List Pr} (h : PL W A l) {j : Nat} {p : Pr} (hj : l[j]? = some p) : ∃ g i, A = some ⟨g, i, none⟩ ∧ g < W.heap.size ∧
    W.cell? ⟨g, i + j * 4, none⟩ = some (.int .i64 p.id) ∧ W.cell? ⟨g, i + j * 4 + 1, none⟩ = some (.int .u32 p.n) ∧ W.cell? ⟨g, i + j * 4 + 2, none⟩ = some (.string (bs p.text)) ∧ W.cell? ⟨g, i + j * 4 + 3, none⟩ = some (.string (bs p.value)) := by
  obtain ⟨g, i, e, hg, hc⟩ := h (by rintro rfl; simp at hj)
  exact ⟨g, i, e, hg, hc j p hj⟩
theorem PL.addr {W : World} {A : Option Addr} {l : List Pr} (h : PL W A l) (hne : l ≠ []) : ∃ g i, A = some ⟨g, i, none⟩ ∧ g < W.heap.size := by
  obtain ⟨g, i, e, hg, _⟩ := h hne
  exact ⟨g, i, e, hg⟩

theorem eachP_step (kind : Int) (pre : List Pr) (p : Pr) (l : List Pr) : eachP kind pre (p :: l) = if tallyP kind pre p ≠ 0 then tallyP kind pre p else eachP kind (pre ++ [p]) l := by
  rw [eachP]
  unfold tallyP
  by_cases h : checkP kind p ≠ 0
  · rw [if_pos h, if_pos h, if_pos h]
  · rw [if_neg h, if_neg h]
    by_cases h2 : twiceP kind pre p.id = true
    · rw [if_pos h2, if_pos h2]; rfl
    · rw [if_neg h2, if_neg h2]; rfl
theorem tally_check {kind : Int} {pre : List Pr} {p : Pr} (h : tallyP kind pre p = 0) : checkP kind p = 0 := by
  unfold tallyP at h
  by_cases hc : checkP kind p = 0
  · exact hc
  · rw [if_pos hc] at h; exact h
theorem TalL.lt {W : World} {b mb : Nat} {kind : Int} {l : List Pr} (h : TalL W b mb kind l) : b < W.heap.size ∧ mb < W.heap.size := by obtain ⟨s, h1, _⟩ := h; exact ⟨h1.lt, h1.mlt⟩
theorem TalL.below {W W' : World} {b mb : Nat} {kind : Int} {l : List Pr} (h : TalL W b mb kind l) (hb : Below W.heap.size W W') : TalL W' b mb kind l := by obtain ⟨s, h1, h2⟩ := h; exact ⟨s, h1.below hb h1.lt h1.mlt, h2⟩
theorem TalL.alloc {W : World} {b mb : Nat} {kind : Int} {l : List Pr} (h : TalL W b mb kind l) (o : Obj) : TalL (W.alloc o) b mb kind l := h.below ((Below.refl _ _).alloc (Nat.le_refl _) _)
theorem TalL.draws {W : World} {b mb : Nat} {kind : Int} {l : List Pr} (h : TalL W b mb kind l) (n : Nat) : TalL (W.drewN n) b mb kind l := h
/-- What stands while a list is measured: the property in block v, the tally. -/
def MeS (w : World) (b mb v : Nat) (kind : Int) (p : Pr) (pre : List Pr) (W : World) : Prop :=
  W.cell? ⟨v, 0, none⟩ = some (.int .i64 p.id) ∧ W.cell? ⟨v, 1, none⟩ = some (.int .u32 p.n) ∧ W.cell? ⟨v, 2, none⟩ = some (.string (bs p.text)) ∧ W.cell? ⟨v, 3, none⟩ = some (.string (bs p.value)) ∧
  W.cell? ⟨b, 1, none⟩ = some (.map (some mb)) ∧
  (Instr.lookup 51 (.map (some mb)) (.int .i64 p.id) false).run Try.prog W = .ok (ruleV (shapeP p.id) (maskP p.id) (prow p.id).least) W ∧
  (PropAt W v p ∧ TalL W b mb kind pre ∧ w.grownBy W (some b))
theorem MeS.mk {w W : World} {b mb v : Nat} {kind : Int} {p : Pr} {pre : List Pr} (ok : PrOk p) (h1 : PropAt W v p) (h2 : TalL W b mb kind pre) (h3 : w.grownBy W (some b)) : MeS w b mb v kind p pre W := by
  obtain ⟨s, t1, t2⟩ := h2
  exact ⟨h1.c0, h1.c1, h1.c2, h1.c3, t1.c1, t1.2.look ok.lo ok.hi, h1, ⟨s, t1, t2⟩, h3⟩
theorem MeS.call {w W W' : World} {b mb v : Nat} {kind : Int} {p : Pr} {pre : List Pr} (ok : PrOk p) (h : MeS w b mb v kind p pre W) (hb : Below W.heap.size W W') : MeS w b mb v kind p pre W' := by
  obtain ⟨_, _, _, _, _, _, h1, h2, h3⟩ := h
  exact MeS.mk ok (h1.below hb h1.lt) (h2.below hb) (grown_then h3 (grown_of_below hb _))
theorem MeS.drew {w W : World} {b mb v : Nat} {kind : Int} {p : Pr} {pre : List Pr} (ok : PrOk p) (h : MeS w b mb v kind p pre W) : MeS w b mb v kind p pre W.drew := by
  obtain ⟨_, _, _, _, _, _, h1, h2, h3⟩ := h
  exact MeS.mk ok h1 (h2.draws 1) h3.drew'
end Go.Proofs.Ytgdaojihpjfjiaa
