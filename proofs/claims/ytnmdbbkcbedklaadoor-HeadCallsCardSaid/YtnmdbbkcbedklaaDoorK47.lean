/-
  The contract of head.renew: strings are put into new memory: what lies there does not change. Condition: the lengths of the strings.
-/
import Derived.Deep.LoopGhost
import Derived.Test.YtnmdbbkcbedklaaDoorK46
import Derived.Test.YtnmdbbkcbedklaaDoorK02
import Derived.Test.YtnmdbbkcbedklaaDoorK05
namespace Go.Proofs.YtnmdbbkcbedklaaDoor
open Go.RowKit

/-- A string that lies in a cell of a block, at a place. -/
structure StrAt (W : World) (g i : Nat) (s : ByteArray) : Prop where
  at_ : ∃ cs t, W.heap[g]? = some (.cells cs t (0, 0)) ∧ cs[i]? = some (.string s)
  len : s.size ≤ 281474976710656
theorem StrAt.below {W W' : World} {g i : Nat} {s : ByteArray} (h : StrAt W g i s) (hb : Below W.heap.size W W') : StrAt W' g i s := by
  obtain ⟨cs, t, h1, h2⟩ := h.at_
  exact ⟨⟨cs, t, (hb.block g (lt_of_block h1)).trans h1, h2⟩, h.len⟩
theorem StrAt.cell {W : World} {g i : Nat} {s : ByteArray} (h : StrAt W g i s) : W.cell? ⟨g, i, none⟩ = some (.string s) := by
  obtain ⟨cs, t, h1, h2⟩ := h.at_
  exact (cell_of_row _ _ i _ _ _ h1).trans h2
theorem StrAt.fr {W : World} {g i : Nat} {s : ByteArray} (h : StrAt W g i s) : W.frozen? ⟨g, i, none⟩ = false := by
  obtain ⟨cs, t, h1, _⟩ := h.at_
  exact frozen_of_row _ _ _ _ _ h1
theorem StrAt.idem {W : World} {g i : Nat} {s : ByteArray} (h : StrAt W g i s) : W.setCell ⟨g, i, none⟩ (.string s) = W := by
  obtain ⟨cs, t, h1, h2⟩ := h.at_
  exact setCell_idem h1 h2
/-- Pointers in a row, each to a string. -/
def PtrsAt (W : World) (g : Nat) (qs : List (Nat × Nat)) : Prop := ∀ (j : Nat) (q : Nat × Nat), qs[j]? = some q → W.cell? ⟨g, j, none⟩ = some (.pointer (some ⟨q.1, q.2, none⟩)) ∧ ∃ s, StrAt W q.1 q.2 s
set_option maxHeartbeats 1000000 in
theorem renew_any (g n : Nat) (qs : List (Nat × Nat)) (w : World) (hg : g < w.heap.size) (hq : PtrsAt w g qs) (hn : qs.length = n) (hl : n ≤ 100) :
    Calls Tryd.prog 31 #[.slice (some ⟨g, 0, none⟩) n n] w fun e w' => e = .returned (.tuple #[]) ∧ Below w.heap.size w w' := by
  have HG := Lib.hid hg
  have HQ := Lib.hid hq
  have HN := Lib.hid hn
  have LB := Lib.hid (Below.refl w.heap.size w)
  have hl' : (n : Int) ≤ 100 := by omega
  clear hg hq hn hl
  go_enter Tryd.func31, Tryd.ntmps31
  go_wp2_with fail
  go_loopg [6] n (fun gk i wr => ∃ k : Nat, k ≤ n ∧ gk = n - k ∧ i = .int .i64 (k : Int) ∧ Below w.heap.size w wr)
  case atStart => exact ⟨0, Nat.zero_le _, rfl, rfl, LB.out⟩
  case round =>
    obtain ⟨k, hk, rfl, rfl, hb⟩ := hrel
    have B1 := Lib.hid hb
    by_cases hlt : k < n
    · obtain ⟨q, hq⟩ : ∃ q, qs[k]? = some q := ⟨_, List.getElem?_eq_getElem (by rw [HN.out]; exact hlt)⟩
      obtain ⟨h1, s, hs⟩ := HQ.out k q hq
      have c1 : wr.cell? ⟨g, k, none⟩ = some (.pointer (some ⟨q.1, q.2, none⟩)) := (hb.cell (p := ⟨g, k, none⟩) HG.out).trans h1
      have S1 := hs.below hb
      have c2 := S1.cell
      have HS1 := Lib.hid S1
      have CL1 := Lib.hid (fun W => clone_any s W S1.len)
      have HL := Lib.hid hlt
      have g1 : (k : Int) < (n : Int) := by omega
      obtain ⟨q1, q2⟩ := q
      clear h1 hs S1 hq hb hlt hk
      go_wp2_with fail
      refine (CL1.out _).mono ?_
      rintro e W2 ⟨rfl, hb⟩
      have S2 := Lib.hid (HS1.out.below hb)
      have B2 := Lib.hid (below_then B1.out hb)
      have f2 := S2.out.fr
      have c3 := S2.out.cell
      have ID := Lib.hid S2.out.idem
      clear hb c1 c2
      go_wp2_with fail
      go_roundg (n - (k + 1))
      case measure => have := HL.out; omega
      case rel => exact ⟨k + 1, by have := HL.out; omega, rfl, by go_num, by rw [ID.out]; exact B2.out⟩
    · obtain rfl : k = n := by omega
      go_wp2_with fail
      go_end0
      exact ⟨rfl, B1.out⟩
end Go.Proofs.YtnmdbbkcbedklaaDoor
