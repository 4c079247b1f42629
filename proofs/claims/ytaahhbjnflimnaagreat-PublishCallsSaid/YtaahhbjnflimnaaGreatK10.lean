/-
  A store into a cell of a row. No condition.
  A list's bytes are few. No program. No condition.
  The contract of reason.Return. Condition: none.
  The sets of reason codes: (set).and, of, codes, (set).has, May. Condition: codes below 256.
  What a kind may have: reason.codes. Condition: none.
  Whether a kind may have a code: (set).has, May. Condition: none.
-/
import Derived.Laws.ResultCell
import Derived.Below
import Derived.Lib.Hide
import Derived.StillTailTactics
import Derived.Deep.LoopGhost
import Derived.Test.YtaahhbjnflimnaaGreatK03
import Derived.Test.YtaahhbjnflimnaaGreatK04
import Derived.Test.YtaahhbjnflimnaaGreatK09
import Derived.Test.YtaahhbjnflimnaaGreatRows
namespace Go.Proofs.YtaahhbjnflimnaaGreat
open Go.RowKit

theorem below_set {w W : World} {B b j : Nat} {u : Value} (h : Below B w W) (hb : B ≤ b) : Below B w (W.setCell ⟨b, j, none⟩ u) := h.setCell (show B ≤ (⟨b, j, none⟩ : Addr).block from hb) u
theorem own_row_set {W : World} {b j : Nat} {u : Value} {C D : Array Value} {t : TypeId} (h : W.heap[b]? = some (.cells C t (0, 0))) (he : C.setIfInBounds j u = D) : (W.setCell ⟨b, j, none⟩ u).heap[b]? = some (.cells D t (0, 0)) := by
  have := setCell_block h j u
  rw [he] at this
  exact this
end Go.Proofs.YtaahhbjnflimnaaGreat
namespace Go.Proofs.YtaahhbjnflimnaaGreat
open Go.RowKit

theorem tail_len {v kind : Int} {l : List Pr} (h : rightC v kind l = 0) : (tailC v kind l).length ≤ 300000000 := by
  unfold tailC
  unfold rightC at h
  split
  · rename_i h5
    rw [if_pos h5] at h
    obtain ⟨_, _, _, h4⟩ := valid_parts h
    unfold bytesP
    rw [if_neg (by simpa using h), List.length_append, vb_length]
    have := sz_cases (bodyP l).length h4
    omega
  · exact Nat.zero_le _
end Go.Proofs.YtaahhbjnflimnaaGreat
namespace Go.Proofs.YtaahhbjnflimnaaGreat
open Go.RowKit

end Go.Proofs.YtaahhbjnflimnaaGreat
namespace Go.Proofs.YtaahhbjnflimnaaGreat
open Go.RowKit

def C4 (s : W4) : Array Value := #[.int .u64 s.a, .int .u64 s.b, .int .u64 s.c, .int .u64 s.d]
theorem below_setRow {w W : World} {B k : Nat} (h : Below B w W) (hB : B ≤ k) (cs : Array Value) : Below B w (W.setRow k cs) :=
  ⟨h.os, h.tape, h.output, by have := h.size; simpa [World.setRow] using this, fun m hm => (setRow_other _ _ _ _ (by omega)).trans (h.block m hm)⟩
/-- What stands while a range is added. -/
structure SetAt (w : World) (f : Nat) (s : W4) (k : Nat) (wx : World) : Prop where
  low : Below w.heap.size w wx
  set : wx.heap[w.heap.size]? = some (.cells (C4 (addR s f k)) 197 (0, 0))
  out : wx.heap[w.heap.size + 1]? = some (.cells #[.int .u64 0, .int .u64 0, .int .u64 0, .int .u64 0] 197 (0, 0))
theorem SetAt.next {w W : World} {f k : Nat} {s : W4} (h : SetAt w f s k W) (j : Nat) (v : Value) (he : C4 (addR s f (k + 1)) = (C4 (addR s f k)).setIfInBounds j v) : SetAt w f s (k + 1) (W.drew.setCell ⟨w.heap.size, j, none⟩ v) :=
  ⟨h.low.drew.setCell (Nat.le_refl _) _, by rw [he]; exact setCell_block (w := W.drew) h.set j v, (heap_setCell_other _ _ _ _ (by simp)).trans h.out⟩
end Go.Proofs.YtaahhbjnflimnaaGreat
namespace Go.Proofs.YtaahhbjnflimnaaGreat
open Go.RowKit

end Go.Proofs.YtaahhbjnflimnaaGreat
namespace Go.Proofs.YtaahhbjnflimnaaGreat
open Go.RowKit

end Go.Proofs.YtaahhbjnflimnaaGreat
