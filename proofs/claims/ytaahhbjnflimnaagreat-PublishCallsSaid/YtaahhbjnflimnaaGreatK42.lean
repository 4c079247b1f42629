/-
  The contract of prop.Read, as a law's walk wants it. Condition: the bytes are no more than an int says.
-/
import Derived.Test.YtaahhbjnflimnaaGreatK41
namespace Go.Proofs.YtaahhbjnflimnaaGreat
open Go.RowKit

theorem read_err {kind : Int} {s : List UInt8} (h : (readP kind s).2.2 ≠ 0) : readP kind s = ([], 0, (readP kind s).2.2) := by
  unfold readP at *
  repeat' split
  all_goals first | rfl | skip
  all_goals
    rename_i h1 h2 h3 h4
    rw [if_neg h1, if_neg h2, if_neg h3, if_neg h4] at h
    exact absurd rfl h
end Go.Proofs.YtaahhbjnflimnaaGreat
