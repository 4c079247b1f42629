/- The contracts of polyglotkit.LightProps and what it calls. Condition: strings no longer than memory allows. -/
import Derived.Deep.LoopGhost
import Derived.Deep.QuietTactic
import Derived.WalkSmall
import Derived.Lib.Hide
import Derived.WalkKit
import Derived.Lib.Walk
import Derived.Lib.Tables
import Derived.Test.YtbklidpadffpgaaGreatK04
import Derived.Test.YtbklidpadffpgaaGreatK05
import Derived.Test.YtbklidpadffpgaaGreatK13
import Derived.Test.YtbklidpadffpgaaGreatK02
import Derived.Test.YtbklidpadffpgaaGreatK03
import Derived.Test.YtbklidpadffpgaaGreatK07
namespace Go.Proofs.YtbklidpadffpgaaGreat
open Go.RowKit
end Go.Proofs.YtbklidpadffpgaaGreat
namespace Go.Proofs.YtbklidpadffpgaaGreat
theorem qgfx{v k:Int}{l:List UInt8}(h:(qf4x v k l).2≠0):(qf4x v k l).1=Pk.zero:=by
 unfold qf4x at h ⊢
 split
 ·rfl
 ·rename_i h1
  rw[if_neg h1] at h
  split
  ·rfl
  ·rename_i h3
   rw[if_neg h3] at h
   simp only at h ⊢
   split
   ·rfl
   ·rename_i h2
    rw[if_neg h2] at h
    exact absurd rfl h
end Go.Proofs.YtbklidpadffpgaaGreat
namespace Go.Proofs.YtbklidpadffpgaaGreat
open Go.RowKit
theorem q5nr:(Tryz.prog.info? 35).map (·.size)=some 25:=by kernel_rfl
def pkZ:Array Value:=#[.int .i64 0,.bool false,.bool false,.int .i64 0,.int .i64 0,.string ⟨#[]⟩,.string ⟨#[]⟩,.bool false,.int .i64 0,.string ⟨#[]⟩,.bool false,.string ⟨#[]⟩,.bool false,.string ⟨#[]⟩,.bool false,.string ⟨#[]⟩,.string ⟨#[]⟩,.int .i64 0,.bool false,.slice none 0 0,.bool false,.int .i64 0,.slice none 0 0,.slice none 0 0,.slice none 0 0]
theorem qrai(W:World):(zeroValue 35).run Tryz.prog W = .ok (.agg pkZ) W:=by kernel_rfl
theorem qbwp:pkZ.size=25:=rfl
def adZ:Ad:=⟨none,0,none,0,none,0,none,0⟩
end Go.Proofs.YtbklidpadffpgaaGreat
