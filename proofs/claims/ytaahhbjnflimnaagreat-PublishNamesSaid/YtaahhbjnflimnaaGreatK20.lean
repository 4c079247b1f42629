/-
  The cells of a packet that is nothing, and of one of which a header tells. Condition: none.
  The lists of the packet that is nothing. No condition.
-/
import Derived.Test.YtaahhbjnflimnaaGreatK13
import Derived.Test.YtaahhbjnflimnaaGreatK02
import Derived.Test.YtaahhbjnflimnaaGreatK14
namespace Go.Proofs.YtaahhbjnflimnaaGreat
open Go.RowKit

theorem info_pk : (Tryz.prog.info? 28).map (·.size) = some 25 := by kernel_rfl
/-- The cells of a packet that is nothing. -/
def pkZ : Array Value := #[.int .i64 0, .bool false, .bool false, .int .i64 0, .int .i64 0, .string ⟨#[]⟩, .string ⟨#[]⟩, .bool false, .int .i64 0, .string ⟨#[]⟩, .bool false, .string ⟨#[]⟩, .bool false, .string ⟨#[]⟩, .bool false, .string ⟨#[]⟩, .string ⟨#[]⟩, .int .i64 0, .bool false, .slice none 0 0, .bool false, .int .i64 0, .slice none 0 0, .slice none 0 0, .slice none 0 0]
theorem zero_pk (W : World) : (zeroValue 28).run Tryz.prog W = .ok (.agg pkZ) W := by kernel_rfl
theorem pkZ_size : pkZ.size = 25 := rfl
/-- The cells of a packet of which a header tells. -/
def pkD (k : Int) (d r : Bool) (q : Int) : Array Value := #[.int .i64 k, .bool d, .bool r, .int .i64 q, .int .i64 0, .string ⟨#[]⟩, .string ⟨#[]⟩, .bool false, .int .i64 0, .string ⟨#[]⟩, .bool false, .string ⟨#[]⟩, .bool false, .string ⟨#[]⟩, .bool false, .string ⟨#[]⟩, .string ⟨#[]⟩, .int .i64 0, .bool false, .slice none 0 0, .bool false, .int .i64 0, .slice none 0 0, .slice none 0 0, .slice none 0 0]
theorem pkD_one (k : Int) (d r : Bool) (q : Int) : (pkD k d r q).all (·.oneCell') = true := by simp [pkD, Value.oneCell']
end Go.Proofs.YtaahhbjnflimnaaGreat
namespace Go.Proofs.YtaahhbjnflimnaaGreat
open Go.RowKit

/-- Nowhere. -/
def adZ : Ad := ⟨none, 0, none, 0, none, 0, none, 0⟩
theorem pkC_zero : pkC Pk.zero adZ = pkZ := rfl
end Go.Proofs.YtaahhbjnflimnaaGreat
