/-
  The contracts of head.Name and of the reference's Name. Condition: the table of names reads as the program's text lays it.
-/
import Derived.Test.YtnmdbbkcbedklaaDoorK10
import Derived.Test.YtnmdbbkcbedklaaDoorK02
namespace Go.Proofs.YtnmdbbkcbedklaaDoor
open Go.RowKit

def namesL : List (List UInt8) := [[99, 111, 110, 110, 101, 99, 116], [99, 111, 110, 110, 97, 99, 107], [112, 117, 98, 108, 105, 115, 104], [112, 117, 98, 97, 99, 107], [112, 117, 98, 114, 101, 99], [112, 117, 98, 114, 101, 108], [112, 117, 98, 99, 111, 109, 112], [115, 117, 98, 115, 99, 114, 105, 98, 101], [115, 117, 98, 97, 99, 107], [117, 110, 115, 117, 98, 115, 99, 114, 105, 98, 101], [117, 110, 115, 117, 98, 97, 99, 107], [112, 105, 110, 103, 114, 101, 113], [112, 105, 110, 103, 114, 101, 115, 112], [100, 105, 115, 99, 111, 110, 110, 101, 99, 116], [97, 117, 116, 104]]
/-- A kind's name. -/
def nameK (k : Int) : List UInt8 := if 1 ≤ k ∧ k ≤ 15 then namesL.getD (k - 1).toNat [] else [63]
/-- The table that is read. -/
def Names (W : World) : Prop := StrTabIs Tryd.prog W "polyglot/head.names" namesL
theorem Names.below {W W' : World} (h : Names W) (hb : Below W.heap.size W W') : Names W' := StrTabIs.below h hb
theorem Names.at {W : World} (h : Names W) (i : Nat) (s : List UInt8) (hi : namesL[i]? = some s) : W.cell? ⟨0, i, none⟩ = some (.string (bs s)) := StrTabIs.cell h (by kernel_rfl) i s hi
set_option maxRecDepth 100000 in
set_option maxHeartbeats 1000000 in
theorem name_any (k : Int) (w : World) (ht : Names w) : Calls Tryd.prog 11 #[.int .i64 k] w fun e w' => e = .returned (.string (bs (nameK k))) ∧ w = w' := by
  have HT := Lib.hid ht
  clear ht
  by_cases h1 : k < 1
  · have e : nameK k = [63] := by unfold nameK; rw [if_neg (by omega)]
    rw [e]; clear e
    go_enter Tryd.func11, Tryd.ntmps11
    go_wp2_with fail
    go_ret
    exact ⟨rfl, rfl⟩
  by_cases h2 : 15 < k
  · have e : nameK k = [63] := by unfold nameK; rw [if_neg (by omega)]
    rw [e]; clear e
    go_enter Tryd.func11, Tryd.ntmps11
    go_wp2_with fail
    go_ret
    exact ⟨rfl, rfl⟩
  have hk : k = 1 ∨ k = 2 ∨ k = 3 ∨ k = 4 ∨ k = 5 ∨ k = 6 ∨ k = 7 ∨ k = 8 ∨ k = 9 ∨ k = 10 ∨ k = 11 ∨ k = 12 ∨ k = 13 ∨ k = 14 ∨ k = 15 := by omega
  clear h1 h2
  rcases hk with rfl | rfl | rfl | rfl | rfl | rfl | rfl | rfl | rfl | rfl | rfl | rfl | rfl | rfl | rfl
  · have c := HT.out.at 0 [99, 111, 110, 110, 101, 99, 116] rfl
    go_enter Tryd.func11, Tryd.ntmps11
    go_wp2_with fail
    go_ret
    exact ⟨rfl, rfl⟩
  · have c := HT.out.at 1 [99, 111, 110, 110, 97, 99, 107] rfl
    go_enter Tryd.func11, Tryd.ntmps11
    go_wp2_with fail
    go_ret
    exact ⟨rfl, rfl⟩
  · have c := HT.out.at 2 [112, 117, 98, 108, 105, 115, 104] rfl
    go_enter Tryd.func11, Tryd.ntmps11
    go_wp2_with fail
    go_ret
    exact ⟨rfl, rfl⟩
  · have c := HT.out.at 3 [112, 117, 98, 97, 99, 107] rfl
    go_enter Tryd.func11, Tryd.ntmps11
    go_wp2_with fail
    go_ret
    exact ⟨rfl, rfl⟩
  · have c := HT.out.at 4 [112, 117, 98, 114, 101, 99] rfl
    go_enter Tryd.func11, Tryd.ntmps11
    go_wp2_with fail
    go_ret
    exact ⟨rfl, rfl⟩
  · have c := HT.out.at 5 [112, 117, 98, 114, 101, 108] rfl
    go_enter Tryd.func11, Tryd.ntmps11
    go_wp2_with fail
    go_ret
    exact ⟨rfl, rfl⟩
  · have c := HT.out.at 6 [112, 117, 98, 99, 111, 109, 112] rfl
    go_enter Tryd.func11, Tryd.ntmps11
    go_wp2_with fail
    go_ret
    exact ⟨rfl, rfl⟩
  · have c := HT.out.at 7 [115, 117, 98, 115, 99, 114, 105, 98, 101] rfl
    go_enter Tryd.func11, Tryd.ntmps11
    go_wp2_with fail
    go_ret
    exact ⟨rfl, rfl⟩
  · have c := HT.out.at 8 [115, 117, 98, 97, 99, 107] rfl
    go_enter Tryd.func11, Tryd.ntmps11
    go_wp2_with fail
    go_ret
    exact ⟨rfl, rfl⟩
  · have c := HT.out.at 9 [117, 110, 115, 117, 98, 115, 99, 114, 105, 98, 101] rfl
    go_enter Tryd.func11, Tryd.ntmps11
    go_wp2_with fail
    go_ret
    exact ⟨rfl, rfl⟩
  · have c := HT.out.at 10 [117, 110, 115, 117, 98, 97, 99, 107] rfl
    go_enter Tryd.func11, Tryd.ntmps11
    go_wp2_with fail
    go_ret
    exact ⟨rfl, rfl⟩
  · have c := HT.out.at 11 [112, 105, 110, 103, 114, 101, 113] rfl
    go_enter Tryd.func11, Tryd.ntmps11
    go_wp2_with fail
    go_ret
    exact ⟨rfl, rfl⟩
  · have c := HT.out.at 12 [112, 105, 110, 103, 114, 101, 115, 112] rfl
    go_enter Tryd.func11, Tryd.ntmps11
    go_wp2_with fail
    go_ret
    exact ⟨rfl, rfl⟩
  · have c := HT.out.at 13 [100, 105, 115, 99, 111, 110, 110, 101, 99, 116] rfl
    go_enter Tryd.func11, Tryd.ntmps11
    go_wp2_with fail
    go_ret
    exact ⟨rfl, rfl⟩
  · have c := HT.out.at 14 [97, 117, 116, 104] rfl
    go_enter Tryd.func11, Tryd.ntmps11
    go_wp2_with fail
    go_ret
    exact ⟨rfl, rfl⟩
set_option maxRecDepth 100000 in
set_option maxHeartbeats 1000000 in
theorem ref_name (k : Int) (w : World) : Calls Tryd.prog 20 #[.int .i64 k] w fun e w' => e = .returned (.string (bs (nameK k))) ∧ Below w.heap.size w w' := by
  have HB := Lib.hid (fun o => below_box (w := w) o)
  have LR := Lib.hid (Below.refl w.heap.size w)
  by_cases h1 : k < 1
  · have e : nameK k = [63] := by unfold nameK; rw [if_neg (by omega)]
    rw [e]; clear e
    go_enter Tryd.func20, Tryd.ntmps20
    go_wp2_with fail
    go_ret
    exact ⟨rfl, LR.out⟩
  by_cases h2 : 15 < k
  · have e : nameK k = [63] := by unfold nameK; rw [if_neg (by omega)]
    rw [e]; clear e
    go_enter Tryd.func20, Tryd.ntmps20
    go_wp2_with fail
    go_ret
    exact ⟨rfl, LR.out⟩
  have hk : k = 1 ∨ k = 2 ∨ k = 3 ∨ k = 4 ∨ k = 5 ∨ k = 6 ∨ k = 7 ∨ k = 8 ∨ k = 9 ∨ k = 10 ∨ k = 11 ∨ k = 12 ∨ k = 13 ∨ k = 14 ∨ k = 15 := by omega
  clear h1 h2
  rcases hk with rfl | rfl | rfl | rfl | rfl | rfl | rfl | rfl | rfl | rfl | rfl | rfl | rfl | rfl | rfl
  · go_enter Tryd.func20, Tryd.ntmps20
    go_wp2_with fail
    go_ret
    exact ⟨rfl, HB.out _⟩
  · go_enter Tryd.func20, Tryd.ntmps20
    go_wp2_with fail
    go_ret
    exact ⟨rfl, HB.out _⟩
  · go_enter Tryd.func20, Tryd.ntmps20
    go_wp2_with fail
    go_ret
    exact ⟨rfl, HB.out _⟩
  · go_enter Tryd.func20, Tryd.ntmps20
    go_wp2_with fail
    go_ret
    exact ⟨rfl, HB.out _⟩
  · go_enter Tryd.func20, Tryd.ntmps20
    go_wp2_with fail
    go_ret
    exact ⟨rfl, HB.out _⟩
  · go_enter Tryd.func20, Tryd.ntmps20
    go_wp2_with fail
    go_ret
    exact ⟨rfl, HB.out _⟩
  · go_enter Tryd.func20, Tryd.ntmps20
    go_wp2_with fail
    go_ret
    exact ⟨rfl, HB.out _⟩
  · go_enter Tryd.func20, Tryd.ntmps20
    go_wp2_with fail
    go_ret
    exact ⟨rfl, HB.out _⟩
  · go_enter Tryd.func20, Tryd.ntmps20
    go_wp2_with fail
    go_ret
    exact ⟨rfl, HB.out _⟩
  · go_enter Tryd.func20, Tryd.ntmps20
    go_wp2_with fail
    go_ret
    exact ⟨rfl, HB.out _⟩
  · go_enter Tryd.func20, Tryd.ntmps20
    go_wp2_with fail
    go_ret
    exact ⟨rfl, HB.out _⟩
  · go_enter Tryd.func20, Tryd.ntmps20
    go_wp2_with fail
    go_ret
    exact ⟨rfl, HB.out _⟩
  · go_enter Tryd.func20, Tryd.ntmps20
    go_wp2_with fail
    go_ret
    exact ⟨rfl, HB.out _⟩
  · go_enter Tryd.func20, Tryd.ntmps20
    go_wp2_with fail
    go_ret
    exact ⟨rfl, HB.out _⟩
  · go_enter Tryd.func20, Tryd.ntmps20
    go_wp2_with fail
    go_ret
    exact ⟨rfl, HB.out _⟩
end Go.Proofs.YtnmdbbkcbedklaaDoor
