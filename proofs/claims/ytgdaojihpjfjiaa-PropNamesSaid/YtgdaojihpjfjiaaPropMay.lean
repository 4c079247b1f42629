/-
  The contracts of prop.rule.may, Shape, May, Many, repeats. Condition: a kind and an id are ints.
-/
import Derived.Test.YtgdaojihpjfjiaaPropRow
namespace Go.Proofs.Ytgdaojihpjfjiaa
open Go.RowKit

theorem bit_test (k : Nat) (kind : Int) (hk : k < 4294967296) (hi : -9223372036854775808 ≤ kind) (hj : kind ≤ 9223372036854775807) :
    (bits BinOp.and IntKind.u32 ((k : Int) / 2 ^ min (IntKind.u64.wrap kind).toNat 32) 1 != 0) = bitP k kind := by
  obtain ⟨m, hm⟩ : ∃ m : Nat, (k : Int) / 2 ^ min (IntKind.u64.wrap kind).toNat 32 = (m : Int) ∧ m = k / 2 ^ min (IntKind.u64.wrap kind).toNat 32 := ⟨_, by simp, rfl⟩
  rw [hm.1]
  have hlt : m < 4294967296 := by rw [hm.2]; exact Nat.lt_of_le_of_lt (Nat.div_le_self _ _) hk
  have e1 : bits BinOp.and IntKind.u32 (m : Int) 1 = (m : Int) % 2 := by
    have := bits_mask .u32 32 (by decide) (fun n h0 h1 => by rw [IntKind.wrap_u32]; omega) 1 (by decide) (m : Int) (by omega) (by omega)
    simpa using this
  rw [e1]
  unfold bitP
  rw [IntKind.wrap_u64] at hm
  by_cases hr : 0 ≤ kind ∧ kind < 32
  · rw [decide_eq_true hr, Bool.true_and]
    have e2 : min (kind % 18446744073709551616).toNat 32 = kind.toNat := by omega
    rw [e2] at hm
    rw [← hm.2]
    rcases Nat.mod_two_eq_zero_or_one m with h | h
    · have : (m : Int) % 2 = 0 := by omega
      rw [this, h]; rfl
    · have : (m : Int) % 2 = 1 := by omega
      rw [this, h]; rfl
  · rw [decide_eq_false hr, Bool.false_and]
    have e2 : min (kind % 18446744073709551616).toNat 32 = 32 := by omega
    rw [e2, Nat.div_eq_of_lt (by simpa using hk)] at hm
    rw [hm.2]; rfl

theorem may_any (s k l : Nat) (kind : Int) (w : World) (hk : k < 4294967296) (hi : -9223372036854775808 ≤ kind) (hj : kind ≤ 9223372036854775807) :
    Calls Try.prog 32 #[ruleV s k l, .int .i64 kind] w fun e w' => e = .returned (.bool (bitP k kind)) ∧ Below w.heap.size w w' := by
  have hb := Lib.hid (bit_test k kind hk hi hj)
  unfold ruleV
  go_enter Try.func32, Try.ntmps32
  go_wp2
  go_ret
  exact ⟨congrArg (fun b => Ending.returned (Value.bool b)) hb.out, (Below.refl _ _).alloc (Nat.le_refl _) _⟩

def repeatsP (kind id : Int) : Bool := id == 38 || (id == 11 && kind == 3)
theorem repeats_any (kind id : Int) (w : World) :
    Calls Try.prog 33 #[.int .i64 kind, .int .i64 id] w fun e w' => e = .returned (.bool (repeatsP kind id)) ∧ w = w' := by
  unfold repeatsP
  obtain ⟨b1, h1⟩ : ∃ b, (id == 38) = b := ⟨_, rfl⟩
  obtain ⟨b2, h2⟩ : ∃ b, (id == 11) = b := ⟨_, rfl⟩
  obtain ⟨b3, h3⟩ : ∃ b, (kind == 3) = b := ⟨_, rfl⟩
  rw [h1, h2, h3]
  cases b1 <;> cases b2 <;> cases b3 <;>
  · go_enter Try.func33, Try.ntmps33
    go_wp2
    go_ret
    exact ⟨rfl, rfl⟩

theorem zero_rule (W : World) : (zeroValue 50).run Try.prog W = .ok zeroRule W := by kernel_rfl
theorem i64_wf {n : Int} (h0 : -9223372036854775808 ≤ n) (h1 : n ≤ 9223372036854775807) : (Lit.int .i64 n).wf = true := by
  simp [Lit.wf, IntKind.min, IntKind.max, IntKind.signed, IntKind.bits]; omega
theorem Rules.look {w : World} {b : Nat} (h : Rules w b) {id : Int} (h0 : -9223372036854775808 ≤ id) (h1 : id ≤ 9223372036854775807) :
    (Instr.lookup 51 (.map (some b)) (.int .i64 id) false).run Try.prog w = .ok (ruleV (shapeP id) (maskP id) (prow id).least) w := by
  have := MapAt.look h Try.underlying3 Try.underlying51 (zero_rule w) (i64_wf h0 h1)
  rw [rule_at] at this
  exact this
theorem rule_field0 (s k l : Nat) (W : World) : (Instr.field 50 (ruleV s k l) 0).run Try.prog W = .ok (.int .i64 s) W := by kernel_rfl

theorem shape_any (id : Int) (w : World) (h0 : -9223372036854775808 ≤ id) (h1 : id ≤ 9223372036854775807) :
    Calls Try.prog 15 #[.int .i64 id] w fun e w' => e = .returned (.int .i64 (shapeP id)) ∧ Below w.heap.size w w' := by
  have hf := rule_field0 (shapeP id) (maskP id) (prow id).least
  go_enter Try.func15, Try.ntmps15
  go_wp2_with fail
  refine (rules_any w).mono ?_
  rintro e w' ⟨rfl, hR, hb⟩
  have hl := hR.look h0 h1
  go_wp2_with fail
  go_ret
  exact ⟨rfl, hb⟩
theorem mayf_any (kind id : Int) (w : World) (h0 : -9223372036854775808 ≤ id) (h1 : id ≤ 9223372036854775807) (h2 : -9223372036854775808 ≤ kind) (h3 : kind ≤ 9223372036854775807) :
    Calls Try.prog 16 #[.int .i64 kind, .int .i64 id] w fun e w' => e = .returned (.bool (mayP kind id)) ∧ Below w.heap.size w w' := by
  have hm := fun W => may_any (shapeP id) (maskP id) (prow id).least kind W (Nat.lt_trans (mask_lt id) (by decide)) h2 h3
  rw [bit_may] at hm
  have hm := Lib.hid hm
  go_enter Try.func16, Try.ntmps16
  go_wp2_with fail
  refine (rules_any w).mono ?_
  rintro e w' ⟨rfl, hR, hb⟩
  have hl := hR.look h0 h1
  go_wp2_with fail
  refine (hm.out _).mono ?_
  rintro e w2 ⟨rfl, hb2⟩
  go_wp2_with fail
  go_ret
  exact ⟨rfl, hb.trans (hb2.mono hb.size)⟩
theorem many_any (kind id : Int) (w : World) (h0 : -9223372036854775808 ≤ id) (h1 : id ≤ 9223372036854775807) (h2 : -9223372036854775808 ≤ kind) (h3 : kind ≤ 9223372036854775807) :
    Calls Try.prog 17 #[.int .i64 kind, .int .i64 id] w fun e w' => e = .returned (.bool (manyP kind id)) ∧ Below w.heap.size w w' := by
  have hm := mayf_any kind id w h0 h1 h2 h3
  have hr := Lib.hid (fun W => repeats_any kind id W)
  have e1 : manyP kind id = (mayP kind id && repeatsP kind id) := rfl
  rw [e1]
  generalize repeatsP kind id = r at *
  generalize mayP kind id = m at *
  have hm := Lib.hid hm
  clear e1
  cases m with
  | false =>
    go_enter Try.func17, Try.ntmps17
    go_wp2_with fail
    refine (hm.out).mono ?_
    rintro e w' ⟨rfl, hb⟩
    go_wp2_with fail
    go_ret
    exact ⟨rfl, hb⟩
  | true =>
    go_enter Try.func17, Try.ntmps17
    go_wp2_with fail
    refine (hm.out).mono ?_
    rintro e w' ⟨rfl, hb⟩
    go_wp2_with fail
    refine (hr.out _).mono ?_
    rintro e w' ⟨rfl, rfl⟩
    go_wp2_with fail
    go_ret
    exact ⟨rfl, hb⟩
end Go.Proofs.Ytgdaojihpjfjiaa
