/-
  The contract of connect.Flags. Condition: none.
-/
import Derived.BigQuiet
import Derived.Deep.DeepCutAuto
import Derived.Laws.Bits128
import Derived.Test.YtbgpcmbaodjibaaGreatK20
import Derived.Test.YtbgpcmbaodjibaaGreatK11
namespace Go.Proofs.YtbgpcmbaodjibaaGreat
open Go.RowKit

theorem and_three (n : Int) : bits .and .i64 n 3 = n % 4 := by
  have h3 : (BitVec.ofInt 64 3).toNat = 2 ^ 2 - 1 := by decide
  have key : (BitVec.ofInt 64 n &&& BitVec.ofInt 64 3).toNat = (n % ((2 ^ 64 : Nat) : Int)).toNat % 2 ^ 2 := by
    rw [BitVec.toNat_and, BitVec.toNat_ofInt, h3, Nat.and_two_pow_sub_one_eq_mod]
  show IntKind.i64.wrap ((BitVec.ofInt 64 n &&& BitVec.ofInt 64 3).toNat : Nat) = n % 4
  rw [key, IntKind.wrap_i64]
  omega
/-- The flags of a CONNECT, one after the other. -/
theorem or_flags : ∀ (u a r h c : Bool) (q : Nat), q < 4 →
    bits .or .i64 (bits .or .i64 (bits .or .i64 (bits .or .i64 (bits .or .i64 (if u then 128 else 0) (if a then 64 else 0)) (if r then 32 else 0)) ((q : Int) * 8)) (if h then 4 else 0)) (if c then 2 else 0) =
      ((bitC u 128 + bitC a 64 + bitC r 32 + 8 * q + bitC h 4 + bitC c 2 : Nat) : Int) := by
  intro u a r h c q hq
  obtain rfl | rfl | rfl | rfl : q = 0 ∨ q = 1 ∨ q = 2 ∨ q = 3 := by omega
  all_goals (revert u a r h c; decide +kernel)
set_option maxHeartbeats 2000000 in
set_option maxRecDepth 100000 in
theorem con_flags (p : Pk) (a : Ad) (w : World) :
    Calls Tryz.prog 12 #[pkV p a] w fun e w' => e = .returned (.int .i64 ((flagsC p : Nat) : Int)) ∧ Below w.heap.size w w' := by
  have B0 := Lib.hid (below_box (w := w) (.cells (pkC p a) 32))
  have G := heap_alloc_new w (.cells (pkC p a) 32)
  have CE : ∀ j, (w.alloc (.cells (pkC p a) 32)).cell? ⟨w.heap.size, j, none⟩ = (pkC p a)[j]? := fun j => cell_of_row _ _ j _ _ _ G
  have k0 : (w.alloc (.cells (pkC p a) 32)).cell? ⟨w.heap.size, 0, none⟩ = some (.int .i64 p.kind) := CE 0
  unfold pkV
  by_cases hk : p.kind = 1
  · have k7 : (w.alloc (.cells (pkC p a) 32)).cell? ⟨w.heap.size, 7, none⟩ = some (.bool p.clean) := CE 7
    have k10 : (w.alloc (.cells (pkC p a) 32)).cell? ⟨w.heap.size, 10, none⟩ = some (.bool p.hasUser) := CE 10
    have k12 : (w.alloc (.cells (pkC p a) 32)).cell? ⟨w.heap.size, 12, none⟩ = some (.bool p.hasPass) := CE 12
    have k14 : (w.alloc (.cells (pkC p a) 32)).cell? ⟨w.heap.size, 14, none⟩ = some (.bool p.hasWill) := CE 14
    have k17 : (w.alloc (.cells (pkC p a) 32)).cell? ⟨w.heap.size, 17, none⟩ = some (.int .i64 p.wQos) := CE 17
    have k18 : (w.alloc (.cells (pkC p a) 32)).cell? ⟨w.heap.size, 18, none⟩ = some (.bool p.wRetain) := CE 18
    have hf : flagsC p = bitC p.hasUser 128 + bitC p.hasPass 64 + bitC p.wRetain 32 + 8 * (p.wQos % 4).toNat + bitC p.hasWill 4 + bitC p.clean 2 := by rw [flagsC, if_pos hk]
    have ha := and_three p.wQos
    have hq : p.wQos % 4 = ((p.wQos % 4).toNat : Int) := by omega
    have hq4 : (p.wQos % 4).toNat < 4 := by omega
    generalize (p.wQos % 4).toNat = q at *
    rw [hq] at ha
    have ho := or_flags p.hasUser p.hasPass p.wRetain p.hasWill p.clean q hq4
    rw [← hf] at ho
    rw [hk] at k0
    have B1 := Lib.hid (con_bit p.hasUser 128)
    have B2 := Lib.hid (con_bit p.hasPass 64)
    have B3 := Lib.hid (con_bit p.wRetain 32)
    have B4 := Lib.hid (con_bit p.hasWill 4)
    have B5 := Lib.hid (con_bit p.clean 2)
    generalize (if p.hasUser = true then (128 : Int) else 0) = x1 at *
    generalize (if p.hasPass = true then (64 : Int) else 0) = x2 at *
    generalize (if p.wRetain = true then (32 : Int) else 0) = x3 at *
    generalize (if p.hasWill = true then (4 : Int) else 0) = x4 at *
    generalize (if p.clean = true then (2 : Int) else 0) = x5 at *
    have HO := Lib.hid ho
    have hb0 : (0 : Int) ≤ q := by omega
    have hb4 : (q : Int) < 4 := by omega
    clear ho hf hk hq hq4 CE G
    go_enter Tryz.func12, Tryz.ntmps12
    go_wp2_with fail
    go_quiet (first
      | (go_at_call 25; exact (B1.out _).mono fun _ _ h => ⟨h.1, _, h.2.symm⟩)
      | (go_at_call 25; exact (B2.out _).mono fun _ _ h => ⟨h.1, _, h.2.symm⟩)
      | (go_at_call 25; exact (B3.out _).mono fun _ _ h => ⟨h.1, _, h.2.symm⟩)
      | (go_at_call 25; exact (B4.out _).mono fun _ _ h => ⟨h.1, _, h.2.symm⟩)
      | (go_at_call 25; exact (B5.out _).mono fun _ _ h => ⟨h.1, _, h.2.symm⟩))
    go_wp2_with fail
    go_ret
    exact ⟨congrArg (fun n : Int => Ending.returned (Value.int .i64 n)) HO.out, below_draws B0.out _⟩
  · have hk' : (p.kind == 1) = false := beq_eq_false_iff_ne.2 hk
    have hk2 : (p.kind != 1) = true := by rw [show (p.kind != 1) = !(p.kind == 1) from rfl, hk']; rfl
    have HF := Lib.hid (show (0 : Nat) = flagsC p by rw [flagsC, if_neg hk])
    clear hk hk' CE G
    go_enter Tryz.func12, Tryz.ntmps12
    go_wp2_with fail
    go_ret
    exact ⟨congrArg (fun n : Nat => Ending.returned (Value.int .i64 (n : Int))) HF.out, B0.out⟩
end Go.Proofs.YtbgpcmbaodjibaaGreat
