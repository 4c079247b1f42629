/-
  The contracts of polyglotref05.Shape, May and Many. No condition.
-/
import Derived.Deep.LoopGhost
import Derived.Test.YtaahhbjnflimnaaGreatK24
namespace Go.Proofs.YtaahhbjnflimnaaGreat
open Go.RowKit

theorem kinds_len (id : Int) : (prow id).kinds.length ≤ 14 := by
  by_cases h : id < 1 ∨ 42 < id
  · rw [prow_out h]; decide
  · exact of_decide_eq_true (prow_all (fun _ r => decide (r.kinds.length ≤ 14)) (by decide) (by omega))
theorem row_field0 (a : Int) (A : Option Addr) (n c : Nat) (x y : Int) (W : World) : (Instr.field 193 (.agg #[.int .i64 a, .slice A n c, .int .u32 x, .int .u32 y]) 0).run Tryz.prog W = .ok (.int .i64 a) W := by kernel_rfl
theorem row_field1 (a : Int) (A : Option Addr) (n c : Nat) (x y : Int) (W : World) : (Instr.field 193 (.agg #[.int .i64 a, .slice A n c, .int .u32 x, .int .u32 y]) 1).run Tryz.prog W = .ok (.slice A n c) W := by kernel_rfl
set_option maxRecDepth 100000 in
theorem ref_may (kind id : Int) (w : World) : Calls Tryz.prog 175 #[.int .i64 kind, .int .i64 id] w fun e w' => e = .returned (.bool (mayP kind id)) ∧ Below w.heap.size w w' := by
  have hm : mayP kind id = (prow id).kinds.contains kind := rfl
  have h14 := kinds_len id
  have LA := look_any id w
  unfold LookP at LA
  rw [hm]
  generalize (prow id).kinds = ks at *
  generalize (((prow id).shape : Nat) : Int) = sh at *
  generalize (((prow id).least : Nat) : Int) = le at *
  generalize (((prow id).most : Nat) : Int) = mo at *
  obtain ⟨n, hn⟩ : ∃ n, ks.length = n := ⟨_, rfl⟩
  rw [hn] at LA h14
  have q0 : (n : Int) ≤ 14 := by omega
  have HN := Lib.hid hn
  have LA := Lib.hid LA
  generalize hC : ks.contains kind = C
  have HC := Lib.hid hC
  clear hm hn hC h14
  go_enter Tryz.func175, Tryz.ntmps175
  go_wp2_with fail
  refine (LA.out).mono ?_
  rintro e w1 ⟨A, rfl, hb, hk⟩
  have HB := Lib.hid hb
  have HK := Lib.hid hk
  have F1 := row_field1 sh A n n le mo
  clear hb hk LA
  go_wp2_with fail
  clear F1
  go_loopg [6] n (fun gk v wx => ∃ k : Nat, k ≤ n ∧ gk = n - k ∧ v = .int .i64 (k : Int) ∧ wx = w1 ∧ ∀ j x, j < k → ks[j]? = some x → x ≠ kind)
  case atStart => exact ⟨0, Nat.zero_le _, rfl, rfl, rfl, fun j x h => by omega⟩
  case round =>
    obtain ⟨k, hk, rfl, rfl, rfl, hno⟩ := hrel
    have HNO := Lib.hid hno
    by_cases hlt : k < n
    · have hkl : k < ks.length := by rw [HN.out]; exact hlt
      obtain ⟨x, hx⟩ : ∃ x, ks[k]? = some x := ⟨_, List.getElem?_eq_getElem hkl⟩
      obtain ⟨g, rfl, hg⟩ := HK.out.resolve_left (by rintro rfl; simp at hkl)
      have c0 : wr.cell? ⟨g, k, none⟩ = some (.int .i64 x) := by
        rw [cell_of_row _ _ _ _ _ _ hg]
        simp [hx]
      have q1 : (k : Int) < (n : Int) := by omega
      have HX := Lib.hid hx
      have HL := Lib.hid hlt
      clear hno hkl hx hg hlt hk
      by_cases he : x = kind
      · subst he
        have hC := HC.out
        have : C = true := by rw [← hC]; exact List.contains_iff_mem.2 (List.mem_of_getElem? HX.out)
        clear hC
        subst this
        go_wp2_with fail
        go_ret
        exact ⟨rfl, HB.out⟩
      · have q2 : (x == kind) = false := by simpa using he
        have HE := Lib.hid he
        clear he
        go_wp2_with fail
        go_roundg (n - (k + 1))
        case measure => have := HL.out; omega
        case rel =>
          refine ⟨k + 1, by have := HL.out; omega, rfl, by go_num, rfl, fun j y hj hy => ?_⟩
          by_cases hjk : j = k
          · subst hjk
            have := hy.symm.trans HX.out
            injection this with this
            rw [this]; exact HE.out
          · exact HNO.out j y (by omega) hy
    · obtain rfl : k = n := by omega
      have hC := HC.out
      have : C = false := by
        rw [← hC]
        refine Bool.eq_false_iff.2 fun h => ?_
        obtain ⟨j, hj⟩ := List.mem_iff_getElem?.1 (List.contains_iff_mem.1 h)
        exact HNO.out j kind (by have := (List.getElem?_eq_some_iff.1 hj).1; rw [HN.out] at this; exact this) hj rfl
      clear hC
      subst this
      clear hno hlt hk
      go_wp2_with fail
      go_ret
      exact ⟨rfl, HB.out⟩
theorem ref_many (kind id : Int) (w : World) : Calls Tryz.prog 213 #[.int .i64 kind, .int .i64 id] w fun e w' => e = .returned (.bool (manyP kind id)) ∧ Below w.heap.size w w' := by
  have MY := ref_may kind id w
  unfold manyP
  generalize mayP kind id = b at *
  obtain ⟨b1, h1⟩ : ∃ b, (id == 38) = b := ⟨_, rfl⟩
  obtain ⟨b2, h2⟩ : ∃ b, (id == 11) = b := ⟨_, rfl⟩
  obtain ⟨b3, h3⟩ : ∃ b, (kind == 3) = b := ⟨_, rfl⟩
  rw [h1, h2, h3]
  have MY := Lib.hid MY
  cases b <;> cases b1 <;> cases b2 <;> cases b3 <;>
  · go_enter Tryz.func213, Tryz.ntmps213
    go_wp2_with fail
    refine (MY.out).mono ?_
    rintro e w1 ⟨rfl, hb⟩
    go_wp2_with fail
    go_ret
    exact ⟨rfl, hb⟩
end Go.Proofs.YtaahhbjnflimnaaGreat
