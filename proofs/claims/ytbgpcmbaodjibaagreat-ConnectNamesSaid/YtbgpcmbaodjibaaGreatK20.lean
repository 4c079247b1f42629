/-
  The contracts of connect's bit, known, codeFits, flagsFit. Condition: none.
-/
import Derived.Test.YtbgpcmbaodjibaaGreatK10
import Derived.Test.YtbgpcmbaodjibaaGreatK19
import Derived.Test.YtbgpcmbaodjibaaGreatK16
import Derived.Test.YtbgpcmbaodjibaaGreatK07
namespace Go.Proofs.YtbgpcmbaodjibaaGreat
open Go.RowKit

theorem con_bit (b : Bool) (n : Int) (w : World) :
    Calls Tryz.prog 25 #[.bool b, .int .i64 n] w fun e w' => e = .returned (.int .i64 (if b then n else 0)) ∧ w = w' := by
  cases b
  all_goals
    go_enter Tryz.func25, Tryz.ntmps25
    go_wp2
    go_ret
    exact ⟨rfl, rfl⟩
theorem con_known (v k : Int) (w : World) :
    Calls Tryz.prog 30 #[.int .i64 v, .int .i64 k] w fun e w' => e = .returned (.bool (versC v && (k == 1 || k == 2))) ∧ w = w' := by
  unfold versC
  have hv : v = 4 ∨ v = 5 ∨ ((v == 4) = false ∧ (v == 5) = false) := by
    by_cases h4 : v = 4
    · exact .inl h4
    by_cases h5 : v = 5
    · exact .inr (.inl h5)
    exact .inr (.inr ⟨beq_eq_false_iff_ne.2 h4, beq_eq_false_iff_ne.2 h5⟩)
  have hk : k = 1 ∨ k = 2 ∨ ((k == 1) = false ∧ (k == 2) = false) := by
    by_cases h4 : k = 1
    · exact .inl h4
    by_cases h5 : k = 2
    · exact .inr (.inl h5)
    exact .inr (.inr ⟨beq_eq_false_iff_ne.2 h4, beq_eq_false_iff_ne.2 h5⟩)
  rcases hv with rfl | rfl | ⟨h4, h5⟩
  · rcases hk with rfl | rfl | ⟨k1, k2⟩
    all_goals
      go_enter Tryz.func30, Tryz.ntmps30
      go_wp2
      go_ret
      exact ⟨by first | rfl | (rw [k1, k2]; rfl), rfl⟩
  · rcases hk with rfl | rfl | ⟨k1, k2⟩
    all_goals
      go_enter Tryz.func30, Tryz.ntmps30
      go_wp2
      go_ret
      exact ⟨by first | rfl | (rw [k1, k2]; rfl), rfl⟩
  · rw [h4, h5]
    go_enter Tryz.func30, Tryz.ntmps30
    go_wp2
    go_ret
    exact ⟨rfl, rfl⟩
theorem con_code (v c : Int) (w : World) :
    Calls Tryz.prog 73 #[.int .i64 v, .int .i64 c] w fun e w' => e = .returned (.bool (if v = 4 then returnR c else mayR 2 c)) ∧ Below w.heap.size w w' := by
  have R := Lib.hid (return_any c)
  have M := Lib.hid (rsn_may 2 c)
  by_cases h : v = 4
  · subst h
    rw [if_pos rfl]
    go_enter Tryz.func73, Tryz.ntmps73
    go_wp2_with fail
    refine (R.out _).mono ?_
    rintro e w' ⟨rfl, rfl⟩
    go_wp2_with fail
    go_ret
    exact ⟨rfl, Below.refl _ _⟩
  · rw [if_neg h]
    have h4 : (v == 4) = false := beq_eq_false_iff_ne.2 h
    go_enter Tryz.func73, Tryz.ntmps73
    go_wp2_with fail
    refine (M.out _).mono ?_
    rintro e w' ⟨rfl, hb⟩
    go_wp2_with fail
    go_ret
    exact ⟨rfl, hb⟩
/-- Do a CONNECT's flags go with one another? -/
def fitC (v : Int) (hw hp hu r : Bool) (q : Int) : Bool := decide (0 ≤ q) && decide (q ≤ 2) && (hw || (q == 0 && !r)) && !(v == 4 && hp && !hu)
set_option maxRecDepth 100000 in
set_option maxHeartbeats 2000000 in
theorem con_flags_fit (v : Int) {hw hp hu r : Bool} {q : Int} {c : Array Value} (w : World) (h10 : c[10]? = some (.bool hu)) (h12 : c[12]? = some (.bool hp)) (h14 : c[14]? = some (.bool hw)) (h17 : c[17]? = some (.int .i64 q)) (h18 : c[18]? = some (.bool r)) :
    Calls Tryz.prog 74 #[.int .i64 v, .agg c] w fun e w' => e = .returned (.bool (fitC v hw hp hu r q)) ∧ Below w.heap.size w w' := by
  have HB := Lib.hid (fun o => below_box (w := w) o)
  unfold fitC
  by_cases q0 : q < 0
  · rw [decide_eq_false (show ¬ 0 ≤ q by omega)]
    go_enter Tryz.func74, Tryz.ntmps74
    go_wp2
    go_ret
    exact ⟨rfl, HB.out _⟩
  by_cases q2 : 2 < q
  · rw [decide_eq_true (show 0 ≤ q by omega), decide_eq_false (show ¬ q ≤ 2 by omega)]
    go_enter Tryz.func74, Tryz.ntmps74
    go_wp2
    go_ret
    exact ⟨rfl, HB.out _⟩
  rw [decide_eq_true (show 0 ≤ q by omega), decide_eq_true (show q ≤ 2 by omega)]
  have tail : ∀ (x : Bool), x = true → (v = 4 ∧ hp = true ∧ hu = true ∨ v = 4 ∧ hp = true ∧ hu = false ∨ v = 4 ∧ hp = false ∨ (v == 4) = false) := fun _ _ => by
    by_cases h4 : v = 4
    · cases hp <;> cases hu <;> simp [h4]
    · exact .inr (.inr (.inr (beq_eq_false_iff_ne.2 h4)))
  have tail := tail true rfl
  cases hw with
  | true =>
    rcases tail with ⟨rfl, rfl, rfl⟩ | ⟨rfl, rfl, rfl⟩ | ⟨rfl, rfl⟩ | h4
    all_goals
      go_enter Tryz.func74, Tryz.ntmps74
      go_wp2
      go_ret
      exact ⟨by first | rfl | (rw [h4]; rfl), HB.out _⟩
  | false =>
    by_cases hq : q = 0
    · subst hq
      cases r with
      | true =>
        clear tail
        go_enter Tryz.func74, Tryz.ntmps74
        go_wp2
        go_ret
        exact ⟨rfl, HB.out _⟩
      | false =>
        rcases tail with ⟨rfl, rfl, rfl⟩ | ⟨rfl, rfl, rfl⟩ | ⟨rfl, rfl⟩ | h4
        all_goals
          go_enter Tryz.func74, Tryz.ntmps74
          go_wp2
          go_ret
          exact ⟨by first | rfl | (rw [h4]; rfl), HB.out _⟩
    · have hz : (q == 0) = false := beq_eq_false_iff_ne.2 hq
      rw [hz]
      clear tail
      go_enter Tryz.func74, Tryz.ntmps74
      go_wp2
      go_ret
      exact ⟨rfl, HB.out _⟩
end Go.Proofs.YtbgpcmbaodjibaaGreat
