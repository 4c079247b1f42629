/-
  The contracts of polyglotkit.Same and prop.Same at two lists of the same properties. Condition: at most 70,000.
-/
import Derived.Deep.QuietTactic
import Derived.Test.YtgdaojihpjfjiaaPropCells
namespace Go.Proofs.Ytgdaojihpjfjiaa
open Go.RowKit

theorem ksame_nothing (A B : Option Addr) (c d : Nat) (w : World) :
    Calls Try.prog 14 #[.slice A 0 c, .slice B 0 d] w fun e w' => e = .returned (.bool true) ∧ ∃ m, w' = w.drewN m := by
  go_enter Try.func14, Try.ntmps14
  go_wp2
  refine wp_loop_rounds 1 ?_
  rw [rounds_succ]
  go_wp2
  go_ret
  exact ⟨rfl, 0, rfl⟩
set_option maxHeartbeats 1000000 in
theorem ksame_cells (ga ia gb ib c d : Nat) (l : List Pr) (w : World) (ha : PL w (some ⟨ga, ia, none⟩) l) (hb : PL w (some ⟨gb, ib, none⟩) l) (hl : l.length ≤ 70000) :
    Calls Try.prog 14 #[.slice (some ⟨ga, ia, none⟩) l.length c, .slice (some ⟨gb, ib, none⟩) l.length d] w fun e w' => e = .returned (.bool true) ∧ ∃ m, w' = w.drewN m := by
  have HA := Lib.hid ha
  have HB := Lib.hid hb
  obtain ⟨n, hn⟩ : ∃ n, l.length = n := ⟨_, rfl⟩
  have HN := Lib.hid hn
  rw [hn] at hl ⊢
  clear ha hb hn
  have hl' : (n : Int) ≤ 70000 := by omega
  go_enter Try.func14, Try.ntmps14
  go_wp2
  go_loopw [5] (fun i wr => ∃ k m : Nat, k ≤ n ∧ i = .int .i64 (k : Int) ∧ wr = w.drewN m) (fun i _ => n - (intOf i).toNat)
  case atStart => exact ⟨0, 0, Nat.zero_le _, rfl, rfl⟩
  case round =>
    obtain ⟨k, m, hk, rfl, rfl⟩ := hrel
    by_cases hlt : k < n
    · have hkl : k < l.length := by rw [HN.out]; exact hlt
      obtain ⟨p, hp⟩ : ∃ p, l[k]? = some p := ⟨_, List.getElem?_eq_getElem hkl⟩
      obtain ⟨g', i', e', _, a0, a1, a2, a3⟩ := HA.out.at hp
      cases e'
      obtain ⟨g', i', e', _, b0, b1, b2, b3⟩ := HB.out.at hp
      cases e'
      generalize p.id = x0 at a0 b0
      generalize ((p.n : Nat) : Int) = x1 at a1 b1
      generalize bs p.text = x2 at a2 b2
      generalize bs p.value = x3 at a3 b3
      have g1 : (k : Int) < (n : Int) := by omega
      clear hp hkl
      go_wp2
      go_quiet (fail)
      go_wp2
      go_roundw
      case rel => exact ⟨k + 1, _, by omega, by go_num, rfl⟩
      case measure => simp [intOf]; omega
    · obtain rfl : k = n := by omega
      go_wp2
      go_ret
      exact ⟨rfl, m, rfl⟩
theorem ksame_props (A B : Option Addr) (n c d : Nat) (l : List Pr) (w : World) (hA : PL w A l) (hB : PL w B l) (hn : l.length = n) (hl : l.length ≤ 70000) :
    Calls Try.prog 14 #[.slice A n c, .slice B n d] w fun e w' => e = .returned (.bool true) ∧ ∃ m, w' = w.drewN m := by
  subst hn
  by_cases h : l = []
  · subst h
    exact ksame_nothing A B c d w
  · obtain ⟨ga, ia, rfl, _⟩ := hA.addr h
    obtain ⟨gb, ib, rfl, _⟩ := hB.addr h
    exact ksame_cells ga ia gb ib c d l w hA hB hl

theorem equal_nothing (A B : Option Addr) (c d : Nat) (w : World) :
    Calls Try.prog 39 #[.slice A 0 c, .slice B 0 d] w fun e w' => e = .returned (.bool true) ∧ ∃ m, w' = w.drewN m := by
  go_enter Try.func39, Try.ntmps39
  go_wp2
  refine wp_loop_rounds 1 ?_
  rw [rounds_succ]
  go_wp2
  go_ret
  exact ⟨rfl, 0, rfl⟩
set_option maxHeartbeats 1000000 in
theorem equal_cells (ga ia gb ib c d : Nat) (l : List Pr) (w : World) (ha : PL w (some ⟨ga, ia, none⟩) l) (hb : PL w (some ⟨gb, ib, none⟩) l) (hl : l.length ≤ 70000) :
    Calls Try.prog 39 #[.slice (some ⟨ga, ia, none⟩) l.length c, .slice (some ⟨gb, ib, none⟩) l.length d] w fun e w' => e = .returned (.bool true) ∧ ∃ m, w' = w.drewN m := by
  have HA := Lib.hid ha
  have HB := Lib.hid hb
  obtain ⟨n, hn⟩ : ∃ n, l.length = n := ⟨_, rfl⟩
  have HN := Lib.hid hn
  rw [hn] at hl ⊢
  clear ha hb hn
  have hl' : (n : Int) ≤ 70000 := by omega
  go_enter Try.func39, Try.ntmps39
  go_wp2
  go_loopw [13] (fun i wr => ∃ k m : Nat, k ≤ n ∧ i = .int .i64 (k : Int) ∧ wr = w.drewN m) (fun i _ => n - (intOf i).toNat)
  case atStart => exact ⟨0, 0, Nat.zero_le _, rfl, rfl⟩
  case round =>
    obtain ⟨k, m, hk, rfl, rfl⟩ := hrel
    by_cases hlt : k < n
    · have hkl : k < l.length := by rw [HN.out]; exact hlt
      obtain ⟨p, hp⟩ : ∃ p, l[k]? = some p := ⟨_, List.getElem?_eq_getElem hkl⟩
      obtain ⟨g', i', e', _, a0, a1, a2, a3⟩ := HA.out.at hp
      cases e'
      obtain ⟨g', i', e', _, b0, b1, b2, b3⟩ := HB.out.at hp
      cases e'
      generalize p.id = x0 at a0 b0
      generalize ((p.n : Nat) : Int) = x1 at a1 b1
      generalize bs p.text = x2 at a2 b2
      generalize bs p.value = x3 at a3 b3
      have g1 : (k : Int) < (n : Int) := by omega
      clear hp hkl
      go_wp2
      go_quiet (fail)
      go_wp2
      go_roundw
      case rel => exact ⟨k + 1, _, by omega, by go_num, rfl⟩
      case measure => simp [intOf]; omega
    · obtain rfl : k = n := by omega
      go_wp2
      go_ret
      exact ⟨rfl, m, rfl⟩
theorem equal_props (A B : Option Addr) (n c d : Nat) (l : List Pr) (w : World) (hA : PL w A l) (hB : PL w B l) (hn : l.length = n) (hl : l.length ≤ 70000) :
    Calls Try.prog 39 #[.slice A n c, .slice B n d] w fun e w' => e = .returned (.bool true) ∧ ∃ m, w' = w.drewN m := by
  subst hn
  by_cases h : l = []
  · subst h
    exact equal_nothing A B c d w
  · obtain ⟨ga, ia, rfl, _⟩ := hA.addr h
    obtain ⟨gb, ib, rfl, _⟩ := hB.addr h
    exact equal_cells ga ia gb ib c d l w hA hB hl

theorem psame_props (A B : Option Addr) (n c d : Nat) (l : List Pr) (w : World) (hA : PL w A l) (hB : PL w B l) (hn : l.length = n) (hl : l.length ≤ 70000) :
    Calls Try.prog 20 #[.slice A n c, .slice B n d] w fun e w' => e = .returned (.bool true) ∧ ∃ m, w' = w.drewN m := by
  have EQ := Lib.hid (equal_props A B n c d l w hA hB hn hl)
  clear hA hB hn hl
  go_enter Try.func20, Try.ntmps20
  go_wp2_with fail
  refine (EQ.out).mono ?_
  rintro e w1 ⟨rfl, m, rfl⟩
  go_wp2_with fail
  go_ret
  exact ⟨rfl, m, rfl⟩
end Go.Proofs.Ytgdaojihpjfjiaa
