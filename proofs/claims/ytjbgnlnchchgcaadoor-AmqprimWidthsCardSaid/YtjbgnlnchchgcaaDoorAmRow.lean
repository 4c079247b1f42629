/-
  A list of numbers that is gathered, as it lies in memory; whether two such lists are the same (polyglotkit.Same). Condition: at most 1,000 numbers.
-/
import Derived.Laws.IdiomCopy
import Derived.Deep.LoopGhost
import Derived.Deep.QuietTactic
import Derived.Test.YtjbgnlnchchgcaaDoorTopStr
import Derived.Test.YtjbgnlnchchgcaaDoorCl
import Derived.Test.YtjbgnlnchchgcaaDoorAppEq
import Derived.Test.YtjbgnlnchchgcaaDoorKit
namespace Go.Proofs.YtjbgnlnchchgcaaDoor
open Go.RowKit

def ivA (x : Nat) : Value := .int .i64 (x : Nat)
/-- The slice v holds the numbers l. -/
def RowA (W : World) (v : Value) (l : List Nat) : Prop := (l = [] ∧ v = .slice none 0 0) ∨ ∃ g c, v = .slice (some ⟨g, 0, none⟩) l.length c ∧ g < W.heap.size ∧ ∀ (i x : Nat), l[i]? = some x → W.cell? ⟨g, i, none⟩ = some (.int .i64 (x : Int))
theorem RowA.below {W W' : World} {v : Value} {l : List Nat} (h : RowA W v l) (hb : Below W.heap.size W W') : RowA W' v l := by
  rcases h with h | ⟨g, c, h1, h4, h5⟩
  · exact .inl h
  · exact .inr ⟨g, c, h1, Nat.lt_of_lt_of_le h4 hb.size, fun i x hx => (hb.cell (p := ⟨g, i, none⟩) h4).trans (h5 i x hx)⟩
theorem RowA.lit (W : World) (l : List Nat) (n : Nat) (cs : Array Value) (hn : l.length = n) (hc : cs = (l.map ivA).toArray) : RowA (W.alloc (.cells cs 3)) (.slice (some ⟨W.heap.size, 0, none⟩) n n) l := by
  subst hn hc
  refine .inr ⟨_, l.length, rfl, by simp, fun i x hx => ?_⟩
  rw [World.cell?_alloc_at _ _ _ _ rfl]
  simp [hx, ivA]
theorem rowA_below {w w' : World} {base n size : Nat} {t : TypeId} {v : Value} {xs : List Value} (h : w.ownsRow base t size v n xs) (hb : Below w.heap.size w w') : w'.ownsRow base t size v n xs :=
  h.kept (row := none) ⟨hb.os, hb.tape, hb.output, hb.size, fun k hk _ => hb.block k hk⟩ (by cases v.ownBlock <;> simp)
/-- What stands while numbers are gathered. -/
structure AmS (w : World) (G : List Nat) (x : Value) (W : World) : Prop where
  low : Below w.heap.size w W
  own : W.ownsRow w.heap.size 3 1 x G.length (G.map ivA)
theorem infoA : (Tryd.prog.info? 3).map (fun i => (i.zero, i.size, i.bytes)) = some (some (.int .i64 0), 1, 8) := by kernel_rfl
section
variable {w W W' : World} {G : List Nat} {x x' : Value}
theorem AmS.start (w : World) : AmS w [] (.slice none 0 0) w := ⟨Below.refl _ _, World.ownsRow_nil _ _ _ _⟩
theorem AmS.call (h : AmS w G x W) (hb : Below W.heap.size W W') : AmS w G x W' := ⟨h.low.trans (hb.mono h.low.size), rowA_below h.own hb⟩
theorem AmS.app (h : AmS w G x W) (p : Nat) (hG : G.length ≤ 2000) (n : Nat) : ∃ x' W', (Builtin.append_ #[41, 41] 41 #[x, .slice (some ⟨W.heap.size, 0, none⟩) 1 1]).run Tryd.prog ((W.alloc (.cells #[.int .i64 (p : Nat)] 3)).drewN n) = .ok x' W' ∧ AmS w (G ++ [p]) x' W' := by
  obtain ⟨i0, hi, hz0, hz1, hz2⟩ := info_parts infoA
  have SA : AmS w G x ((W.alloc (.cells #[.int .i64 (p : Nat)] 3)).drewN n) := h.call (below_draws ((Below.refl _ _).alloc (Nat.le_refl _) _) n)
  obtain ⟨x', W', hr, ho, hg, -, hor⟩ := run_append_own_at (P := Tryd.prog) ((W.alloc (.cells #[.int .i64 (p : Nat)] 3)).drewN n) w.heap.size 41 41 3 i0 (.int .i64 0) 1 8 Tryd.underlying41 hi hz0 hz1 hz2 rfl (by decide) x G.length (G.map ivA) SA.own ⟨W.heap.size, 0, none⟩ 1 1 [.int .i64 (p : Nat)] rfl
    (fun j u hj => by
      rw [Addr.add_lit, Nat.zero_add]
      refine (show ((W.alloc (.cells #[.int .i64 (p : Nat)] 3)).drewN n).cell? ⟨W.heap.size, j, none⟩ = (W.alloc (.cells #[.int .i64 (p : Nat)] 3)).cell? ⟨W.heap.size, j, none⟩ from rfl).trans ?_
      rw [World.cell?_alloc_at _ _ _ _ rfl]
      simpa using hj) (by simp [Value.oneCell']) (by simp only [maxLen]; omega) (by omega) SA.low.size
  refine ⟨x', W', hr, SA.low.grown hg SA.low.size (fun j hj => (SA.own.lt j hj).1), ?_⟩
  rw [List.length_append, List.map_append]
  exact ho
theorem AmS.row (h : AmS w G x W) : RowA W x G := by
  rcases h.own.2 with ⟨rfl, hn⟩ | ⟨g, cap, cur, rfl, hbg, hg, hrest⟩
  · exact .inl ⟨List.eq_nil_of_length_eq_zero hn, rfl⟩
  · refine .inr ⟨g, cap, rfl, lt_of_block hg, fun i x hx => ?_⟩
    have hc := h.own.cells (g := g) rfl i (ivA x) (by rw [List.getElem?_map, hx]; rfl)
    have hadd : (⟨g, 0, none⟩ : Addr).add i = ⟨g, i, none⟩ := by unfold Addr.add; split <;> simp_all
    rw [hadd] at hc
    exact hc
end
set_option maxRecDepth 100000 in
set_option maxHeartbeats 1000000 in
theorem same_row (v v' : Value) (l : List Nat) (w : World) (h1 : RowA w v l) (h2 : RowA w v' l) (hl : l.length ≤ 1000) :
    Calls Tryd.prog 17 #[v, v'] w fun e w' => e = .returned (.bool true) ∧ Below w.heap.size w w' := by
  have LB := Lib.hid (Below.refl w.heap.size w)
  rcases h1 with ⟨e1, rfl⟩ | ⟨g, c, rfl, _, hc⟩
  · subst e1
    rcases h2 with ⟨_, rfl⟩ | ⟨g', c', rfl, _, hc'⟩
    all_goals
      go_enter Tryd.func17, Tryd.ntmps17
      go_wp2_with fail
      go_loopg [5] 0 (fun gk s5 wx => gk = 0 ∧ s5 = .int .i64 0 ∧ w = wx)
      case atStart => exact ⟨rfl, rfl, rfl⟩
      case round =>
        obtain ⟨rfl, rfl, rfl⟩ := hrel
        go_wp2_with fail
        go_ret
        exact ⟨rfl, LB.out⟩
  · rcases h2 with ⟨e1, rfl⟩ | ⟨g', c', rfl, _, hc'⟩
    · subst e1
      go_enter Tryd.func17, Tryd.ntmps17
      go_wp2_with fail
      go_loopg [5] 0 (fun gk s5 wx => gk = 0 ∧ s5 = .int .i64 0 ∧ w = wx)
      case atStart => exact ⟨rfl, rfl, rfl⟩
      case round =>
        obtain ⟨rfl, rfl, rfl⟩ := hrel
        go_wp2_with fail
        go_ret
        exact ⟨rfl, LB.out⟩
    · have HC := Lib.hid hc
      have HC' := Lib.hid hc'
      clear hc hc'
      obtain ⟨n, hn⟩ : ∃ n, l.length = n := ⟨_, rfl⟩
      rw [hn] at hl ⊢
      have HN := Lib.hid hn
      have n1 : (n : Int) ≤ 1000 := by omega
      clear hn hl
      go_enter Tryd.func17, Tryd.ntmps17
      go_wp2_with fail
      go_loopg [5] n (fun gk s5 wx => ∃ k : Nat, k ≤ n ∧ gk = n - k ∧ s5 = .int .i64 (k : Int) ∧ ∃ m, wx = w.drewN m)
      case atStart => exact ⟨0, Nat.zero_le _, rfl, rfl, 0, rfl⟩
      case round =>
        obtain ⟨k, hk, rfl, rfl, m, rfl⟩ := hrel
        by_cases hlt : k < n
        · have HK := Lib.hid hlt
          obtain ⟨x, hx⟩ : ∃ x, l[k]? = some x := ⟨_, List.getElem?_eq_getElem (by rw [HN.out]; exact hlt)⟩
          have hc1 := HC.out k x hx
          have hc2 := HC'.out k x hx
          have k0 : (0 : Int) ≤ (k : Int) := by omega
          have k1 : (k : Int) < (n : Int) := by omega
          clear hx
          go_wp2_with fail
          go_quiet (fail)
          go_wp2_with fail
          go_roundg (n - (k + 1))
          case measure => have := HK.out; omega
          case rel => exact ⟨k + 1, HK.out, rfl, by go_num, m + nq, rfl⟩
        · obtain rfl : k = n := by omega
          clear hlt
          go_wp2_with fail
          go_ret
          exact ⟨rfl, below_draws LB.out _⟩
end Go.Proofs.YtjbgnlnchchgcaaDoor
