/-
  Lists of integers of one's own: polyglotkit.Own[int], an append to what it returns. Condition: at most 2,000 integers.
-/
import Derived.Deep.QuietTactic
import Derived.WalkSmall
import Derived.Deep.RegionHeld3
import Derived.Test.YtecadfnajogffaaPick
import Derived.Test.YtecadfnajogffaaChkSort
namespace Go.Proofs.Ytecadfnajogffaa
open Go.RowKit

theorem IR.owned {W : World} {base n : Nat} {v : Value} {zs : List Int} (h : W.ownsRow base 3 1 v n (zcs zs)) (hn : zs.length = n) : ∃ A c, v = .slice A n c ∧ IR W A zs := by
  obtain ⟨A, c, hx, -, hcl, -⟩ := CL.owned h (by rw [zcs_length, hn, Nat.mul_one])
  refine ⟨A, c, hx, fun hne => ?_⟩
  obtain ⟨g, i, e, hg, hc⟩ := hcl (fun e => by rw [← zcs_length, e] at hne; exact Nat.lt_irrefl _ hne)
  exact ⟨_, e, hg, fun j hj => by rw [Addr.add_lit]; exact hc j _ (zcs_get hj)⟩
theorem IR.cells {W : World} {a : Addr} {zs : List Int} (h : IR W (some a) zs) : ∀ j u, (zcs zs)[j]? = some u → W.cell? (a.add j) = some u := fun j u hu => by
  have hj : j < zs.length := by
    have := (List.getElem?_eq_some_iff.1 hu).1
    rwa [zcs_length] at this
  obtain ⟨a', e, _, hc⟩ := h (by omega)
  cases e
  rw [hc j hj, ← hu, zcs_get hj]
theorem IR.take {W : World} {A : Option Addr} {zs : List Int} (h : IR W A zs) (k : Nat) : IR W A (zs.take k) := fun hne => by
  rw [List.length_take] at hne
  obtain ⟨a, e, hg, hc⟩ := h (by omega)
  refine ⟨a, e, hg, fun i hi => ?_⟩
  rw [List.length_take] at hi
  rw [hc i (by omega)]
  simp [List.getD, List.getElem?_take_of_lt (show i < k by omega)]
theorem add_add (a : Addr) (i j : Nat) : (a.add i).add j = a.add (i + j) := by
  unfold Addr.add
  by_cases hi : i = 0
  · subst hi
    rw [if_pos rfl, Nat.zero_add]
  · rw [if_neg hi, if_neg (show ¬i + j = 0 by omega)]
    by_cases hj : j = 0
    · subst hj
      rw [if_pos rfl, Nat.add_zero]
    · rw [if_neg hj, Nat.add_assoc]
theorem IR.drop {W : World} {a : Addr} {zs : List Int} (h : IR W (some a) zs) (k : Nat) : IR W (some (a.add k)) (zs.drop k) := fun hne => by
  rw [List.length_drop] at hne
  obtain ⟨a', e, hg, hc⟩ := h (by omega)
  cases e
  refine ⟨_, rfl, by rw [addr_block]; exact hg, fun i hi => ?_⟩
  rw [List.length_drop] at hi
  rw [add_add, hc (k + i) (by omega)]
  simp [List.getD, List.getElem?_drop]
theorem IR.none_nil {W : World} {zs : List Int} (h : IR W none zs) : zs = [] := by
  cases zs with
  | nil => rfl
  | cons x l => obtain ⟨a, e, _⟩ := h (Nat.succ_pos _); cases e
set_option maxRecDepth 100000 in
set_option maxHeartbeats 1000000 in
theorem own_zcs (A : Option Addr) (n c : Nat) (zs : List Int) (w : World) (ha : IR w A zs) (hn : zs.length = n) (hl : n ≤ 2000) :
    Calls Try.prog 7 #[.slice A n c] w fun e w' => ∃ v, e = .returned v ∧ w'.ownsRow w.heap.size 3 1 v n (zcs zs) ∧ Below w.heap.size w w' := by
  subst hn
  obtain ⟨i0, hi, hz0, hz1, hz2⟩ := info_parts infoInt
  cases A with
  | none =>
    have hnil : zs = [] := by
      cases zs with
      | nil => rfl
      | cons x l => obtain ⟨a, e, _⟩ := ha (Nat.succ_pos _); cases e
    subst hnil
    clear ha
    go_enter Try.func7, Try.ntmps7
    go_wp2_with fail
    go_ret
    exact ⟨_, rfl, World.ownsRow_made w #[] 0 (Nat.le_refl _) (by decide) rfl, (Below.refl _ _).alloc (Nat.le_refl _) _⟩
  | some a =>
    have SRC := Lib.hid ((ha.kept ((Below.refl _ _).alloc (Nat.le_refl _) (.cells #[] 3))).cells)
    have HL := Lib.hid hl
    clear ha hl
    go_enter Try.func7, Try.ntmps7
    go_wp2_with (at_builtin; refine wpList_append_own _ rfl _ _ 22 rfl w.heap.size 3 i0 (.int .i64 0) 1 8 Try.underlying22 hi hz0 hz1 hz2 rfl (by decide) _ 0 [] rfl (World.ownsRow_made w #[] 0 (Nat.le_refl _) (by decide) rfl) a zs.length c (zcs zs) rfl (by rw [zcs_length, Nat.mul_one]) SRC.out (zcs_one zs) (by have := HL.out; simp only [maxLen]; omega) (by have := HL.out; omega) (by simp) ?_; intro v' w1 hown hgrow _)
    go_ret
    rw [Nat.zero_add, List.nil_append] at hown
    refine ⟨_, rfl, hown, ⟨hgrow.os, hgrow.tape, hgrow.output, by have := hgrow.size; simp at this; omega, fun k hk => ?_⟩⟩
    rw [hgrow.block k (by rw [World.size_alloc]; omega) (fun e => by have e2 : k = w.heap.size := Option.some.inj e; omega)]
    exact (Below.heap_alloc w _ k hk)
theorem step_append_zcs {W : World} {ops : Array Oper} {o : Oper} {a : Act} {K : Act → World → Prop} {Q : Exit → Act → World → Prop} {E : Prop} (hgd : o.guard = none) (s x : Operand)
    (ho : o.op = .call { callee := .builtin .append, args := #[s, x], argTypes := #[22, 22] })
    {v : Value} {base nA m c : Nat} {B : Addr} {L M : List Int} (hs : a.eval s = v) (hx : a.eval x = .slice (some B) m c) (hown : W.ownsRow base 3 1 v nA (zcs L)) (hM : IR W (some B) M) (hm : M.length = m) (hn : nA + m ≤ 3000) (hb : base ≤ W.heap.size)
    (h : ∀ v' w', w'.ownsRow base 3 1 v' (nA + m) (zcs (L ++ M)) → Below base W w' → K (a.put o.dst v') w') : if Region.wanted o (yielded ops a.tmps) = true then Oper.wp Try.prog o a W K Q else E := by
  obtain ⟨i0, hi, hz0, hz1, hz2⟩ := info_parts infoInt
  obtain ⟨v', w', hr, h2, h3, _, _⟩ := run_append_own_at (P := Try.prog) W base 22 o.type 3 i0 (.int .i64 0) 1 8 Try.underlying22 hi hz0 hz1 hz2 rfl (by decide) v nA (zcs L) hown B m c (zcs M) (by rw [zcs_length, hm, Nat.mul_one]) hM.cells (zcs_one M) (by simp only [maxLen]; omega) (by omega) hb
  refine step_of_app hgd s x _ _ ho hs hx hr (h v' w' ?_ ((Below.refl _ _).grown h3 hb (fun j hj => (hown.lt j hj).1)))
  have e : zcs (L ++ M) = zcs L ++ zcs M := by simp [zcs]
  rw [e]
  exact h2
theorem run_append_none {W : World} {base nA c : Nat} {v : Value} {L : List Int} (ty : TypeId) (hown : W.ownsRow base 3 1 v nA (zcs L)) : (Builtin.append_ #[22, 22] ty #[v, .slice none 0 c]).run Try.prog W = .ok v W := by
  obtain ⟨i0, hi, hz0, hz1, hz2⟩ := info_parts infoInt
  rcases hown.2 with ⟨rfl, rfl⟩ | ⟨g, cap, cur, rfl, h2, h3, h4, h5, h6, _⟩
  · go_simp
  · go_simp
theorem step_append_none {W : World} {ops : Array Oper} {o : Oper} {a : Act} {K : Act → World → Prop} {Q : Exit → Act → World → Prop} {E : Prop} (hgd : o.guard = none) (s x : Operand)
    (ho : o.op = .call { callee := .builtin .append, args := #[s, x], argTypes := #[22, 22] })
    {v : Value} {base nA m c : Nat} {L : List Int} (hs : a.eval s = v) (hx : a.eval x = .slice none m c) (hm : m = 0) (hown : W.ownsRow base 3 1 v nA (zcs L))
    (h : K (a.put o.dst v) W) : if Region.wanted o (yielded ops a.tmps) = true then Oper.wp Try.prog o a W K Q else E := by
  subst hm
  exact step_of_app hgd s x _ _ ho hs hx (run_append_none _ hown) h
theorem pick_none (n : Int) (w : World) :
    Calls Try.prog 6 #[.int .i64 n, .int .i64 0] w fun e w' => e = .returned (.int .i64 0) ∧ w = w' := by
  go_enter Try.func6, Try.ntmps6
  go_wp2
  go_ret
  exact ⟨rfl, rfl⟩
theorem pick_le (t : Int) (n : Nat) (hn : n ≤ 1000000) : ∃ k : Nat, k ≤ n ∧ ∀ w, Calls Try.prog 6 #[.int .i64 t, .int .i64 (n : Int)] w fun e w' => e = .returned (.int .i64 (k : Int)) ∧ w = w' := by
  by_cases h : n = 0
  · subst h
    exact ⟨0, Nat.le_refl _, fun w => pick_none t w⟩
  · have h1 := Int.emod_nonneg t (b := (n : Int)) (by omega)
    have h2 := Int.emod_lt_of_pos t (b := (n : Int)) (by omega)
    refine ⟨(t % (n : Int)).toNat, by omega, fun w => ?_⟩
    have := pick_any t (n : Int) w (by omega) (by omega)
    rwa [← Int.toNat_of_nonneg h1] at this
end Go.Proofs.Ytecadfnajogffaa
