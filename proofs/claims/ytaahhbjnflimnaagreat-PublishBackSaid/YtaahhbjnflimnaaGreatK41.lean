/-
  The contracts of polyglotkit.LightProps and Own at lists of properties, and of prop.Get. Condition: strings no longer than memory allows.
  An append to a list of properties that is owned. Condition: fewer than 3,000 properties.
-/
import Derived.Deep.QuietTactic
import Derived.WalkSmall
import Derived.Maps.AppendAt
import Derived.Deep.AppendLies
import Derived.Test.YtaahhbjnflimnaaGreatK25
import Derived.Test.YtaahhbjnflimnaaGreatK29
namespace Go.Proofs.YtaahhbjnflimnaaGreat
open Go.RowKit

theorem infoP : (Tryz.prog.info? 46).map (fun i => (i.zero, i.size, i.bytes)) = some (some (.agg #[.int .i64 0, .int .u32 0, .string .empty, .string .empty]), 4, 48) := by kernel_rfl
theorem own_nothing (A : Option Addr) (c : Nat) (w : World) :
    Calls Tryz.prog 44 #[.slice A 0 c] w fun e w' => ∃ v, e = .returned v ∧ w'.ownsRow w.heap.size 46 4 v 0 (pcs []) ∧ Below w.heap.size w w' := by
  obtain ⟨i0, hi, hz0, hz1, hz2⟩ := info_parts infoP
  cases A with
  | none =>
    go_enter Tryz.func44, Tryz.ntmps44
    go_wp2_with fail
    go_ret
    exact ⟨_, rfl, World.ownsRow_made w #[] 0 (Nat.le_refl _) (by decide) rfl, (Below.refl _ _).alloc (Nat.le_refl _) _⟩
  | some a =>
    go_enter Tryz.func44, Tryz.ntmps44
    go_wp2_with (at_builtin; refine wpList_append_own _ rfl _ _ 22 rfl w.heap.size 46 i0 (.agg #[.int .i64 0, .int .u32 0, .string .empty, .string .empty]) 4 48 Tryz.underlying22 hi hz0 hz1 hz2 rfl (by decide) _ 0 [] rfl (World.ownsRow_made w #[] 0 (Nat.le_refl _) (by decide) rfl) a 0 c (pcs []) rfl (pcs_length []) (fun j u hu => by simp [pcs] at hu) (pcs_one []) (by decide) (by decide) (by simp) ?_; intro v' w1 hown hgrow _)
    go_ret
    rw [Nat.zero_add, List.nil_append] at hown
    refine ⟨_, rfl, hown, ⟨hgrow.os, hgrow.tape, hgrow.output, by have := hgrow.size; simp at this; omega, fun k hk => ?_⟩⟩
    rw [hgrow.block k (by rw [World.size_alloc]; omega) (fun e => by have e2 : k = w.heap.size := Option.some.inj e; omega)]
    exact (Below.heap_alloc w _ k hk)
set_option maxHeartbeats 1000000 in
theorem own_some (g i c : Nat) (l : List Pr) (w : World) (ha : PL w (some ⟨g, i, none⟩) l) (hl : l.length ≤ 2000) :
    Calls Tryz.prog 44 #[.slice (some ⟨g, i, none⟩) l.length c] w fun e w' => ∃ v, e = .returned v ∧ w'.ownsRow w.heap.size 46 4 v l.length (pcs l) ∧ Below w.heap.size w w' := by
  obtain ⟨i0, hi, hz0, hz1, hz2⟩ := info_parts infoP
  have src : ∀ j u, (pcs l)[j]? = some u → (w.alloc (.cells #[] 46)).cell? ((⟨g, i, none⟩ : Addr).add j) = some u := fun j u hu => by
    have hj : j < l.length * 4 := by
      have := (List.getElem?_eq_some_iff.1 hu).1
      rwa [pcs_length] at this
    obtain ⟨p, hp⟩ : ∃ p, l[j / 4]? = some p := ⟨_, List.getElem?_eq_getElem (by omega)⟩
    obtain ⟨g', i', e', hg, a0, a1, a2, a3⟩ := ha.at hp
    cases e'
    have e1 : j = j / 4 * 4 + j % 4 := by omega
    have hq : (pcs l)[j]? = (pc p)[j % 4]? := by
      have := pcs_get l (j / 4) (j % 4) p hp (by omega)
      rwa [← e1] at this
    rw [hu] at hq
    have hadd : (⟨g, i, none⟩ : Addr).add j = ⟨g, i + j, none⟩ := Addr.add_lit g i j
    rw [hadd, World.cell?_alloc_old _ _ _ (Nat.ne_of_lt hg)]
    have hr : j % 4 = 0 ∨ j % 4 = 1 ∨ j % 4 = 2 ∨ j % 4 = 3 := by omega
    rcases hr with h | h | h | h
    · rw [h] at hq; rw [show i + j = i + j / 4 * 4 by omega, a0]; exact hq.symm
    · rw [h] at hq; rw [show i + j = i + j / 4 * 4 + 1 by omega, a1]; exact hq.symm
    · rw [h] at hq; rw [show i + j = i + j / 4 * 4 + 2 by omega, a2]; exact hq.symm
    · rw [h] at hq; rw [show i + j = i + j / 4 * 4 + 3 by omega, a3]; exact hq.symm
  have SRC := Lib.hid src
  have HL := Lib.hid hl
  clear src ha hl
  go_enter Tryz.func44, Tryz.ntmps44
  go_wp2_with (at_builtin; refine wpList_append_own _ rfl _ _ 22 rfl w.heap.size 46 i0 (.agg #[.int .i64 0, .int .u32 0, .string .empty, .string .empty]) 4 48 Tryz.underlying22 hi hz0 hz1 hz2 rfl (by decide) _ 0 [] rfl (World.ownsRow_made w #[] 0 (Nat.le_refl _) (by decide) rfl) ⟨g, i, none⟩ l.length c (pcs l) rfl (pcs_length l) SRC.out (pcs_one l) (by have := HL.out; simp only [maxLen]; omega) (by have := HL.out; omega) (by simp) ?_; intro v' w1 hown hgrow _)
  go_ret
  rw [Nat.zero_add, List.nil_append] at hown
  refine ⟨_, rfl, hown, ⟨hgrow.os, hgrow.tape, hgrow.output, by have := hgrow.size; simp at this; omega, fun k hk => ?_⟩⟩
  rw [hgrow.block k (by rw [World.size_alloc]; omega) (fun e => by have e2 : k = w.heap.size := Option.some.inj e; omega)]
  exact (Below.heap_alloc w _ k hk)
theorem own_props (A : Option Addr) (n c : Nat) (l : List Pr) (w : World) (ha : PL w A l) (hn : l.length = n) (hl : n ≤ 2000) :
    Calls Tryz.prog 44 #[.slice A n c] w fun e w' => ∃ v, e = .returned v ∧ w'.ownsRow w.heap.size 46 4 v n (pcs l) ∧ Below w.heap.size w w' := by
  subst hn
  by_cases h : l = []
  · subst h
    exact own_nothing A c w
  · obtain ⟨g, i, rfl, _⟩ := ha.addr h
    exact own_some g i c l w ha hl
end Go.Proofs.YtaahhbjnflimnaaGreat
namespace Go.Proofs.YtaahhbjnflimnaaGreat
open Go.RowKit

/-- What an append to a list that is owned leaves. -/
theorem below_own {W W' : World} {base n size : Nat} {t : TypeId} {v : Value} {xs : List Value} (h : W.ownsRow base t size v n xs) (hg : W.grownBy W' v.ownBlock) (hb : base ≤ W.heap.size) : Below base W W' := by
  rcases h.2 with ⟨rfl, _⟩ | ⟨g, cap, cur, rfl, hbg, _⟩
  · exact ⟨hg.os, hg.tape, hg.output, hg.size, fun k hk => hg.block k (Nat.lt_of_lt_of_le hk hb) (fun e => by cases e)⟩
  · exact below_grown_row hg hb hbg
/-- The cells behind an address. -/
theorem PL.cells {W : World} {g i : Nat} {l : List Pr} (h : PL W (some ⟨g, i, none⟩) l) : ∀ j u, (pcs l)[j]? = some u → W.cell? ((⟨g, i, none⟩ : Addr).add j) = some u := fun j u hu => by
  have hj : j < l.length * 4 := by
    have := (List.getElem?_eq_some_iff.1 hu).1
    rwa [pcs_length] at this
  obtain ⟨p, hp⟩ : ∃ p, l[j / 4]? = some p := ⟨_, List.getElem?_eq_getElem (by omega)⟩
  obtain ⟨g', i', e', hg, a0, a1, a2, a3⟩ := h.at hp
  cases e'
  have e1 : j = j / 4 * 4 + j % 4 := by omega
  have hq : (pcs l)[j]? = (pc p)[j % 4]? := by
    have := pcs_get l (j / 4) (j % 4) p hp (by omega)
    rwa [← e1] at this
  rw [hu] at hq
  rw [Addr.add_lit g i j]
  have hr : j % 4 = 0 ∨ j % 4 = 1 ∨ j % 4 = 2 ∨ j % 4 = 3 := by omega
  rcases hr with h | h | h | h
  · rw [h] at hq; rw [show i + j = i + j / 4 * 4 by omega, a0]; exact hq.symm
  · rw [h] at hq; rw [show i + j = i + j / 4 * 4 + 1 by omega, a1]; exact hq.symm
  · rw [h] at hq; rw [show i + j = i + j / 4 * 4 + 2 by omega, a2]; exact hq.symm
  · rw [h] at hq; rw [show i + j = i + j / 4 * 4 + 3 by omega, a3]; exact hq.symm
set_option maxRecDepth 100000 in
theorem run_append_props {W : World} {v : Value} {base nA g i m c : Nat} {L M : List Pr} (ty : TypeId) (hown : W.ownsRow base 46 4 v nA (pcs L)) (hM : PL W (some ⟨g, i, none⟩) M) (hm : M.length = m) (hn : nA + m ≤ 3000) (hb : base ≤ W.heap.size) :
    ∃ v' w', (Builtin.append_ #[22, 22] ty #[v, .slice (some ⟨g, i, none⟩) m c]).run Tryz.prog W = .ok v' w' ∧ w'.ownsRow base 46 4 v' (nA + m) (pcs (L ++ M)) ∧ Below base W w' := by
  obtain ⟨i0, hi, hz0, hz1, hz2⟩ := info_parts infoP
  obtain ⟨v', w', hr, h2, h3, _, _⟩ := run_append_own_at (P := Tryz.prog) W base 22 ty 46 i0 (.agg #[.int .i64 0, .int .u32 0, .string .empty, .string .empty]) 4 48 Tryz.underlying22 hi hz0 hz1 hz2 rfl (by decide) v nA (pcs L) hown ⟨g, i, none⟩ m c (pcs M) (by rw [pcs_length, hm]) hM.cells (pcs_one M) (by simp only [maxLen]; omega) (by omega) hb
  rw [← pcs_append] at h2
  exact ⟨v', w', hr, h2, below_own hown h3 hb⟩
theorem wp_of_append {P : Program} {W : World} {o : Oper} {a : Act} {K : Act → World → Prop} {Q : Exit → Act → World → Prop} (s x : Operand) (t : TypeId)
    (ho : o.op = .call { callee := .builtin .append, args := #[s, x], argTypes := #[t, t] }) {v sl v' : Value} {w' : World} (hs : a.eval s = v) (hx : a.eval x = sl)
    (hr : (Builtin.append_ #[t, t] o.type #[v, sl]).run P W = .ok v' w') (h : K (a.put o.dst v') w') : o.wp P a W K Q := by
  unfold Oper.wp execOp
  simp only [ho, resolve, invoke, builtin, Sem.run_bind, Sem.run_pure, Result.andThen_ok, List.map_toArray, List.map_cons, List.map_nil, hs, hx, hr]
  exact h
/-- At the operation. -/
theorem wp_append_props {W : World} {o : Oper} {a : Act} {K : Act → World → Prop} {Q : Exit → Act → World → Prop} (s x : Operand)
    (ho : o.op = .call { callee := .builtin .append, args := #[s, x], argTypes := #[22, 22] })
    {v : Value} {base nA g i m c : Nat} {L M : List Pr} (hs : a.eval s = v) (hx : a.eval x = .slice (some ⟨g, i, none⟩) m c) (hown : W.ownsRow base 46 4 v nA (pcs L)) (hM : PL W (some ⟨g, i, none⟩) M) (hm : M.length = m) (hn : nA + m ≤ 3000) (hb : base ≤ W.heap.size)
    (h : ∀ v' w', w'.ownsRow base 46 4 v' (nA + m) (pcs (L ++ M)) → Below base W w' → K (a.put o.dst v') w') : o.wp Tryz.prog a W K Q := by
  obtain ⟨v', w', hr, h2, h3⟩ := run_append_props o.type hown hM hm hn hb
  exact wp_of_append s x _ ho hs hx hr (h v' w' h2 h3)
/-- At a step of a region that draws. -/
theorem step_append_props {W : World} {ops : Array Oper} {o : Oper} {a : Act} {K : Act → World → Prop} {Q : Exit → Act → World → Prop} {E : Prop} (hgd : o.guard = none) (s x : Operand)
    (ho : o.op = .call { callee := .builtin .append, args := #[s, x], argTypes := #[22, 22] })
    {v : Value} {base nA g i m c : Nat} {L M : List Pr} (hs : a.eval s = v) (hx : a.eval x = .slice (some ⟨g, i, none⟩) m c) (hown : W.ownsRow base 46 4 v nA (pcs L)) (hM : PL W (some ⟨g, i, none⟩) M) (hm : M.length = m) (hn : nA + m ≤ 3000) (hb : base ≤ W.heap.size)
    (h : ∀ v' w', w'.ownsRow base 46 4 v' (nA + m) (pcs (L ++ M)) → Below base W w' → K (a.put o.dst v') w') : if Region.wanted o (yielded ops a.tmps) = true then Oper.wp Tryz.prog o a W K Q else E := by
  have hw : Region.wanted o (yielded ops a.tmps) = true := by simp [Region.wanted, hgd]
  rw [if_pos hw]
  exact wp_append_props s x ho hs hx hown hM hm hn hb h
end Go.Proofs.YtaahhbjnflimnaaGreat
