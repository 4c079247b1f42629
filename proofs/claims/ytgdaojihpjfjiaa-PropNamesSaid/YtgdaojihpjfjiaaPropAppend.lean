/-
  An append to a list of properties that is owned. Condition: fewer than 3,000 properties.
-/
import Derived.Maps.AppendAt
import Derived.Deep.AppendLies
import Derived.Test.YtgdaojihpjfjiaaPropKit
namespace Go.Proofs.Ytgdaojihpjfjiaa
open Go.RowKit

/-- What an append to a list that is owned leaves. -/
theorem below_own {W W' : World} {base n size : Nat} {t : TypeId} {v : Value} {xs : List Value} (h : W.ownsRow base t size v n xs) (hg : W.grownBy W' v.ownBlock) (hb : base ≤ W.heap.size) : Below base W W' := by
  rcases h.2 with ⟨rfl, _⟩ | ⟨g, cap, cur, rfl, hbg, _⟩
  · exact ⟨hg.os, hg.tape, hg.output, hg.size, fun k hk => hg.block k (Nat.lt_of_lt_of_le hk hb) (fun e => by cases e)⟩
  · exact below_grown_row hg hb hbg
/-- The cells behind an address. -/
theorem PL.cells {W : World} {g i : Nat} {l : List Pr} (h : PL W (some ⟨g, i, none⟩) l) : ∀ j u, (pcs l)[j]? = some u → W.cell? ((⟨g, i, none⟩ : Addr).add j) = some u := fun j u hu => by
  have hj : j < l.length * 4 := by
    have := (List.getElem?_eq_some_iff.1 hu).1
    rwa [pcs_length] at this
  obtain ⟨p, hp⟩ : ∃ p, l[j / 4]? = some p := ⟨_, List.getElem?_eq_getElem (by omega)⟩
  obtain ⟨g', i', e', hg, a0, a1, a2, a3⟩ := h.at hp
  cases e'
  have e1 : j = j / 4 * 4 + j % 4 := by omega
  have hq : (pcs l)[j]? = (pc p)[j % 4]? := by
    have := pcs_get l (j / 4) (j % 4) p hp (by omega)
    rwa [← e1] at this
  rw [hu] at hq
  rw [Addr.add_lit g i j]
  have hr : j % 4 = 0 ∨ j % 4 = 1 ∨ j % 4 = 2 ∨ j % 4 = 3 := by omega
  rcases hr with h | h | h | h
  · rw [h] at hq; rw [show i + j = i + j / 4 * 4 by omega, a0]; exact hq.symm
  · rw [h] at hq; rw [show i + j = i + j / 4 * 4 + 1 by omega, a1]; exact hq.symm
  · rw [h] at hq; rw [show i + j = i + j / 4 * 4 + 2 by omega, a2]; exact hq.symm
  · rw [h] at hq; rw [show i + j = i + j / 4 * 4 + 3 by omega, a3]; exact hq.symm
set_option maxRecDepth 100000 in
theorem run_append_props {W : World} {v : Value} {base nA g i m c : Nat} {L M : List Pr} (ty : TypeId) (hown : W.ownsRow base 25 4 v nA (pcs L)) (hM : PL W (some ⟨g, i, none⟩) M) (hm : M.length = m) (hn : nA + m ≤ 3000) (hb : base ≤ W.heap.size) :
    ∃ v' w', (Builtin.append_ #[26, 26] ty #[v, .slice (some ⟨g, i, none⟩) m c]).run Try.prog W = .ok v' w' ∧ w'.ownsRow base 25 4 v' (nA + m) (pcs (L ++ M)) ∧ Below base W w' := by
  obtain ⟨i0, hi, hz0, hz1, hz2⟩ := info_parts infoP
  obtain ⟨v', w', hr, h2, h3, _, _⟩ := run_append_own_at (P := Try.prog) W base 26 ty 25 i0 (.agg #[.int .i64 0, .int .u32 0, .string .empty, .string .empty]) 4 48 Try.underlying26 hi hz0 hz1 hz2 rfl (by decide) v nA (pcs L) hown ⟨g, i, none⟩ m c (pcs M) (by rw [pcs_length, hm]) hM.cells (pcs_one M) (by simp only [maxLen]; omega) (by omega) hb
  rw [← pcs_append] at h2
  exact ⟨v', w', hr, h2, below_own hown h3 hb⟩
theorem wp_of_append {P : Program} {W : World} {o : Oper} {a : Act} {K : Act → World → Prop} {Q : Exit → Act → World → Prop} (s x : Operand) (t : TypeId)
    (ho : o.op = .call { callee := .builtin .append, args := #[s, x], argTypes := #[t, t] }) {v sl v' : Value} {w' : World} (hs : a.eval s = v) (hx : a.eval x = sl)
    (hr : (Builtin.append_ #[t, t] o.type #[v, sl]).run P W = .ok v' w') (h : K (a.put o.dst v') w') : o.wp P a W K Q := by
  unfold Oper.wp execOp
  simp only [ho, resolve, invoke, builtin, Sem.run_bind, Sem.run_pure, Result.andThen_ok, List.map_toArray, List.map_cons, List.map_nil, hs, hx, hr]
  exact h
/-- At the operation. -/
theorem wp_append_props {W : World} {o : Oper} {a : Act} {K : Act → World → Prop} {Q : Exit → Act → World → Prop} (s x : Operand)
    (ho : o.op = .call { callee := .builtin .append, args := #[s, x], argTypes := #[26, 26] })
    {v : Value} {base nA g i m c : Nat} {L M : List Pr} (hs : a.eval s = v) (hx : a.eval x = .slice (some ⟨g, i, none⟩) m c) (hown : W.ownsRow base 25 4 v nA (pcs L)) (hM : PL W (some ⟨g, i, none⟩) M) (hm : M.length = m) (hn : nA + m ≤ 3000) (hb : base ≤ W.heap.size)
    (h : ∀ v' w', w'.ownsRow base 25 4 v' (nA + m) (pcs (L ++ M)) → Below base W w' → K (a.put o.dst v') w') : o.wp Try.prog a W K Q := by
  obtain ⟨v', w', hr, h2, h3⟩ := run_append_props o.type hown hM hm hn hb
  exact wp_of_append s x _ ho hs hx hr (h v' w' h2 h3)
/-- At a step of a region that draws. -/
theorem step_append_props {W : World} {ops : Array Oper} {o : Oper} {a : Act} {K : Act → World → Prop} {Q : Exit → Act → World → Prop} {E : Prop} (hgd : o.guard = none) (s x : Operand)
    (ho : o.op = .call { callee := .builtin .append, args := #[s, x], argTypes := #[26, 26] })
    {v : Value} {base nA g i m c : Nat} {L M : List Pr} (hs : a.eval s = v) (hx : a.eval x = .slice (some ⟨g, i, none⟩) m c) (hown : W.ownsRow base 25 4 v nA (pcs L)) (hM : PL W (some ⟨g, i, none⟩) M) (hm : M.length = m) (hn : nA + m ≤ 3000) (hb : base ≤ W.heap.size)
    (h : ∀ v' w', w'.ownsRow base 25 4 v' (nA + m) (pcs (L ++ M)) → Below base W w' → K (a.put o.dst v') w') : if Region.wanted o (yielded ops a.tmps) = true then Oper.wp Try.prog o a W K Q else E := by
  have hw : Region.wanted o (yielded ops a.tmps) = true := by simp [Region.wanted, hgd]
  rw [if_pos hw]
  exact wp_append_props s x ho hs hx hown hM hm hn hb h
end Go.Proofs.Ytgdaojihpjfjiaa
