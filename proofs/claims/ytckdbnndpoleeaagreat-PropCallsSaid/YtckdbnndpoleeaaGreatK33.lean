/-
  An append to a list of properties that is owned. Condition: fewer than 3,000 properties.
  The contracts of polyglotkit.Same and prop.Same at two lists of the same properties. Condition: at most 70,000.
  The walk of polyglotlaw05.PropCalls where a list, the property, or the bytes are too long. Condition: strings no longer than memory allows.
-/
import Derived.Maps.AppendAt
import Derived.Deep.AppendLies
import Derived.Deep.QuietTactic
import Derived.Test.YtckdbnndpoleeaaGreatK32
import Derived.Test.YtckdbnndpoleeaaGreatK30
namespace Go.Proofs.YtckdbnndpoleeaaGreat
open Go.RowKit

/-- What an append to a list that is owned leaves. -/
theorem below_own {W W' : World} {base n size : Nat} {t : TypeId} {v : Value} {xs : List Value} (h : W.ownsRow base t size v n xs) (hg : W.grownBy W' v.ownBlock) (hb : base ≤ W.heap.size) : Below base W W' := by
  rcases h.2 with ⟨rfl, _⟩ | ⟨g, cap, cur, rfl, hbg, _⟩
  · exact ⟨hg.os, hg.tape, hg.output, hg.size, fun k hk => hg.block k (Nat.lt_of_lt_of_le hk hb) (fun e => by cases e)⟩
  · exact below_grown_row hg hb hbg
/-- The cells behind an address. -/
theorem PL.cells {W : World} {g i : Nat} {l : List Pr} (h : PL W (some ⟨g, i, none⟩) l) : ∀ j u, (pcs l)[j]? = some u → W.cell? ((⟨g, i, none⟩ : Addr).add j) = some u := fun j u hu => by
  have hj : j < l.length * 4 := by
    have := (List.getElem?_eq_some_iff.1 hu).1
    rwa [pcs_length] at this
  obtain ⟨p, hp⟩ : ∃ p, l[j / 4]? = some p := ⟨_, List.getElem?_eq_getElem (by omega)⟩
  obtain ⟨g', i', e', hg, a0, a1, a2, a3⟩ := h.at hp
  cases e'
  have e1 : j = j / 4 * 4 + j % 4 := by omega
  have hq : (pcs l)[j]? = (pc p)[j % 4]? := by
    have := pcs_get l (j / 4) (j % 4) p hp (by omega)
    rwa [← e1] at this
  rw [hu] at hq
  rw [Addr.add_lit g i j]
  have hr : j % 4 = 0 ∨ j % 4 = 1 ∨ j % 4 = 2 ∨ j % 4 = 3 := by omega
  rcases hr with h | h | h | h
  · rw [h] at hq; rw [show i + j = i + j / 4 * 4 by omega, a0]; exact hq.symm
  · rw [h] at hq; rw [show i + j = i + j / 4 * 4 + 1 by omega, a1]; exact hq.symm
  · rw [h] at hq; rw [show i + j = i + j / 4 * 4 + 2 by omega, a2]; exact hq.symm
  · rw [h] at hq; rw [show i + j = i + j / 4 * 4 + 3 by omega, a3]; exact hq.symm
set_option maxRecDepth 100000 in
theorem run_append_props {W : World} {v : Value} {base nA g i m c : Nat} {L M : List Pr} (ty : TypeId) (hown : W.ownsRow base 24 4 v nA (pcs L)) (hM : PL W (some ⟨g, i, none⟩) M) (hm : M.length = m) (hn : nA + m ≤ 3000) (hb : base ≤ W.heap.size) :
    ∃ v' w', (Builtin.append_ #[25, 25] ty #[v, .slice (some ⟨g, i, none⟩) m c]).run Tryz.prog W = .ok v' w' ∧ w'.ownsRow base 24 4 v' (nA + m) (pcs (L ++ M)) ∧ Below base W w' := by
  obtain ⟨i0, hi, hz0, hz1, hz2⟩ := info_parts infoP
  obtain ⟨v', w', hr, h2, h3, _, _⟩ := run_append_own_at (P := Tryz.prog) W base 25 ty 24 i0 (.agg #[.int .i64 0, .int .u32 0, .string .empty, .string .empty]) 4 48 Tryz.underlying25 hi hz0 hz1 hz2 rfl (by decide) v nA (pcs L) hown ⟨g, i, none⟩ m c (pcs M) (by rw [pcs_length, hm]) hM.cells (pcs_one M) (by simp only [maxLen]; omega) (by omega) hb
  rw [← pcs_append] at h2
  exact ⟨v', w', hr, h2, below_own hown h3 hb⟩
theorem wp_of_append {P : Program} {W : World} {o : Oper} {a : Act} {K : Act → World → Prop} {Q : Exit → Act → World → Prop} (s x : Operand) (t : TypeId)
    (ho : o.op = .call { callee := .builtin .append, args := #[s, x], argTypes := #[t, t] }) {v sl v' : Value} {w' : World} (hs : a.eval s = v) (hx : a.eval x = sl)
    (hr : (Builtin.append_ #[t, t] o.type #[v, sl]).run P W = .ok v' w') (h : K (a.put o.dst v') w') : o.wp P a W K Q := by
  unfold Oper.wp execOp
  simp only [ho, resolve, invoke, builtin, Sem.run_bind, Sem.run_pure, Result.andThen_ok, List.map_toArray, List.map_cons, List.map_nil, hs, hx, hr]
  exact h
/-- At the operation. -/
theorem wp_append_props {W : World} {o : Oper} {a : Act} {K : Act → World → Prop} {Q : Exit → Act → World → Prop} (s x : Operand)
    (ho : o.op = .call { callee := .builtin .append, args := #[s, x], argTypes := #[25, 25] })
    {v : Value} {base nA g i m c : Nat} {L M : List Pr} (hs : a.eval s = v) (hx : a.eval x = .slice (some ⟨g, i, none⟩) m c) (hown : W.ownsRow base 24 4 v nA (pcs L)) (hM : PL W (some ⟨g, i, none⟩) M) (hm : M.length = m) (hn : nA + m ≤ 3000) (hb : base ≤ W.heap.size)
    (h : ∀ v' w', w'.ownsRow base 24 4 v' (nA + m) (pcs (L ++ M)) → Below base W w' → K (a.put o.dst v') w') : o.wp Tryz.prog a W K Q := by
  obtain ⟨v', w', hr, h2, h3⟩ := run_append_props o.type hown hM hm hn hb
  exact wp_of_append s x _ ho hs hx hr (h v' w' h2 h3)
/-- At a step of a region that draws. -/
theorem step_append_props {W : World} {ops : Array Oper} {o : Oper} {a : Act} {K : Act → World → Prop} {Q : Exit → Act → World → Prop} {E : Prop} (hgd : o.guard = none) (s x : Operand)
    (ho : o.op = .call { callee := .builtin .append, args := #[s, x], argTypes := #[25, 25] })
    {v : Value} {base nA g i m c : Nat} {L M : List Pr} (hs : a.eval s = v) (hx : a.eval x = .slice (some ⟨g, i, none⟩) m c) (hown : W.ownsRow base 24 4 v nA (pcs L)) (hM : PL W (some ⟨g, i, none⟩) M) (hm : M.length = m) (hn : nA + m ≤ 3000) (hb : base ≤ W.heap.size)
    (h : ∀ v' w', w'.ownsRow base 24 4 v' (nA + m) (pcs (L ++ M)) → Below base W w' → K (a.put o.dst v') w') : if Region.wanted o (yielded ops a.tmps) = true then Oper.wp Tryz.prog o a W K Q else E := by
  have hw : Region.wanted o (yielded ops a.tmps) = true := by simp [Region.wanted, hgd]
  rw [if_pos hw]
  exact wp_append_props s x ho hs hx hown hM hm hn hb h
end Go.Proofs.YtckdbnndpoleeaaGreat
namespace Go.Proofs.YtckdbnndpoleeaaGreat
open Go.RowKit

theorem ksame_nothing (A B : Option Addr) (c d : Nat) (w : World) :
    Calls Tryz.prog 23 #[.slice A 0 c, .slice B 0 d] w fun e w' => e = .returned (.bool true) ∧ ∃ m, w' = w.drewN m := by
  go_enter Tryz.func23, Tryz.ntmps23
  go_wp2
  refine wp_loop_rounds 1 ?_
  rw [rounds_succ]
  go_wp2
  go_ret
  exact ⟨rfl, 0, rfl⟩
set_option maxHeartbeats 1000000 in
theorem ksame_cells (ga ia gb ib c d : Nat) (l : List Pr) (w : World) (ha : PL w (some ⟨ga, ia, none⟩) l) (hb : PL w (some ⟨gb, ib, none⟩) l) (hl : l.length ≤ 70000) :
    Calls Tryz.prog 23 #[.slice (some ⟨ga, ia, none⟩) l.length c, .slice (some ⟨gb, ib, none⟩) l.length d] w fun e w' => e = .returned (.bool true) ∧ ∃ m, w' = w.drewN m := by
  have HA := Lib.hid ha
  have HB := Lib.hid hb
  obtain ⟨n, hn⟩ : ∃ n, l.length = n := ⟨_, rfl⟩
  have HN := Lib.hid hn
  rw [hn] at hl ⊢
  clear ha hb hn
  have hl' : (n : Int) ≤ 70000 := by omega
  go_enter Tryz.func23, Tryz.ntmps23
  go_wp2
  go_loopw [5] (fun i wr => ∃ k m : Nat, k ≤ n ∧ i = .int .i64 (k : Int) ∧ wr = w.drewN m) (fun i _ => n - (intOf i).toNat)
  case atStart => exact ⟨0, 0, Nat.zero_le _, rfl, rfl⟩
  case round =>
    obtain ⟨k, m, hk, rfl, rfl⟩ := hrel
    by_cases hlt : k < n
    · have hkl : k < l.length := by rw [HN.out]; exact hlt
      obtain ⟨p, hp⟩ : ∃ p, l[k]? = some p := ⟨_, List.getElem?_eq_getElem hkl⟩
      obtain ⟨g', i', e', _, a0, a1, a2, a3⟩ := HA.out.at hp
      cases e'
      obtain ⟨g', i', e', _, b0, b1, b2, b3⟩ := HB.out.at hp
      cases e'
      generalize p.id = x0 at a0 b0
      generalize ((p.n : Nat) : Int) = x1 at a1 b1
      generalize bs p.text = x2 at a2 b2
      generalize bs p.value = x3 at a3 b3
      have g1 : (k : Int) < (n : Int) := by omega
      clear hp hkl
      go_wp2
      go_quiet (fail)
      go_wp2
      go_roundw
      case rel => exact ⟨k + 1, _, by omega, by go_num, rfl⟩
      case measure => simp [intOf]; omega
    · obtain rfl : k = n := by omega
      go_wp2
      go_ret
      exact ⟨rfl, m, rfl⟩
theorem ksame_props (A B : Option Addr) (n c d : Nat) (l : List Pr) (w : World) (hA : PL w A l) (hB : PL w B l) (hn : l.length = n) (hl : l.length ≤ 70000) :
    Calls Tryz.prog 23 #[.slice A n c, .slice B n d] w fun e w' => e = .returned (.bool true) ∧ ∃ m, w' = w.drewN m := by
  subst hn
  by_cases h : l = []
  · subst h
    exact ksame_nothing A B c d w
  · obtain ⟨ga, ia, rfl, _⟩ := hA.addr h
    obtain ⟨gb, ib, rfl, _⟩ := hB.addr h
    exact ksame_cells ga ia gb ib c d l w hA hB hl

theorem equal_nothing (A B : Option Addr) (c d : Nat) (w : World) :
    Calls Tryz.prog 48 #[.slice A 0 c, .slice B 0 d] w fun e w' => e = .returned (.bool true) ∧ ∃ m, w' = w.drewN m := by
  go_enter Tryz.func48, Tryz.ntmps48
  go_wp2
  refine wp_loop_rounds 1 ?_
  rw [rounds_succ]
  go_wp2
  go_ret
  exact ⟨rfl, 0, rfl⟩
set_option maxHeartbeats 1000000 in
theorem equal_cells (ga ia gb ib c d : Nat) (l : List Pr) (w : World) (ha : PL w (some ⟨ga, ia, none⟩) l) (hb : PL w (some ⟨gb, ib, none⟩) l) (hl : l.length ≤ 70000) :
    Calls Tryz.prog 48 #[.slice (some ⟨ga, ia, none⟩) l.length c, .slice (some ⟨gb, ib, none⟩) l.length d] w fun e w' => e = .returned (.bool true) ∧ ∃ m, w' = w.drewN m := by
  have HA := Lib.hid ha
  have HB := Lib.hid hb
  obtain ⟨n, hn⟩ : ∃ n, l.length = n := ⟨_, rfl⟩
  have HN := Lib.hid hn
  rw [hn] at hl ⊢
  clear ha hb hn
  have hl' : (n : Int) ≤ 70000 := by omega
  go_enter Tryz.func48, Tryz.ntmps48
  go_wp2
  go_loopw [13] (fun i wr => ∃ k m : Nat, k ≤ n ∧ i = .int .i64 (k : Int) ∧ wr = w.drewN m) (fun i _ => n - (intOf i).toNat)
  case atStart => exact ⟨0, 0, Nat.zero_le _, rfl, rfl⟩
  case round =>
    obtain ⟨k, m, hk, rfl, rfl⟩ := hrel
    by_cases hlt : k < n
    · have hkl : k < l.length := by rw [HN.out]; exact hlt
      obtain ⟨p, hp⟩ : ∃ p, l[k]? = some p := ⟨_, List.getElem?_eq_getElem hkl⟩
      obtain ⟨g', i', e', _, a0, a1, a2, a3⟩ := HA.out.at hp
      cases e'
      obtain ⟨g', i', e', _, b0, b1, b2, b3⟩ := HB.out.at hp
      cases e'
      generalize p.id = x0 at a0 b0
      generalize ((p.n : Nat) : Int) = x1 at a1 b1
      generalize bs p.text = x2 at a2 b2
      generalize bs p.value = x3 at a3 b3
      have g1 : (k : Int) < (n : Int) := by omega
      clear hp hkl
      go_wp2
      go_quiet (fail)
      go_wp2
      go_roundw
      case rel => exact ⟨k + 1, _, by omega, by go_num, rfl⟩
      case measure => simp [intOf]; omega
    · obtain rfl : k = n := by omega
      go_wp2
      go_ret
      exact ⟨rfl, m, rfl⟩
theorem equal_props (A B : Option Addr) (n c d : Nat) (l : List Pr) (w : World) (hA : PL w A l) (hB : PL w B l) (hn : l.length = n) (hl : l.length ≤ 70000) :
    Calls Tryz.prog 48 #[.slice A n c, .slice B n d] w fun e w' => e = .returned (.bool true) ∧ ∃ m, w' = w.drewN m := by
  subst hn
  by_cases h : l = []
  · subst h
    exact equal_nothing A B c d w
  · obtain ⟨ga, ia, rfl, _⟩ := hA.addr h
    obtain ⟨gb, ib, rfl, _⟩ := hB.addr h
    exact equal_cells ga ia gb ib c d l w hA hB hl

theorem psame_props (A B : Option Addr) (n c d : Nat) (l : List Pr) (w : World) (hA : PL w A l) (hB : PL w B l) (hn : l.length = n) (hl : l.length ≤ 70000) :
    Calls Tryz.prog 24 #[.slice A n c, .slice B n d] w fun e w' => e = .returned (.bool true) ∧ ∃ m, w' = w.drewN m := by
  have EQ := Lib.hid (equal_props A B n c d l w hA hB hn hl)
  clear hA hB hn hl
  go_enter Tryz.func24, Tryz.ntmps24
  go_wp2_with fail
  refine (EQ.out).mono ?_
  rintro e w1 ⟨rfl, m, rfl⟩
  go_wp2_with fail
  go_ret
  exact ⟨rfl, m, rfl⟩
end Go.Proofs.YtckdbnndpoleeaaGreat
namespace Go.Proofs.YtckdbnndpoleeaaGreat
open Go.RowKit

section
variable (kind id : Int) (p : Pr) (A : Option Addr) (n c : Nat) (l : List Pr) (s : ByteArray) (w : World) (hp1 : p.text.length ≤ 140737488351232) (hp2 : p.value.length ≤ 140737488351232)
  (hl : PL w A l) (hn : l.length = n) (hm : ∀ p ∈ l, p.text.length ≤ 140737488351232 ∧ p.value.length ≤ 140737488351232)
include hl hn hm
set_option maxRecDepth 100000 in
theorem calls_dark (h : lightP l = false) :
    Calls Tryz.prog 3 #[.int .i64 kind, .int .i64 id, propV p, .slice A n c, .string s] w fun e w' => e = .returned (.bool true) ∧ Below w.heap.size w w' := by
  have LT := fun W (hb : Below w.heap.size w W) => light_any A n c l W (hl.below hb) hn hm
  rw [h] at LT
  have LT := Lib.hid LT
  have BW := Lib.hid (show Below w.heap.size w (w.alloc (.cells #[.int .i64 p.id, .int .u32 p.n, .string (bs p.text), .string (bs p.value)] 24)) from (Below.refl _ _).alloc (Nat.le_refl _) _)
  clear hl hn hm h
  unfold propV
  go_enter Tryz.func3, Tryz.ntmps3
  go_wp2_with fail
  generalize w.alloc (.cells #[.int .i64 p.id, .int .u32 p.n, .string (bs p.text), .string (bs p.value)] 24) = w0 at *
  refine (lives_prop w0).mono ?_
  rintro e w1 ⟨rfl, hb⟩
  have BW := Lib.hid (BW.out.trans (hb.mono BW.out.size))
  clear hb
  go_wp2_with fail
  refine (LT.out _ BW.out).mono ?_
  rintro e w2 ⟨rfl, m, rfl⟩
  clear LT
  go_wp2_with fail
  go_ret
  exact ⟨rfl, below_draws BW.out _⟩
include hp1 hp2
set_option maxRecDepth 100000 in
theorem calls_far (h : lightP l = true) (h2 : lightP [p] = false ∨ (lightP [p] = true ∧ (2000 : Int) < (s.size : Int))) :
    Calls Tryz.prog 3 #[.int .i64 kind, .int .i64 id, propV p, .slice A n c, .string s] w fun e w' => e = .returned (.bool true) ∧ Below w.heap.size w w' := by
  have LT := fun W (hb : Below w.heap.size w W) => light_any A n c l W (hl.below hb) hn hm
  rw [h] at LT
  have LP := fun (W : World) => light_any (some ⟨W.heap.size, 0, none⟩) 1 1 [p] (W.alloc (.cells #[.int .i64 p.id, .int .u32 p.n, .string (bs p.text), .string (bs p.value)] 24)) (PL.made W [p] _ _ rfl) rfl (fun q hq => by rw [List.mem_singleton.1 hq]; exact ⟨hp1, hp2⟩)
  rcases h2 with h2 | ⟨h2, h3⟩
  all_goals
    rw [h2] at LP
    have LT := Lib.hid LT
    have LP := Lib.hid LP
    clear hl hn hm hp1 hp2 h h2
    have PB := Lib.hid (heap_alloc_new w (.cells #[.int .i64 p.id, .int .u32 p.n, .string (bs p.text), .string (bs p.value)] 24))
    have BW := Lib.hid (show Below w.heap.size w (w.alloc (.cells #[.int .i64 p.id, .int .u32 p.n, .string (bs p.text), .string (bs p.value)] 24)) from (Below.refl _ _).alloc (Nat.le_refl _) _)
    unfold propV
    go_enter Tryz.func3, Tryz.ntmps3
    go_wp2_with fail
    generalize w.alloc (.cells #[.int .i64 p.id, .int .u32 p.n, .string (bs p.text), .string (bs p.value)] 24) = w0 at *
    refine (lives_prop w0).mono ?_
    rintro e w1 ⟨rfl, hb⟩
    have PB := Lib.hid ((hb.block _ (lt_of_block PB.out)).trans PB.out)
    have BW := Lib.hid (BW.out.trans (hb.mono BW.out.size))
    clear hb
    go_wp2_with fail
    refine (LT.out _ BW.out).mono ?_
    rintro e w2 ⟨rfl, m, rfl⟩
    have c0 := cell_of_row _ w.heap.size 0 _ _ _ PB.out
    have c1 := cell_of_row _ w.heap.size 1 _ _ _ PB.out
    have c2 := cell_of_row _ w.heap.size 2 _ _ _ PB.out
    have c3 := cell_of_row _ w.heap.size 3 _ _ _ PB.out
    clear LT
    go_wp2_with fail
    clear c0 c1 c2 c3
    refine (LP.out _).mono ?_
    rintro e w2 ⟨rfl, m2, rfl⟩
    have BW0 := Lib.hid (below_draws ((below_draws BW.out m).alloc BW.out.size (.cells #[.int .i64 p.id, .int .u32 p.n, .string (bs p.text), .string (bs p.value)] 24)) m2)
    clear LP
    go_wp2_with fail
    go_ret
    exact ⟨rfl, BW0.out⟩
end
end Go.Proofs.YtckdbnndpoleeaaGreat
