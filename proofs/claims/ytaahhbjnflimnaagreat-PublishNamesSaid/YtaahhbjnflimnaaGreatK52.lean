/-
  The contract of publish.Read. Condition: the bytes are no more than memory holds.
-/
import Derived.Deep.DeepCutAuto
import Derived.Great.BuildSlice
import Derived.Test.YtaahhbjnflimnaaGreatK51
import Derived.Test.YtaahhbjnflimnaaGreatK26
import Derived.Test.YtaahhbjnflimnaaGreatK23
import Derived.Test.YtaahhbjnflimnaaGreatK50
namespace Go.Proofs.YtaahhbjnflimnaaGreat
open Go.RowKit

def rdrF : Nat → FuncId
  | 0 => 78
  | 1 => 80
  | 2 => 82
  | 3 => 84
  | _ => 86
def rdrC (n B : Nat) : Nat → Array Value
  | 0 => #[.pointer (some ⟨n, 0, none⟩), .pointer (some ⟨n + 1, 0, none⟩)]
  | 1 => #[.pointer (some ⟨n + 2, 0, none⟩), .pointer (some ⟨B, 0, none⟩)]
  | 2 => #[.pointer (some ⟨B, 0, none⟩), .pointer (some ⟨n + 2, 0, none⟩)]
  | 3 => #[.pointer (some ⟨n, 0, none⟩), .pointer (some ⟨n + 2, 0, none⟩), .pointer (some ⟨B, 0, none⟩)]
  | _ => #[.pointer (some ⟨n + 2, 0, none⟩), .pointer (some ⟨B, 0, none⟩), .pointer (some ⟨n, 0, none⟩)]
def rdrR (n B : Nat) : Array Value := #[.func (.func (rdrF 0)) #[] (rdrC n B 0), .func (.func (rdrF 1)) #[] (rdrC n B 1), .func (.func (rdrF 2)) #[] (rdrC n B 2), .func (.func (rdrF 3)) #[] (rdrC n B 3), .func (.func (rdrF 4)) #[] (rdrC n B 4)]
theorem rdr_run (n B k : Nat) (W : World) (hk : k < 5) : (callFunc (rdrF k) (rdrC n B k)).run Tryz.prog W = .ok (.enter (rdrF k) (rdrC n B k)) W := by
  obtain rfl | rfl | rfl | rfl | rfl : k = 0 ∨ k = 1 ∨ k = 2 ∨ k = 3 ∨ k = 4 := by omega
  all_goals kernel_rfl
/-- What stands while publish.Read runs: its boxes, the packet that is read, the rest of the bytes. -/
structure PuS (w : World) (v f : Int) (B : Nat) (P : Pk) (a : Ad) (r : List UInt8) (W : World) : Prop where
  low : Below w.heap.size w W
  vb : W.heap[w.heap.size]? = some (.cells #[.int .i64 v] 3 (0, 0))
  fb : W.heap[w.heap.size + 1]? = some (.cells #[.int .i64 f] 3 (0, 0))
  sb : W.heap[w.heap.size + 2]? = some (.cells #[.string (bs r)] 9 (0, 0))
  rb : W.heap[w.heap.size + 3]? = some (.cells pkZ 28 (0, 0))
  pb : W.heap[B]? = some (.cells (pkC P a) 28 (0, 0))
  fn : W.heap[B + 1]? = some (.cells (rdrR w.heap.size B) 75 (0, 0))
  ps : PL W a.ps P.props
  pc : P.props.length ≤ a.pc
  pf : ∀ g i, a.ps = some ⟨g, i, none⟩ → B + 1 < g
  hB : w.heap.size + 3 < B
  fit : FitU P
  hr : r.length ≤ 140737488351232
section
variable {w W W' : World} {v f : Int} {B : Nat} {P : Pk} {a : Ad} {r : List UInt8}
theorem PuS.at_ (h : PuS w v f B P a r W) : PkAt W P a :=
  ⟨by rw [h.fit.2.2.2.2]; exact fun e => absurd rfl e, by rw [h.fit.2.2.1]; exact CL.nil, by rw [h.fit.2.2.2.1]; exact CL.nil, h.ps⟩
theorem PuS.call (h : PuS w v f B P a r W) (hb : Below W.heap.size W W') : PuS w v f B P a r W' :=
  ⟨below_then h.low hb, (hb.block _ (lt_of_block h.vb)).trans h.vb, (hb.block _ (lt_of_block h.fb)).trans h.fb, (hb.block _ (lt_of_block h.sb)).trans h.sb, (hb.block _ (lt_of_block h.rb)).trans h.rb, (hb.block _ (lt_of_block h.pb)).trans h.pb, (hb.block _ (lt_of_block h.fn)).trans h.fn,
   h.ps.below hb, h.pc, h.pf, h.hB, h.fit, h.hr⟩
theorem PuS.cell (h : PuS w v f B P a r W) (j : Nat) : W.cell? ⟨B, j, none⟩ = (pkC P a)[j]? := cell_of_row _ _ j _ _ _ h.pb
theorem PuS.fr (h : PuS w v f B P a r W) (j : Nat) : W.frozen? ⟨B, j, none⟩ = false := frozen_of_row _ _ _ _ _ h.pb
theorem PuS.s0 (h : PuS w v f B P a r W) : W.cell? ⟨w.heap.size + 2, 0, none⟩ = some (.string (bs r)) := cell_of_row _ _ 0 _ _ _ h.sb
theorem PuS.sf (h : PuS w v f B P a r W) : W.frozen? ⟨w.heap.size + 2, 0, none⟩ = false := frozen_of_row _ _ _ _ _ h.sb
theorem PuS.put (h : PuS w v f B P a r W) (j : Nat) (u : Value) {P' : Pk} {a' : Ad} (he : (pkC P a).setIfInBounds j u = pkC P' a') (ps : PL W a'.ps P'.props) (pc : P'.props.length ≤ a'.pc) (pf : ∀ g i, a'.ps = some ⟨g, i, none⟩ → B + 1 < g) (fit : FitU P') : PuS w v f B P' a' r (W.setCell ⟨B, j, none⟩ u) := by
  have hB := h.hB
  have o : ∀ k, k ≠ B → (W.setCell ⟨B, j, none⟩ u).heap[k]? = W.heap[k]? := fun k hk => heap_setCell_other W ⟨B, j, none⟩ k u hk
  exact ⟨below_set h.low (by omega), (o _ (by omega)).trans h.vb, (o _ (by omega)).trans h.fb, (o _ (by omega)).trans h.sb, (o _ (by omega)).trans h.rb, own_row_set h.pb he, (o _ (by omega)).trans h.fn,
    ps.kept (block_kept W B j u).size (fun g i e _ => o g (by have := pf g i e; omega)), pc, pf, hB, fit, h.hr⟩
theorem PuS.rest (h : PuS w v f B P a r W) (r' : List UInt8) (hr : r'.length ≤ r.length) : PuS w v f B P a r' (W.setCell ⟨w.heap.size + 2, 0, none⟩ (.string (bs r'))) := by
  have hB := h.hB
  have o : ∀ k, k ≠ w.heap.size + 2 → (W.setCell ⟨w.heap.size + 2, 0, none⟩ (.string (bs r'))).heap[k]? = W.heap[k]? := fun k hk => heap_setCell_other W ⟨w.heap.size + 2, 0, none⟩ k _ hk
  exact ⟨below_set h.low (by omega), (o _ (by omega)).trans h.vb, (o _ (by omega)).trans h.fb, own_row_set h.sb rfl, (o _ (by omega)).trans h.rb, (o _ (by omega)).trans h.pb, (o _ (by omega)).trans h.fn,
    h.ps.kept (block_kept W _ 0 _).size (fun g i e _ => o g (by have := h.pf g i e; omega)), h.pc, h.pf, hB, h.fit, Nat.le_trans hr h.hr⟩
set_option maxRecDepth 100000 in
theorem pr_one (h : PuS w v f B P a r W) : Calls Tryz.prog 78 #[.pointer (some ⟨w.heap.size, 0, none⟩), .pointer (some ⟨w.heap.size + 1, 0, none⟩)] W fun e W' => e = .returned (.int .i64 ((checkH v ⟨3, f, 0⟩ : Nat) : Int)) ∧ PuS w v f B P a r W' := by
  have H := Lib.hid h
  have k0 : W.cell? ⟨w.heap.size, 0, none⟩ = some (.int .i64 v) := cell_of_row _ _ 0 _ _ _ h.vb
  have k1 : W.cell? ⟨w.heap.size + 1, 0, none⟩ = some (.int .i64 f) := cell_of_row _ _ 0 _ _ _ h.fb
  have CK := hcheck_any v ⟨3, f, 0⟩ W
  unfold hdV at CK
  replace CK := Lib.hid CK
  clear h
  go_enter Tryz.func78, Tryz.ntmps78
  go_wp2_with fail
  refine (CK.out).mono ?_
  rintro e W' ⟨rfl, hb⟩
  have H2 := Lib.hid (H.out.call hb)
  clear hb
  go_wp2_with fail
  go_ret
  exact ⟨rfl, H2.out⟩
set_option maxRecDepth 100000 in
set_option maxHeartbeats 1000000 in
theorem pr_two (h : PuS w v f B P a r W) : Calls Tryz.prog 80 #[.pointer (some ⟨w.heap.size + 2, 0, none⟩), .pointer (some ⟨B, 0, none⟩)] W fun e W' => e = .returned (.int .i64 (((rdT r).2.2 : Nat) : Int)) ∧ PuS w v f B { P with topic := (rdT r).1 } a (r.drop (rdT r).2.1) W' := by
  have H := Lib.hid h
  have k0 := h.s0
  have RT := pub_read_topic (bs r) W (by rw [bs_size]; have := h.hr; omega)
  rw [bs_data] at RT
  unfold Ret3 at RT
  have ht := (rdT_le r).2
  obtain ⟨t, htt⟩ : ∃ t, rdT r = t := ⟨_, rfl⟩
  rw [htt] at RT ht ⊢
  obtain ⟨x, z, g⟩ := t
  simp only at RT ht ⊢
  replace RT := Lib.hid RT
  have FT := Lib.hid (fit_topic h.fit x ht)
  have hd : (r.drop z).length ≤ r.length := by rw [List.length_drop]; omega
  have HD := Lib.hid hd
  clear h htt ht hd
  go_enter Tryz.func80, Tryz.ntmps80
  go_wp2_with fail
  refine (RT.out).mono ?_
  rintro e W' ⟨rfl, hb⟩
  have H2 := Lib.hid (H.out.call hb)
  clear hb k0
  have H3 := Lib.hid (H2.out.put 5 (.string (bs x)) (P' := { P with topic := x }) (a' := a) rfl H2.out.ps H2.out.pc H2.out.pf FT.out)
  have H4 := Lib.hid (H3.out.rest (r.drop z) HD.out)
  have n5 : W'.cell? ⟨B, 5, none⟩ = some (.string (bs P.topic)) := H2.out.cell 5
  have f5 := H2.out.fr 5
  have ns := H3.out.s0
  have fs := H3.out.sf
  go_wp2_with fail
  go_ret
  exact ⟨rfl, H4.out⟩
set_option maxRecDepth 100000 in
set_option maxHeartbeats 1000000 in
theorem pr_three (h : PuS w v f B P a r W) : Calls Tryz.prog 82 #[.pointer (some ⟨B, 0, none⟩), .pointer (some ⟨w.heap.size + 2, 0, none⟩)] W fun e W' => e = .returned (.int .i64 ((((Cs.mk r 0).optN (P.qos != 0)).2.e : Nat) : Int)) ∧ PuS w v f B { P with id := (((Cs.mk r 0).optN (P.qos != 0)).1 : Nat) } a ((Cs.mk r 0).optN (P.qos != 0)).2.r W' := by
  have H := Lib.hid h
  have k0 := h.s0
  have k3 : W.cell? ⟨B, 3, none⟩ = some (.int .i64 P.qos) := h.cell 3
  have RI := pub_read_id P.qos (bs r) W (by rw [bs_size]; have := h.hr; omega)
  rw [bs_data] at RI
  unfold Ret3 at RI
  have hd : ((Cs.mk r 0).optN (P.qos != 0)).2.r.length ≤ r.length := by
    unfold Cs.optN
    split
    · unfold Cs.num Cs.take
      split
      · exact Nat.le_refl _
      · split
        · exact Nat.le_refl _
        · exact (List.drop_sublist _ _).length_le
    · exact Nat.le_refl _
  obtain ⟨t, htt⟩ : ∃ t, (Cs.mk r 0).optN (P.qos != 0) = t := ⟨_, rfl⟩
  rw [htt] at RI hd ⊢
  obtain ⟨n, y⟩ := t
  simp only at RI hd ⊢
  replace RI := Lib.hid RI
  have FT := Lib.hid (fit_id h.fit (n : Nat))
  have HD := Lib.hid hd
  clear h htt hd
  go_enter Tryz.func82, Tryz.ntmps82
  go_wp2_with fail
  refine (RI.out).mono ?_
  rintro e W' ⟨rfl, hb⟩
  have H2 := Lib.hid (H.out.call hb)
  clear hb k0 k3
  have H3 := Lib.hid (H2.out.put 4 (.int .i64 (n : Int)) (P' := { P with id := (n : Nat) }) (a' := a) rfl H2.out.ps H2.out.pc H2.out.pf FT.out)
  have H4 := Lib.hid (H3.out.rest y.r HD.out)
  have n4 : W'.cell? ⟨B, 4, none⟩ = some (.int .i64 P.id) := H2.out.cell 4
  have f4 := H2.out.fr 4
  have ns := H3.out.s0
  have fs := H3.out.sf
  go_wp2_with fail
  go_ret
  exact ⟨rfl, H4.out⟩
set_option maxRecDepth 100000 in
set_option maxHeartbeats 1000000 in
theorem pr_four (h : PuS w v f B P a r W) : Calls Tryz.prog 84 #[.pointer (some ⟨w.heap.size, 0, none⟩), .pointer (some ⟨w.heap.size + 2, 0, none⟩), .pointer (some ⟨B, 0, none⟩)] W fun e W' => e = .returned (.int .i64 ((((Cs.mk r 0).props v 3).2.e : Nat) : Int)) ∧ ∃ a', PuS w v f B { P with props := ((Cs.mk r 0).props v 3).1 } a' ((Cs.mk r 0).props v 3).2.r W' := by
  have H := Lib.hid h
  have k0 := h.s0
  have kv : W.cell? ⟨w.heap.size, 0, none⟩ = some (.int .i64 v) := cell_of_row _ _ 0 _ _ _ h.vb
  have RP := pub_read_props v (bs r) W (by rw [bs_size]; have := h.hr; omega)
  rw [bs_data] at RP
  unfold Ret3 at RP
  have hd : ((Cs.mk r 0).props v 3).2.r.length ≤ r.length := by
    unfold Cs.props
    split
    · exact Nat.le_refl _
    · exact (List.drop_sublist _ _).length_le
  have hf := props_fit (Cs.mk r 0) v 3
  obtain ⟨t, htt⟩ : ∃ t, (Cs.mk r 0).props v 3 = t := ⟨_, rfl⟩
  rw [htt] at RP hd hf ⊢
  obtain ⟨L, y⟩ := t
  simp only at RP hd hf ⊢
  replace RP := Lib.hid RP
  have FT := Lib.hid (fit_props h.fit L hf.2 hf.1)
  have HD := Lib.hid hd
  have HB := Lib.hid (lt_of_block h.fn)
  clear h htt hd hf
  go_enter Tryz.func84, Tryz.ntmps84
  go_wp2_with fail
  refine (RP.out).mono ?_
  rintro e W' ⟨A, c, ⟨rfl, hb⟩, hl, hP, hg⟩
  have H2 := Lib.hid (H.out.call hb)
  have H3 := Lib.hid (H2.out.put 24 (.slice A L.length c) (P' := { P with props := L }) (a' := { a with ps := A, pc := c }) rfl hP hl (fun g i e => by have := hg g i e; have := HB.out; omega) FT.out)
  clear hb k0 kv hl hP hg
  have H4 := Lib.hid (H3.out.rest y.r HD.out)
  have n4 : W'.cell? ⟨B, 24, none⟩ = some (.slice a.ps P.props.length a.pc) := H2.out.cell 24
  have f4 := H2.out.fr 24
  have ns := H3.out.s0
  have fs := H3.out.sf
  go_wp2_with fail
  go_ret
  exact ⟨rfl, _, H4.out⟩
set_option maxRecDepth 100000 in
set_option maxHeartbeats 1000000 in
theorem pr_five (h : PuS w v f B P a r W) : Calls Tryz.prog 86 #[.pointer (some ⟨w.heap.size + 2, 0, none⟩), .pointer (some ⟨B, 0, none⟩), .pointer (some ⟨w.heap.size, 0, none⟩)] W fun e W' => e = .returned (.int .i64 ((validU v { P with payload := r } : Nat) : Int)) ∧ PuS w v f B { P with payload := r } a r W' := by
  have k0 := h.s0
  have H3 := Lib.hid (h.put 6 (.string (bs r)) (P' := { P with payload := r }) (a' := a) rfl h.ps h.pc h.pf (fit_payload h.fit r h.hr))
  have n6 : W.cell? ⟨B, 6, none⟩ = some (.string (bs P.payload)) := h.cell 6
  have f6 := h.fr 6
  have VA := Lib.hid (pub_valid v { P with payload := r } a _ H3.out.at_ H3.out.fit.2.1 H3.out.fit.1 H3.out.pc)
  have kv : (W.setCell ⟨B, 6, none⟩ (.string (bs r))).cell? ⟨w.heap.size, 0, none⟩ = some (.int .i64 v) := cell_of_row _ _ 0 _ _ _ H3.out.vb
  have C1 := Lib.hid (pkC_size { P with payload := r } a)
  clear h
  go_enter Tryz.func86, Tryz.ntmps86
  go_wp2_with (refine wpList_load_row rfl _ _ rfl B rfl 28 _ (0, 0) _ H3.out.pb Tryz.underlying28 rfl (by rw [C1.out]; exact info_pk) ?_)
  refine (VA.out).mono ?_
  rintro e W' ⟨rfl, hb⟩
  have H4 := Lib.hid (H3.out.call hb)
  clear hb
  go_wp2_with fail
  go_ret
  exact ⟨rfl, H4.out⟩
end
/-- Where Read stands behind so many checks: the packet, the rest. -/
def RelR (f : Int) (l : List UInt8) (t : List UInt8 × Cs) (i : Nat × Cs) (p : List Pr × Cs) (X P : Pk) (r : List UInt8) : Nat → Prop
  | 0 => P = descB f ∧ r = l
  | 1 => P = descU f ∧ r = l
  | 2 => P = { descU f with topic := t.1 } ∧ t.2 = ⟨r, 0⟩
  | 3 => P = { descU f with topic := t.1, id := (i.1 : Nat) } ∧ i.2 = ⟨r, 0⟩
  | 4 => P = { descU f with topic := t.1, id := (i.1 : Nat), props := p.1 } ∧ r = p.2.r
  | _ => P = X
/-- What publish.Read returns. -/
def RuRet (w : World) (R : Pk × Nat) (e : Ending) (W : World) : Prop :=
  ∃ a : Ad, e = .returned (.tuple #[.agg (pkC R.1 a), .int .i64 (R.2 : Nat)]) ∧ PkAt W R.1 a ∧ R.1.props.length ≤ a.pc ∧ FitU R.1 ∧ Below w.heap.size w W ∧ (R.2 ≠ 0 → a = adZ)
theorem fit_nil : FitU Pk.zero := by
  refine ⟨⟨by decide, by decide, fun t ht => ?_, fun x hx => (nomatch hx), fun x hx => (nomatch hx), fun x hx => (nomatch hx)⟩, ⟨Nat.zero_le _, Nat.zero_le _, Nat.zero_le _, Nat.zero_le _⟩, rfl, rfl, rfl⟩
  have : t = [] := by simpa [Pk.texts, Pk.zero] using ht
  rw [this]; decide
theorem wrap_range (x : Int) : -9223372036854775808 ≤ wrap64 x ∧ wrap64 x ≤ 9223372036854775807 := by
  unfold wrap64
  omega
theorem cs_eq {s : Cs} {r : List UInt8} (h1 : s.r = r) (h2 : s.e = 0) : s = ⟨r, 0⟩ := by
  obtain ⟨x, y⟩ := s
  cases h1
  cases h2
  rfl
set_option maxRecDepth 100000 in
set_option maxHeartbeats 2000000 in
theorem rdr_first (w : World) (v f : Int) (B : Nat) (l : List UInt8) (W : World) (a : Ad) (hS : PuS w v f B (descB f) a l W) :
    Calls Tryz.prog 77 #[.slice (some ⟨B + 1, 0, none⟩) 5 5] W fun e W' => ∃ r : Nat, e = .returned (.int .i64 (r : Int)) ∧ r = firstE (errsR v f l) ∧ (r ≠ 0 → ∃ P a s, PuS w v f B P a s W') ∧ (r = 0 → ∃ a s, PuS w v f B (partsU v f ⟨l, 0⟩).1 a s W') := by
  obtain ⟨t, ht⟩ : ∃ t, (Cs.mk l 0).text = t := ⟨_, rfl⟩
  obtain ⟨i, hi⟩ : ∃ i, t.2.optN (f / 2 % 4 != 0) = i := ⟨_, rfl⟩
  obtain ⟨p, hp⟩ : ∃ p, i.2.props v 3 = p := ⟨_, rfl⟩
  have hX : (partsU v f ⟨l, 0⟩).1 = { descU f with topic := t.1, id := (i.1 : Nat), props := p.1, payload := p.2.r } := by subst ht hi hp; rfl
  have hE : errsR v f l = [checkH v ⟨3, f, 0⟩, t.2.e, i.2.e, p.2.e, validU v (partsU v f ⟨l, 0⟩).1] := by subst ht hi hp; rfl
  have ht2 : t = ((rdT l).1, ⟨l.drop (rdT l).2.1, (rdT l).2.2⟩) := by rw [← ht]; rfl
  obtain ⟨X, hXX⟩ : ∃ X, (partsU v f ⟨l, 0⟩).1 = X := ⟨_, rfl⟩
  rw [hXX] at hX hE ⊢
  obtain ⟨E, hEE⟩ : ∃ E, firstE (errsR v f l) = E := ⟨_, rfl⟩
  rw [hEE]
  refine (pub_first (B + 1) 5 rdrF (rdrC w.heap.size B) (fun k W => (∃ P a r, PuS w v f B P a r W ∧ RelR f l t i p X P r k) ∧ firstE ((errsR v f l).drop k) = E) (fun r W => (∃ P a s, PuS w v f B P a s W) ∧ r = E) W (by decide)
    (fun k W hk h => by
      obtain ⟨⟨P, a, r, hP, _⟩, _⟩ := h
      rw [cell_of_row _ _ k _ _ _ hP.fn]
      obtain rfl | rfl | rfl | rfl | rfl : k = 0 ∨ k = 1 ∨ k = 2 ∨ k = 3 ∨ k = 4 := by omega
      all_goals rfl)
    (fun k W hk h => by
      obtain ⟨⟨P, a, r, hP, hR⟩, hF⟩ := h
      rw [hE] at hF
      obtain rfl | rfl | rfl | rfl | rfl : k = 0 ∨ k = 1 ∨ k = 2 ∨ k = 3 ∨ k = 4 := by omega
      · obtain ⟨rfl, rfl⟩ := hR
        refine (pr_one hP).mono fun e W' ⟨he, hP'⟩ => ⟨_, he, fun h0 => ⟨⟨_, _, _, hP', ?_⟩, ?_⟩, fun hne => ⟨⟨_, _, _, hP'⟩, ?_⟩⟩
        · refine ⟨desc_u ?_, rfl⟩
          rw [check_u] at h0
          split at h0
          · cases h0
          · split at h0
            · cases h0
            · rename_i h; simpa using h
        · rw [hE]
          simpa [firstE, h0] using hF
        · simpa [firstE, hne] using hF
      · obtain ⟨rfl, rfl⟩ := hR
        refine (pr_two hP).mono fun e W' ⟨he, hP'⟩ => ⟨_, he, fun h0 => ⟨⟨_, _, _, hP', ?_⟩, ?_⟩, fun hne => ⟨⟨_, _, _, hP'⟩, ?_⟩⟩
        · refine ⟨by rw [ht2], ?_⟩
          rw [ht2]
          exact cs_eq rfl h0
        · rw [hE]
          have : t.2.e = 0 := by rw [ht2]; exact h0
          simpa [firstE, this] using hF
        · have e1 : t.2.e = (rdT r).2.2 := by rw [ht2]
          have : t.2.e ≠ 0 := by rw [e1]; exact hne
          rw [← e1]
          simpa [firstE, this] using hF
      · obtain ⟨rfl, hr⟩ := hR
        have hi2 : (Cs.mk r 0).optN (f / 2 % 4 != 0) = i := by rw [← hr]; exact hi
        have P3 := pr_three hP
        rw [show ({ descU f with topic := t.1 } : Pk).qos = f / 2 % 4 from rfl, hi2] at P3
        refine P3.mono fun e W' ⟨he, hP'⟩ => ⟨_, he, fun h0 => ⟨⟨_, _, _, hP', rfl, cs_eq rfl h0⟩, ?_⟩, fun hne => ⟨⟨_, _, _, hP'⟩, ?_⟩⟩
        · rw [hE]
          simpa [firstE, h0] using hF
        · simpa [firstE, hne] using hF
      · obtain ⟨rfl, hr⟩ := hR
        have hp2 : (Cs.mk r 0).props v 3 = p := by rw [← hr]; exact hp
        have P4 := pr_four hP
        rw [hp2] at P4
        refine P4.mono fun e W' ⟨he, a', hP'⟩ => ⟨_, he, fun h0 => ⟨⟨_, _, _, hP', rfl, rfl⟩, ?_⟩, fun hne => ⟨⟨_, _, _, hP'⟩, ?_⟩⟩
        · rw [hE]
          simpa [firstE, h0] using hF
        · simpa [firstE, hne] using hF
      · obtain ⟨rfl, rfl⟩ := hR
        have P5 := pr_five hP
        rw [← hX] at P5
        refine P5.mono fun e W' ⟨he, hP'⟩ => ⟨_, he, fun h0 => ⟨⟨_, _, _, hP', rfl⟩, ?_⟩, fun hne => ⟨⟨_, _, _, hP'⟩, ?_⟩⟩
        · rw [hE]
          simpa [firstE, h0] using hF
        · simpa [firstE, hne] using hF)
    (fun k W hk => rdr_run _ _ k W hk) ⟨⟨_, _, _, hS, rfl, rfl⟩, hEE⟩).mono fun e W' ⟨r, he, h0, h1⟩ => ?_
  by_cases hr : r = 0
  · obtain ⟨⟨P, a, s, hP, hPX⟩, hf⟩ := h0 hr
    rw [hE] at hf
    exact ⟨r, he, hr.trans hf, fun h => absurd hr h, fun _ => ⟨a, s, by rw [← show P = X from hPX]; exact hP⟩⟩
  · obtain ⟨hP, hf⟩ := h1 hr
    exact ⟨r, he, hf, fun _ => hP, fun h => absurd h hr⟩
set_option maxRecDepth 100000 in
set_option maxHeartbeats 2000000 in
theorem pub_read (v f : Int) (s : ByteArray) (w : World) (hm : s.size ≤ 140737488351232) :
    Calls Tryz.prog 23 #[.int .i64 v, .int .i64 f, .string s] w (RuRet w (readU v f s.data.toList)) := by
  have hl : s.data.toList.length ≤ 140737488351232 := by rw [← size_list]; exact hm
  have hR := readU_first v f s.data.toList
  have FI := fun W B a (hS : PuS w v f B (descB f) a s.data.toList W) => rdr_first w v f B s.data.toList W a hS
  obtain ⟨X, hX⟩ : ∃ X, (partsU v f ⟨s.data.toList, 0⟩).1 = X := ⟨_, rfl⟩
  obtain ⟨E, hE⟩ : ∃ E, firstE (errsR v f s.data.toList) = E := ⟨_, rfl⟩
  rw [hX, hE] at hR
  rw [hX, hE] at FI
  obtain ⟨R, hRR⟩ : ∃ R, readU v f s.data.toList = R := ⟨_, rfl⟩
  rw [hRR] at hR ⊢
  have HR := Lib.hid hR
  have DE := Lib.hid (fun W => pub_described f W)
  have FD := Lib.hid (fit_desc f (wrap_range _))
  replace FI := Lib.hid FI
  have HL := Lib.hid hl
  have hmf : ∀ (fn : Fn) (f c : Array Value) (w : World), (Instr.makeFunc fn f c).run Tryz.prog w = .ok (.func fn f c) w := fun _ _ _ _ => rfl
  have HZ := Lib.hid pkZ_size
  have hzv := zero_pk
  have hne : ¬ pkZ = #[] := by intro h; have := pkZ_size; rw [h] at this; cases this
  have ZO : Hid (pkZ.all (·.oneCell') = true) := Lib.hid (pkC_one Pk.zero adZ)
  obtain ⟨W0, hW0⟩ : ∃ W0, (((w.alloc (.cells #[.int .i64 v] 3)).alloc (.cells #[.int .i64 f] 3)).alloc (.cells #[.string s] 9)).alloc (.cells pkZ 28) = W0 := ⟨_, rfl⟩
  have hz0 : W0.heap.size = w.heap.size + 4 := by rw [← hW0]; simp
  have hlow : Below w.heap.size w W0 := by rw [← hW0]; exact below_then (below_then (below_then (below_box _) (below_box _)) (below_box _)) (below_box _)
  have hvb : W0.heap[w.heap.size]? = some (.cells #[.int .i64 v] 3 (0, 0)) := by
    rw [← hW0]
    exact (heap_alloc_old _ _ (by simp only [World.size_alloc]; omega)).trans ((heap_alloc_old _ _ (by simp only [World.size_alloc]; omega)).trans (heap_alloc2_old _ _ _))
  have hfb : W0.heap[w.heap.size + 1]? = some (.cells #[.int .i64 f] 3 (0, 0)) := by
    rw [← hW0]
    exact (heap_alloc_old _ _ (by simp)).trans ((heap_alloc_old _ _ (by simp)).trans (heap_alloc2_new _ _ _))
  have hsb : W0.heap[w.heap.size + 2]? = some (.cells #[.string s] 9 (0, 0)) := by
    rw [← hW0]
    refine (heap_alloc_old _ _ (by simp)).trans ?_
    have := heap_alloc_new ((w.alloc (.cells #[.int .i64 v] 3)).alloc (.cells #[.int .i64 f] 3)) (.cells #[.string s] 9)
    rwa [show ((w.alloc (.cells #[.int .i64 v] 3)).alloc (.cells #[.int .i64 f] 3)).heap.size = w.heap.size + 2 by simp] at this
  have hrb : W0.heap[w.heap.size + 3]? = some (.cells pkZ 28 (0, 0)) := by
    rw [← hW0]
    have := heap_alloc_new (((w.alloc (.cells #[.int .i64 v] 3)).alloc (.cells #[.int .i64 f] 3)).alloc (.cells #[.string s] 9)) (.cells pkZ 28)
    rwa [show (((w.alloc (.cells #[.int .i64 v] 3)).alloc (.cells #[.int .i64 f] 3)).alloc (.cells #[.string s] 9)).heap.size = w.heap.size + 3 by simp] at this
  have W0F := Lib.hid (And.intro hz0 (And.intro hlow (And.intro hvb (And.intro hfb (And.intro hsb hrb)))))
  have k1 : W0.cell? ⟨w.heap.size + 1, 0, none⟩ = some (.int .i64 f) := cell_of_row _ _ 0 _ _ _ hfb
  clear hm hl hX hE hR hRR hz0 hlow hvb hfb hsb hrb
  go_enter Tryz.func23, Tryz.ntmps23
  go_upto_region 1 with fail
  clear hW0
  go_wp2_with fail
  refine (DE.out _).mono ?_
  rintro e W1 ⟨rfl, hb⟩
  have hz1 : W0.heap.size ≤ W1.heap.size := hb.size
  obtain ⟨hz0, hlow, hvb, hfb, hsb, hrb⟩ := W0F.out
  have k : ∀ j o, W0.heap[j]? = some o → ((W1.alloc (.cells pkZ 28)).setRow W1.heap.size (pkC (descB f) adZ)).heap[j]? = some o := fun j o h => by
    have hj := lt_of_block h
    exact (setRow_other _ _ _ _ (by omega)).trans ((heap_alloc_old _ _ (by omega)).trans ((hb.block j hj).trans h))
  have G0 := heap_alloc_new W1 (.cells pkZ 28)
  have LO := below_then hlow (below_then hb (belowRow (below_box (.cells pkZ 28)) (Nat.le_refl _) (pkC (descB f) adZ)))
  have G1 := setRow_heap _ _ _ (pkC (descB f) adZ) _ _ G0
  have hz2 : ((W1.alloc (.cells pkZ 28)).setRow W1.heap.size (pkC (descB f) adZ)).heap.size = W1.heap.size + 1 := by simp [World.setRow]
  have hk := And.intro (k _ _ hvb) (And.intro (k _ _ hfb) (And.intro (k _ _ hsb) (k _ _ hrb)))
  have HK := Lib.hid hk
  have HD1 := Lib.hid (pkC_size (descB f) adZ)
  have HD2 := Lib.hid (pkC_one (descB f) adZ)
  have BF := Lib.hid (show w.heap.size + 3 < W1.heap.size by omega)
  have LO := Lib.hid LO
  have G1 := Lib.hid G1
  have G0 := Lib.hid G0
  have HZ2 := Lib.hid hz2
  clear k hk hz0 hlow hvb hfb hsb hrb hb hz1 hz2 k1 W0F
  go_upto_region 2 with (refine wpList_store_row rfl _ _ _ rfl W1.heap.size (pkC (descB f) adZ) rfl rfl 28 _ G0.out (by rw [HD1.out]; exact info_pk) (by rw [HZ.out, HD1.out]) HD2.out ?_)
  clear G0
  obtain ⟨W2, hW2⟩ : ∃ W2, (W1.alloc (.cells pkZ 28)).setRow W1.heap.size (pkC (descB f) adZ) = W2 := ⟨_, rfl⟩
  rw [hW2] at HK G1 LO HZ2 ⊢
  obtain ⟨B, hB⟩ : ∃ B, W1.heap.size = B := ⟨_, rfl⟩
  rw [hB] at G1 BF HZ2 ⊢
  have LO := Lib.hid (show Below w.heap.size w W2 from LO.out)
  have S2 := fun (h : (W2.alloc (.cells (rdrR w.heap.size B) 75)).heap[B + 1]? = some (.cells (rdrR w.heap.size B) 75 (0, 0))) => FI.out (W2.alloc (.cells (rdrR w.heap.size B) 75)) B adZ
    (have b := below_box (w := W2) (.cells (rdrR w.heap.size B) 75)
     ⟨below_then LO.out b, (b.block _ (lt_of_block HK.out.1)).trans HK.out.1, (b.block _ (lt_of_block HK.out.2.1)).trans HK.out.2.1, (b.block _ (lt_of_block HK.out.2.2.1)).trans HK.out.2.2.1, (b.block _ (lt_of_block HK.out.2.2.2)).trans HK.out.2.2.2, (b.block _ (lt_of_block G1.out)).trans G1.out, h,
      fun e => absurd rfl e, Nat.zero_le _, (fun g i e => by cases e), BF.out, FD.out, HL.out⟩)
  have S2 := S2 (by have := heap_alloc_new W2 (.cells (rdrR w.heap.size B) 75); rwa [HZ2.out] at this)
  have S2 := Lib.hid S2
  have hzz := HZ2.out
  clear hW2 hB HK G1 LO BF FI FD DE HL HZ2
  go_wp2_with fail
  refine (S2.out).mono ?_
  rintro e W4 ⟨r, rfl, hrE, h1, h0⟩
  clear S2 hzz hmf
  by_cases hr : r = 0
  · obtain ⟨a, s', hS⟩ := h0 hr
    have hE0 : E = 0 := hrE.symm.trans hr
    have e1 := pkC_size X a
    have e2 := pkC_one X a
    have RT : RuRet w R (.returned (.tuple #[.agg (pkC X a), .int .i64 0])) (W4.setRow (w.heap.size + 3) (pkC X a)) := by
      rw [HR.out, if_pos hE0]
      have hB := hS.hB
      have hk : PkAt (W4.setRow (w.heap.size + 3) (pkC X a)) X a := by
        have hat := hS.at_
        refine ⟨?_, ?_, ?_, hS.ps.kept (by simp [World.setRow]) (fun g i e _ => setRow_other W4 (w.heap.size + 3) g _ (by have := hS.pf g i e; omega))⟩
        · rw [hS.fit.2.2.2.2]; exact fun e => absurd rfl e
        · rw [hS.fit.2.2.1]; exact CL.nil
        · rw [hS.fit.2.2.2.1]; exact CL.nil
      exact ⟨a, rfl, hk, hS.pc, hS.fit, belowRow hS.low (by omega) _, fun h => absurd rfl h⟩
    have G1 := hS.pb
    have G2 := Lib.hid hS.rb
    obtain ⟨D, hD⟩ : ∃ D, pkC X a = D := ⟨_, rfl⟩
    rw [hD] at e1 e2 RT G1
    have E1 := Lib.hid e1
    have E2 := Lib.hid e2
    have RT := Lib.hid RT
    have G1 := Lib.hid G1
    subst hr
    clear hS hD e1 e2 h0 h1 hrE hE0 HR
    go_wp2_with (first
      | (refine wpList_load_row rfl _ _ rfl B rfl 28 D (0, 0) _ G1.out Tryz.underlying28 rfl (by rw [E1.out]; exact info_pk) ?_)
      | (refine wpList_store_row rfl _ _ _ rfl (w.heap.size + 3) D rfl rfl 28 _ G2.out (by rw [E1.out]; exact info_pk) (by rw [HZ.out, E1.out]) E2.out ?_))
    exact ret_row2 (cs := D) rfl rfl rfl rfl Tryz.underlying28 rfl (by rw [E1.out]; exact info_pk) (setRow_heap _ _ _ _ _ _ G2.out) RT.out
  · obtain ⟨P, a, s', hS⟩ := h1 hr
    have hE0 : E ≠ 0 := fun e => hr (hrE.trans e)
    have RT := Lib.hid (show RuRet w R (.returned (.tuple #[.agg pkZ, .int .i64 (r : Int)])) (W4.setRow (w.heap.size + 3) pkZ) by
      rw [HR.out, if_neg hE0, hrE]
      exact ⟨adZ, rfl, zero_at _, Nat.zero_le _, fit_nil, belowRow hS.low (by omega) _, fun _ => rfl⟩)
    have G2 := Lib.hid hS.rb
    have r1 : ((r : Int) == 0) = false := by simp; omega
    have r2 : ((r : Int) != 0) = true := by simp; omega
    clear hS h0 h1 hrE hE0 hr HR
    go_wp2_with (first
      | (refine wpList_buildTo rfl 28 _ rfl (some _) rfl pkZ (by kernel_rfl) ?_)
      | (refine wpList_store_row rfl _ _ _ rfl (w.heap.size + 3) pkZ rfl rfl 28 _ G2.out (by rw [HZ.out]; exact info_pk) rfl ZO.out ?_))
    exact ret_row2 (cs := pkZ) rfl rfl rfl rfl Tryz.underlying28 rfl (by rw [HZ.out]; exact info_pk) (setRow_heap _ _ _ _ _ _ G2.out) RT.out
end Go.Proofs.YtaahhbjnflimnaaGreat
