/-
  Plain facts: what a PUBLISH may hold, its body, what is read of it. No condition.
  A map keyed by int that a call has made by a literal: what stands at each key, as a list of pairs; the insert and the look-up at the operation. No condition.
-/
import Derived.Maps.OwnOps
import Derived.Maps.Views
import Derived.Carry
import Derived.WalkKit
import Derived.Test.YtaahhbjnflimnaaGreatK10
import Derived.Test.YtaahhbjnflimnaaGreatK11
namespace Go.Proofs.YtaahhbjnflimnaaGreat

/-- A packet with just what a PUBLISH may have. -/
def usedU (v : Int) (p : Pk) : Pk := { Pk.zero with kind := p.kind, dup := p.dup, retain := p.retain, qos := p.qos, id := p.id, topic := p.topic, payload := p.payload, props := if v = 5 then p.props else [] }
def idU (p : Pk) : Bool := if p.qos = 0 then p.id == 0 else decide (0 < p.id) && decide (p.id ≤ 65535)
def topicU (p : Pk) : Bool := nameL p.topic || (p.topic.isEmpty && hasP p.props 35)
/-- What Valid tells. -/
def validU (v : Int) (p : Pk) : Nat :=
  if p.kind ≠ 3 then 2 else if (flagsF v 3 p.dup p.retain p.qos).2 ≠ 0 then (flagsF v 3 p.dup p.retain p.qos).2
  else if (idU p && decide (p = usedU v p)) = false then 2 else if topicU p = false then 10 else validP 3 p.props
/-- A valid packet's body. -/
def rawU (v : Int) (p : Pk) : List UInt8 := enc2 p.topic ++ ((if p.qos = 0 then [] else be p.id.toNat 2) ++ (tailC v 3 p.props ++ p.payload))
def bodyU (v : Int) (p : Pk) : List UInt8 × Nat := if validU v p ≠ 0 then ([], validU v p) else (rawU v p, 0)
/-- As much of a packet as its flags tell. -/
def descU (f : Int) : Pk := { Pk.zero with kind := 3, dup := decide (8 ≤ f), retain := f % 2 == 1, qos := f / 2 % 4 }
def Cs.optN (s : Cs) (b : Bool) : Nat × Cs := if b then s.num 2 else (0, s)
/-- A PUBLISH's parts. -/
def partsU (v f : Int) (s : Cs) : Pk × Cs :=
  let t := s.text
  let i := t.2.optN (f / 2 % 4 != 0)
  let p := i.2.props v 3
  ({ descU f with topic := t.1, id := (i.1 : Nat), props := p.1, payload := p.2.r }, p.2)
/-- What Read tells. -/
def readU (v f : Int) (l : List UInt8) : Pk × Nat :=
  if checkH v ⟨3, f, 0⟩ ≠ 0 then (Pk.zero, checkH v ⟨3, f, 0⟩)
  else
    let x := partsU v f ⟨l, 0⟩
    let s := x.2.fail (validU v x.1)
    if s.e ≠ 0 then (Pk.zero, s.e) else (x.1, 0)
theorem flags_u {v : Int} {d r : Bool} {q : Int} : (flagsF v 3 d r q).2 = 0 ↔ verH v = true ∧ qosOk d q = true := by
  unfold flagsF
  have hk : kindH v 3 = true := by simp [kindH]
  rw [hk]
  cases verH v
  · simp
  · cases qosOk d q <;> simp
theorem flags_u_err (v : Int) (d r : Bool) (q : Int) : (flagsF v 3 d r q).2 = if verH v = false then 2 else if qosOk d q = false then 7 else 0 := by
  unfold flagsF
  have hk : kindH v 3 = true := by simp [kindH]
  rw [hk]
  cases verH v
  · simp
  · cases qosOk d q <;> simp
theorem ver_u {v : Int} (h : verH v = true) : v = 4 ∨ v = 5 := by
  unfold verH at h
  simpa using h
theorem valid_u {v : Int} {p : Pk} (h : validU v p = 0) : p.kind = 3 ∧ (v = 4 ∨ v = 5) ∧ qosOk p.dup p.qos = true ∧ idU p = true ∧ p = usedU v p ∧ topicU p = true ∧ validP 3 p.props = 0 ∧ (v = 4 → p.props = []) := by
  rw [validU] at h
  split at h
  · cases h
  rename_i hk
  split at h
  · rename_i hf; exact absurd h hf
  rename_i hf
  have hf : (flagsF v 3 p.dup p.retain p.qos).2 = 0 := by simpa using hf
  obtain ⟨hv, hq⟩ := flags_u.1 hf
  split at h
  · cases h
  rename_i hi
  split at h
  · cases h
  rename_i ht
  rw [Bool.not_eq_false, Bool.and_eq_true, decide_eq_true_eq] at hi
  refine ⟨by simpa using hk, ver_u hv, hq, hi.1, hi.2, by simpa using ht, h, fun h4 => ?_⟩
  have := congrArg Pk.props hi.2
  rw [this]
  simp [usedU, h4]
theorem topic_u {p : Pk} (h : topicU p = true) : validOf p.topic = true := by
  unfold topicU at h
  rw [Bool.or_eq_true, Bool.and_eq_true, List.isEmpty_iff] at h
  rcases h with h | ⟨h, _⟩
  · exact name_valid h
  · rw [h]; decide
theorem valid_payload (v : Int) (p : Pk) (x : List UInt8) : validU v { p with payload := x } = validU v p := by
  have h : decide ({ p with payload := x } = usedU v { p with payload := x }) = decide (p = usedU v p) := by
    rw [decide_eq_decide]
    obtain ⟨⟩ := p
    simp [usedU, Pk.zero]
  unfold validU
  rw [h]
  rfl
theorem qos_u {d : Bool} {q : Int} (h : qosOk d q = true) : 0 ≤ q ∧ q ≤ 2 ∧ (d = true → q ≠ 0) := by
  unfold qosOk at h
  simp only [Bool.and_eq_true, decide_eq_true_eq, Bool.not_eq_true', Bool.and_eq_false_iff, beq_eq_false_iff_ne] at h
  refine ⟨h.1.1, h.1.2, fun hd => ?_⟩
  rcases h.2 with h | h
  · rw [hd] at h; cases h
  · exact h
theorem pack_u {d r : Bool} {q : Int} (h : qosOk d q = true) : flagsH 3 (packF d r q) = true ∧ decide (8 ≤ packF d r q) = d ∧ (packF d r q % 2 == 1) = r ∧ packF d r q / 2 % 4 = q := by
  obtain ⟨h0, h1, h2⟩ := qos_u h
  obtain rfl | rfl | rfl : q = 0 ∨ q = 1 ∨ q = 2 := by omega
  all_goals (cases d <;> cases r <;> first | exact absurd rfl (h2 rfl) | decide +kernel)
theorem unpack_u {f : Int} (h : flagsH 3 f = true) : qosOk (decide (8 ≤ f)) (f / 2 % 4) = true ∧ packF (decide (8 ≤ f)) (f % 2 == 1) (f / 2 % 4) = f := by
  obtain ⟨h0, h1⟩ := flags_range h
  obtain ⟨n, rfl⟩ : ∃ n : Nat, f = (n : Int) := ⟨f.toNat, by omega⟩
  have hn : n < 16 := by omega
  revert h
  clear h0 h1
  revert n
  decide +kernel
theorem check_u (v f : Int) : checkH v ⟨3, f, 0⟩ = if verH v = false then 2 else if flagsH 3 f = false then 7 else 0 := by
  unfold checkH
  have hk : kindH v 3 = true := by simp [kindH]
  rw [hk]
  cases verH v
  · simp
  · cases flagsH 3 f <;> simp
/-- What is read of a valid packet's body, with bytes behind, is the packet, with these bytes in its payload. -/
theorem parts_u {v : Int} {p : Pk} (t : List UInt8) (h : validU v p = 0) : partsU v (packF p.dup p.retain p.qos) ⟨rawU v p ++ t, 0⟩ = ({ p with payload := p.payload ++ t }, ⟨p.payload ++ t, 0⟩) := by
  obtain ⟨hk, hv, hq, hi, hu, ht, hp, h4⟩ := valid_u h
  obtain ⟨_, e8, e1, e3⟩ := pack_u (r := p.retain) hq
  have hr : rightC v 3 p.props = 0 := by
    unfold rightC
    split
    · exact hp
    · rfl
  have e5 : ∀ t, (Cs.mk (tailC v 3 p.props ++ t) 0).props v 3 = (p.props, ⟨t, 0⟩) := fun t => Cs.props_app hr (fun h5 => h4 (by omega))
  have eN : ∀ t, (Cs.mk ((if p.qos = 0 then [] else be p.id.toNat 2) ++ t) 0).optN (p.qos != 0) = (p.id.toNat, ⟨t, 0⟩) ∧ ((p.id.toNat : Nat) : Int) = p.id := fun t => by
    unfold idU at hi
    by_cases h0 : p.qos = 0
    · rw [if_pos h0, beq_iff_eq] at hi
      simp [Cs.optN, h0, hi]
    · rw [if_neg h0, Bool.and_eq_true, decide_eq_true_eq, decide_eq_true_eq] at hi
      rw [if_neg h0]
      have hb : (p.qos != 0) = true := by simpa using h0
      rw [Cs.optN, hb, if_pos rfl, Cs.num_app (by omega)]
      exact ⟨rfl, by omega⟩
  have hraw : rawU v p ++ t = enc2 p.topic ++ ((if p.qos = 0 then [] else be p.id.toNat 2) ++ (tailC v 3 p.props ++ (p.payload ++ t))) := by simp [rawU]
  rw [hraw]
  simp only [partsU, Cs.text_app (topic_u ht), e3, (eN _).1, (eN t).2, e5, descU, e8, e1]
  refine Prod.ext ?_ rfl
  conv => rhs; rw [hu]
  have hpr : (if v = 5 then p.props else []) = p.props := by
    split
    · rfl
    · exact (h4 (by omega)).symm
  simp [usedU, hk, hpr]
theorem read_pub {v : Int} {p : Pk} (t : List UInt8) (h : validU v p = 0) : readU v (packF p.dup p.retain p.qos) (rawU v p ++ t) = ({ p with payload := p.payload ++ t }, 0) := by
  obtain ⟨_, hv, hq, _⟩ := valid_u h
  have hc : checkH v ⟨3, packF p.dup p.retain p.qos, 0⟩ = 0 := by
    rw [check_u, (pack_u hq).1, show verH v = true by rcases hv with rfl | rfl <;> rfl]
    rfl
  have hv2 : validU v { p with payload := p.payload ++ t } = 0 := by rw [valid_payload]; exact h
  simp only [readU, hc, parts_u t h, hv2]
  simp [Cs.fail]
theorem Cs.optN_back {s : Cs} {b : Bool} (h : (s.optN b).2.e = 0) : s.e = 0 ∧ s.r = (if b then be (s.optN b).1 2 else []) ++ (s.optN b).2.r ∧ (s.optN b).1 < 65536 ∧ (b = false → (s.optN b).1 = 0) := by
  cases b
  · exact ⟨h, rfl, Nat.zero_lt_succ _, fun _ => rfl⟩
  · obtain ⟨h1, h2, h3⟩ := Cs.num_back (s := s) (n := 2) h
    exact ⟨h1, h2, h3, fun e => by cases e⟩
theorem readU_err {v f : Int} {l : List UInt8} (h : (readU v f l).2 ≠ 0) : (readU v f l).1 = Pk.zero := by
  unfold readU at h ⊢
  split
  · rfl
  · rename_i h1
    rw [if_neg h1] at h
    simp only at h ⊢
    split
    · rfl
    · rename_i h2
      rw [if_neg h2] at h
      exact absurd rfl h
theorem fail_zero {s : Cs} {e : Nat} (h : (s.fail e).e = 0) : s.e = 0 ∧ e = 0 := by
  unfold Cs.fail at h
  split at h
  · rename_i h1; exact absurd h h1
  · rename_i h1; exact ⟨by simpa using h1, h⟩
/-- What is read is valid, has these flags, and is written as the same. -/
theorem pub_back {v f : Int} {l : List UInt8} (h : (readU v f l).2 = 0) : validU v (readU v f l).1 = 0 ∧ rawU v (readU v f l).1 = l ∧ packF (readU v f l).1.dup (readU v f l).1.retain (readU v f l).1.qos = f := by
  unfold readU at h ⊢
  split at h
  · rename_i h1; exact absurd h h1
  rename_i h1
  rw [if_neg h1]
  have hc : checkH v ⟨3, f, 0⟩ = 0 := by simpa using h1
  simp only at h ⊢
  split at h
  · rename_i h2; exact absurd h h2
  rename_i h2
  rw [if_neg h2]
  have h2 : ((partsU v f ⟨l, 0⟩).2.fail (validU v (partsU v f ⟨l, 0⟩).1)).e = 0 := by simpa using h2
  obtain ⟨h3, h4⟩ := fail_zero h2
  have hfl : flagsH 3 f = true := by
    rw [check_u] at hc
    split at hc
    · cases hc
    · split at hc
      · cases hc
      · rename_i h; simpa using h
  obtain ⟨u1, u2⟩ := unpack_u hfl
  refine ⟨h4, ?_, u2⟩
  obtain ⟨t, ht⟩ : ∃ t, (Cs.mk l 0).text = t := ⟨_, rfl⟩
  obtain ⟨i, hi⟩ : ∃ i, t.2.optN (f / 2 % 4 != 0) = i := ⟨_, rfl⟩
  obtain ⟨p, hp⟩ : ∃ p, i.2.props v 3 = p := ⟨_, rfl⟩
  have hx : partsU v f ⟨l, 0⟩ = ({ descU f with topic := t.1, id := (i.1 : Nat), props := p.1, payload := p.2.r }, p.2) := by subst ht hi hp; rfl
  rw [hx] at h3 ⊢
  have h3 : p.2.e = 0 := h3
  rw [← hp] at h3
  obtain ⟨b1, b2, _, b4⟩ := Cs.props_back h3
  rw [hp] at b2 b4
  rw [← hi] at b1
  obtain ⟨c1, c2, c3, c4⟩ := Cs.optN_back b1
  rw [hi] at c2 c3 c4
  rw [← ht] at c1
  obtain ⟨_, d2, _⟩ := Cs.text_back c1
  rw [ht] at d2
  have d2 : l = enc2 t.1 ++ t.2.r := d2
  rw [d2, c2, b2]
  have hb : (if (f / 2 % 4 != 0) = true then be i.1 2 else []) = if f / 2 % 4 = 0 then [] else be i.1 2 := by
    by_cases h0 : f / 2 % 4 = 0
    · simp [h0]
    · simp [h0]
  rw [hb]
  rfl
end Go.Proofs.YtaahhbjnflimnaaGreat
namespace Go.Proofs.YtaahhbjnflimnaaGreat
open Go.Maps (Keyed)
open Go.RowKit

/-- What stands at a key: the last that was put there, or the zero. -/
def lookK (z : Value) : List (Int × Value) → Int → Value
  | [], _ => z
  | p :: l, i => if i = p.1 then p.2 else lookK z l i
/-- An element reads as itself. -/
def selfR (v : Value) : Option (DataW Value × List MemPlace) := some (.held v, [])
/-- Block b is a map in which the pairs l were put, one after the other (the last one first). -/
def MapAt (P : Program) (k : TypeId) (w : World) (b : Nat) (z : Value) (l : List (Int × Value)) : Prop :=
  ∃ D : DataW Value, w.ownsMap P k selfR b l.length D ∧ ∀ i, D.atKey (.int .i64 i) (.held z) = .held (lookK z l i)

section
variable {P : Program} {k e t : TypeId} {w w' : World} {b : Nat} {z : Value} {l : List (Int × Value)}
theorem MapAt.of_block (h : MapAt P k w b z l) (hb : w'.heap[b]? = w.heap[b]?) : MapAt P k w' b z l := by
  obtain ⟨D, ⟨es, c, h1, h2⟩, h3⟩ := h
  exact ⟨D, ⟨es, c, hb.trans h1, h2⟩, h3⟩
theorem MapAt.lt (h : MapAt P k w b z l) : b < w.heap.size := by obtain ⟨D, h1, _⟩ := h; exact h1.lt
theorem MapAt.made (w : World) (P : Program) (k : TypeId) (z : Value) : MapAt P k (w.alloc (.map #[] 0)) w.heap.size z [] :=
  ⟨_, World.ownsMap_made _ _ _ _, fun _ => rfl⟩
theorem MapAt.look (h : MapAt P k w b z l) (hk : P.underlying k = some (.int .i64)) (ht : P.underlying t = some (.map k e)) (hz : (zeroValue e).run P w = .ok z w) {i : Int} (hi : (Lit.int .i64 i).wf = true) :
    (Instr.lookup t (.map (some b)) (.int .i64 i) false).run P w = .ok (lookK z l i) w := by
  obtain ⟨D, h1, h2⟩ := h
  obtain ⟨v, ps, hrun, hv⟩ := h1.lookup (Maps.int_keyed hk) ht hz (show selfR z = some (.held z, []) from rfl) (Maps.keyOf_int_mk hk hi)
  rw [h2] at hv
  have : v = lookK z l i := by
    unfold selfR at hv
    simp only [Option.some.injEq, Prod.mk.injEq, DataW.held.injEq] at hv
    exact hv.1
  rw [hrun, this]
theorem MapAt.put (h : MapAt P k w b z l) (hk : P.underlying k = some (.int .i64)) (ht : P.underlying t = some (.map k e)) (hn : l.length < maxLen) {i : Int} (hi : (Lit.int .i64 i).wf = true) (v : Value) :
    ∃ w', (Instr.mapUpdate t (.map (some b)) (.int .i64 i) v).run P w = .ok () w' ∧ MapAt P k w' b z ((i, v) :: l) ∧ w.grownBy w' (some b) := by
  obtain ⟨D, h1, h2⟩ := h
  have hD : Maps.IsMap D := by obtain ⟨es, c, _, _, _, e⟩ := h1; exact ⟨_, e⟩
  obtain ⟨w', r1, r2, r3⟩ := h1.update (Maps.int_keyed hk) ht hn (Maps.keyOf_int_mk hk hi) (show selfR v = some (.held v, []) from rfl)
  refine ⟨w', r1, ⟨_, r2, fun j => ?_⟩, r3⟩
  show _ = DataW.held (if j = i then v else lookK z l j)
  by_cases e : j = i
  · subst e
    rw [if_pos rfl, Maps.atKey_put_same hD (show WideAt.IsKeyLit (.int .i64 j) from trivial)]
  · rw [if_neg e, Maps.atKey_put_other (fun x => e (by cases x; rfl)), h2]

/-- .. made since w0, which has not turned. -/
def MapG (P : Program) (k : TypeId) (w0 w : World) (b : Nat) (z : Value) (l : List (Int × Value)) : Prop := MapAt P k w b z l ∧ Below w0.heap.size w0 w ∧ w0.heap.size ≤ b
theorem wpList_insert_g {ops : Array Oper} {rest : List Oper} {o : Oper} {a : Act} {Q : Exit → Act → World → Prop} {w0 : World}
    (hg : o.guard = none) (m x v : Operand) (t : TypeId) (hop : o.op = Op.insert t m x v) (k e : TypeId) (hk : P.underlying k = some (.int .i64)) (ht : P.underlying t = some (.map k e))
    (b : Nat) (z : Value) (l : List (Int × Value)) (hm : a.eval m = .map (some b)) (h : MapG P k w0 w b z l) (hn : l.length < maxLen) (i : Int) (val : Value) (hx : a.eval x = .int .i64 i) (hv : a.eval v = val) (hi : (Lit.int .i64 i).wf = true)
    (hK : ∀ w', MapG P k w0 w' b z ((i, val) :: l) → wpList P ops Q rest (a.put o.dst undef) w') :
    wpList P ops Q (o :: rest) a w := by
  refine wpList_plain hg fun K' hK' => ?_
  obtain ⟨h1, h2, h3⟩ := h
  obtain ⟨w', hrun, r1, r2⟩ := h1.put hk ht hn hi val
  unfold Oper.wp
  simp [execOp, hop, hm, hx, hv, hrun, Result.andThen]
  exact hK' _ _ (hK w' ⟨r1, h2.grown r2 h2.size (fun j hj => by cases hj; exact h3), h3⟩)
end
end Go.Proofs.YtaahhbjnflimnaaGreat
