/-
  A region that draws its order, by its final environment: if each operation, read in the frame as it stands behind the whole region, yields what that frame holds at its slot, then the region ends with that frame, whatever the order. Condition: each operation waits for those whose slots it reads.
-/
import Derived.Deep.RegionHeld3
import Derived.Test.YtjbgnlnchchgcaaDoorRegOps
namespace Go.Proofs.YtjbgnlnchchgcaaDoor
namespace RegEnv

/-- The operations of a function's region of that number. -/
def regionOps (id : Nat) : Code → Option (Array Oper)
  | .region i ops _ => if i == id then some ops else none
  | .seq a b => match regionOps id a with | some o => some o | none => regionOps id b
  | .cond _ a b => match regionOps id a with | some o => some o | none => regionOps id b
  | .block _ c => regionOps id c
  | .loop c => regionOps id c
  | .rangeFunc _ _ a b => match regionOps id a with | some o => some o | none => regionOps id b
  | .scope c => regionOps id c
  | _ => none
def opsAt (id : Nat) (c : Option Code) : Array Oper :=
  match c with
  | some c => (match regionOps id c with | some o => o | none => #[])
  | none => #[]

/-- Does any of the operations of the list (numbered from j on) write slot t, though number j is not among those that are waited for? -/
def clash (t : Tmp) (af : List Edge) : List Oper → Nat → Bool
  | [], _ => false
  | o :: l, j => (o.dst == some t && !(af.any fun e => Region.binds .any e && e.on == j)) || clash t af l (j + 1)
def okOper (ops : Array Oper) (l : List Oper) (i : Nat) (o : Oper) : Bool :=
  (match o.op with | .select .. => false | _ => true) && o.after.toList.all (fun e => !Region.binds .any e || decide (e.on < i)) && (o.looksAt ops).all (fun t => !clash t o.after.toList l 0)
def okFrom (ops : Array Oper) (l : List Oper) : List Oper → Nat → Bool
  | [], _ => true
  | o :: r, i => okOper ops l i o && okFrom ops l r (i + 1)
/-- The check of a region's operations: closed, by the kernel. -/
def okOps (ops : Array Oper) : Bool := okFrom ops ops.toList ops.toList 0

theorem clash_spec {t : Tmp} {af : List Edge} : ∀ (l : List Oper) (j : Nat), clash t af l j = false → ∀ (k : Nat) (o : Oper), l[k]? = some o → o.dst = some t → ∃ e ∈ af, Region.binds .any e = true ∧ e.on = j + k
  | [], _, _, k, o, h, _ => by simp at h
  | x :: l, j, hc, k, o, h, hd => by
    rw [clash, Bool.or_eq_false_iff] at hc
    cases k with
    | zero =>
      obtain rfl : x = o := by simpa using h
      have h1 := hc.1
      rw [hd] at h1
      simp only [beq_self_eq_true, Bool.true_and, Bool.not_eq_false', List.any_eq_true, Bool.and_eq_true, beq_iff_eq] at h1
      obtain ⟨e, he, hb, hj⟩ := h1
      exact ⟨e, he, hb, by rw [hj]; rfl⟩
    | succ k =>
      obtain ⟨e, he, hb, hj⟩ := clash_spec l (j + 1) hc.2 k o (by simpa using h) hd
      exact ⟨e, he, hb, by omega⟩
theorem okFrom_spec {ops : Array Oper} {l : List Oper} : ∀ (r : List Oper) (i : Nat), okFrom ops l r i = true → ∀ (k : Nat) (o : Oper), r[k]? = some o → okOper ops l (i + k) o = true
  | [], _, _, k, o, h => by simp at h
  | x :: r, i, hc, k, o, h => by
    rw [okFrom, Bool.and_eq_true] at hc
    cases k with
    | zero => obtain rfl : x = o := by simpa using h
              exact hc.1
    | succ k => have := okFrom_spec r (i + 1) hc.2 k o (by simpa using h)
                rw [show i + 1 + k = i + (k + 1) by omega] at this
                exact this
structure Ok (ops : Array Oper) (i : Nat) (o : Oper) : Prop where
  sel : ∀ cs b, o.op ≠ .select cs b
  low : ∀ e ∈ o.after, Region.binds .any e = true → e.on < i
  dep : ∀ t ∈ o.looksAt ops, ∀ j oj, ops[j]? = some oj → oj.dst = some t → ∃ e ∈ o.after, Region.binds .any e = true ∧ e.on = j
theorem okOps_spec {ops : Array Oper} (h : okOps ops = true) {i : Nat} {o : Oper} (hi : ops[i]? = some o) : Ok ops i o := by
  have h1 := okFrom_spec ops.toList 0 h i o (by simpa using hi)
  rw [Nat.zero_add] at h1
  unfold okOper at h1
  simp only [Bool.and_eq_true, List.all_eq_true, Bool.or_eq_true, Bool.not_eq_true', decide_eq_true_eq] at h1
  obtain ⟨⟨h1, h2⟩, h3⟩ := h1
  refine ⟨(fun cs b hs => by rw [hs] at h1; cases h1), fun e he hb => ?_, fun t ht j oj hj hd => ?_⟩
  · rcases h2 e (by simpa using he) with h | h
    · rw [hb] at h; cases h
    · exact h
  · obtain ⟨e, he, hb, hk⟩ := clash_spec ops.toList 0 (h3 t ht) j oj (by simpa using hj) hd
    exact ⟨e, by simpa using he, hb, by omega⟩

section
variable {P : Program} {ops : Array Oper} {Q : Exit → Act → World → Prop} {S : World → Prop}

/-- In frame b the operation yields v: in every world that meets S, or by a call that keeps S. -/
inductive Yields (P : Program) (S : World → Prop) (b : Act) (o : Oper) (v : Value) : Prop
  | pure (h : ∀ w, S w → (execOp b.eval o).run P w = .ok (.value v) w)
  | call (f : FuncId) (args : Array Value) (h : ∀ w, (execOp b.eval o).run P w = .ok (.enter f args) w) (hc : ∀ w, S w → Calls P f args w fun e w' => e = .returned v ∧ S w')
/-- In frame b the operation does what b says. -/
def Does (P : Program) (ops : Array Oper) (S : World → Prop) (b : Act) (o : Oper) : Prop :=
  ∃ v, (∀ d, o.dst = some d → b.tmps[d]? = some v) ∧ ((Region.wanted o (yielded ops b.tmps) = true ∧ Yields P S b o v) ∨ (Region.wanted o (yielded ops b.tmps) = false ∧ v = undef))
def All (p : Oper → Prop) : List Oper → Prop
  | [] => True
  | o :: l => p o ∧ All p l
theorem All.get {p : Oper → Prop} : ∀ {l : List Oper}, All p l → ∀ {i : Nat} {o : Oper}, l[i]? = some o → p o
  | [], _, _, _, h => by simp at h
  | x :: l, h, 0, o, hi => by obtain rfl : x = o := by simpa using hi
                              exact h.1
  | x :: l, h, i + 1, o, hi => All.get h.2 (by simpa using hi)

/-- What stands while the region runs: the slots that no operation is still to write are as at its end. -/
structure Inv (ops : Array Oper) (b : Act) (listed : Array Bool) (a : Act) : Prop where
  defers : a.defers = b.defers
  size : a.tmps.size = b.tmps.size
  same : ∀ d, (∀ j oj, ops[j]? = some oj → listed.getD j true = false → oj.dst ≠ some d) → a.tmps[d]? = b.tmps[d]?

theorem Inv.put {b a : Act} {listed : Array Bool} {i : Nat} {o : Oper} {v : Value} (h : Inv ops b listed a) (hi : ops[i]? = some o) (hv : ∀ d, o.dst = some d → b.tmps[d]? = some v) :
    Inv ops b (listed.setIfInBounds i true) (a.put o.dst v) := by
  have hl : ∀ j, j ≠ i → (listed.setIfInBounds i true).getD j true = listed.getD j true := fun j hj => getD_set_ne true (Ne.symm hj)
  cases hd : o.dst with
  | none =>
    refine ⟨h.defers, h.size, fun d hu => h.same d fun j oj hj hun => ?_⟩
    by_cases hji : j = i
    · subst hji; rw [hi] at hj; obtain rfl := Option.some.inj hj; rw [hd]; simp
    · exact hu j oj hj (by rw [hl j hji]; exact hun)
  | some x =>
    refine ⟨h.defers, by simp [Act.put, h.size], fun d hu => ?_⟩
    by_cases hdx : x = d
    · subst hdx
      have hb := hv x hd
      have hlt : x < a.tmps.size := by rw [h.size]; exact (Array.getElem?_eq_some_iff.1 hb).1
      simp [Act.put, hb, hlt]
    · have : (a.put (some x) v).tmps[d]? = a.tmps[d]? := by simp [Act.put, hdx]
      rw [this]
      refine h.same d fun j oj hj hun => ?_
      by_cases hji : j = i
      · subst hji; rw [hi] at hj; obtain rfl := Option.some.inj hj; rw [hd]; exact fun e => hdx (Option.some.inj e)
      · exact hu j oj hj (by rw [hl j hji]; exact hun)

theorem Inv.eval {b a : Act} {listed : Array Bool} (h : Inv ops b listed a) {d : Tmp} (hd : ∀ j oj, ops[j]? = some oj → listed.getD j true = false → oj.dst ≠ some d) : a.eval (.tmp d) = b.eval (.tmp d) := by
  have := h.same d hd
  simp only [Act.eval, Array.getD_eq_getD_getElem?, this]

theorem wanted_same {b a : Act} {o : Oper} (h : ∀ t ∈ o.looksAt ops, a.tmps[t]? = b.tmps[t]?) : Region.wanted o (yielded ops a.tmps) = Region.wanted o (yielded ops b.tmps) := by
  unfold Region.wanted
  cases hg : o.guard with
  | none => rfl
  | some g =>
    obtain ⟨j, want⟩ := g
    have : yielded ops a.tmps j = yielded ops b.tmps j := by
      unfold yielded
      cases hd : (ops[j]?).bind (·.dst) with
      | none => rfl
      | some d =>
        have := h d (by unfold Oper.looksAt; rw [hg]; exact List.mem_append_right _ (by simp [hd]))
        simp only [Option.bind_some, this]
    simp only [this]

/-- How many are not listed yet. -/
def left (ops : Array Oper) (listed : Array Bool) : Nat := ((List.range ops.size).filter fun i => !listed.getD i true).length
theorem left_put {listed : Array Bool} {i : Nat} (hi : i < ops.size) (hu : listed.getD i true = false) : left ops (listed.setIfInBounds i true) < left ops listed := by
  unfold left
  have hlt : i < listed.size := by
    rcases Nat.lt_or_ge i listed.size with h | h
    · exact h
    · rw [Array.getD_eq_getD_getElem?, Array.getElem?_eq_none h] at hu; cases hu
  have e : ((List.range ops.size).filter fun j => !(listed.setIfInBounds i true).getD j true) = ((List.range ops.size).filter fun j => !listed.getD j true).filter fun j => !(listed.setIfInBounds i true).getD j true := by
    rw [List.filter_filter]
    refine List.filter_congr fun j _ => ?_
    by_cases hj : j = i
    · subst hj; simp [Array.getD_eq_getD_getElem?, hlt]
    · rw [getD_set_ne true (Ne.symm hj)]; simp
  rw [e]
  refine List.length_filter_lt_length_iff_exists.2 ⟨i, List.mem_filter.2 ⟨List.mem_range.2 hi, by simp only [hu]; rfl⟩, ?_⟩
  simp [Array.getD_eq_getD_getElem?, hlt]
theorem none_left {listed : Array Bool} (hok : okOps ops = true) (h : Region.ready .any ops listed = []) : ∀ j oj, ops[j]? = some oj → listed.getD j true = true := by
  intro j
  induction j using Nat.strongRecOn with
  | _ j ih =>
    intro oj hj
    cases hl : listed.getD j true with
    | true => rfl
    | false =>
      have hm : j ∈ Region.ready .any ops listed := mem_ready.2 ⟨hl, oj, hj, fun e he hb => by
        have hlt := (okOps_spec hok hj).low e he hb
        have hjs := (Array.getElem?_eq_some_iff.1 hj).1
        have h1 := ih e.on hlt ops[e.on] (Array.getElem?_eq_getElem (by omega))
        have hes : j < listed.size := by
          rcases Nat.lt_or_ge j listed.size with h | h
          · exact h
          · rw [Array.getD_eq_getD_getElem?, Array.getElem?_eq_none h] at hl; cases hl
        rw [Array.getD_eq_getD_getElem?] at h1 ⊢
        rw [Array.getElem?_eq_getElem (show e.on < listed.size by omega)] at h1 ⊢
        exact h1⟩
      rw [h] at hm
      cases hm

theorem step {b a : Act} {o : Oper} {w : World} {v : Value} {K : Act → World → Prop} (he : execOp a.eval o = execOp b.eval o) (hy : Yields P S b o v) (hS : S w) (hK : ∀ w', S w' → K (a.put o.dst v) w') : o.wp P a w K Q := by
  unfold Oper.wp
  rw [he]
  cases hy with
  | pure h => rw [h w hS]; exact hK w hS
  | call f args h hc => rw [h w]; exact (hc w hS).mono fun e w' ⟨h1, h2⟩ => by subst h1; exact hK w' h2

theorem any {b : Act} (hok : okOps ops = true) (hall : All (Does P ops S b) ops.toList) (fin : ∀ w, S w → Q .normal b w) :
    ∀ (fuel : Nat) (listed : Array Bool) (a : Act) (w : World), left ops listed ≤ fuel → Inv ops b listed a → S w → wpAny P .any ops Q fuel listed a w := by
  have done : ∀ (listed : Array Bool) (a : Act) (w : World), Region.ready .any ops listed = [] → Inv ops b listed a → S w → Q .normal a w := fun listed a w hr hI hS => by
    have hn := none_left hok hr
    have : a = b := by
      obtain ⟨at', ad⟩ := a
      obtain ⟨bt, bd⟩ := b
      have h1 := hI.defers
      have h2 : at' = bt := Array.ext_getElem? fun d => hI.same d fun j oj hj hun => by rw [hn j oj hj] at hun; cases hun
      simp only at h1
      rw [h1, h2]
    rw [this]
    exact fin w hS
  intro fuel
  induction fuel with
  | zero =>
    intro listed a w hle hI hS
    have hr : Region.ready .any ops listed = [] := by
      rw [List.eq_nil_iff_forall_not_mem]
      intro j hj
      obtain ⟨hu, o, ho, _⟩ := mem_ready.1 hj
      have := left_put (ops := ops) (Array.getElem?_eq_some_iff.1 ho).1 hu
      omega
    exact ⟨hr, done listed a w hr hI hS⟩
  | succ fuel ih =>
    intro listed a w hle hI hS
    refine ⟨fun hr => done listed a w hr hI hS, fun i hi => ?_⟩
    obtain ⟨hu, o, ho, haf⟩ := mem_ready.1 hi
    have hO := okOps_spec hok ho
    have hnot : ∀ t ∈ o.looksAt ops, ∀ j oj, ops[j]? = some oj → listed.getD j true = false → oj.dst ≠ some t := fun t ht j oj hj hun hd => by
      obtain ⟨e, he, hb, rfl⟩ := hO.dep t ht j oj hj hd
      have := haf e he hb
      rw [Array.getD_eq_getD_getElem?] at this hun
      cases hx : listed[e.on]? with
      | none => rw [hx] at hun; cases hun
      | some y => rw [hx] at hun this; simp only [Option.getD_some] at hun this; rw [hun] at this; cases this
    have hw := wanted_same (ops := ops) (a := a) (b := b) (o := o) fun t ht => hI.same t (hnot t ht)
    have hx : execOp a.eval o = execOp b.eval o := execOp_congr o hO.sel fun x hx => by
      cases x with
      | tmp t => exact hI.eval (hnot t (List.mem_append_left _ (List.mem_filterMap.2 ⟨.tmp t, by simpa using hx, rfl⟩)))
      | _ => rfl
    have hlt := left_put (ops := ops) (Array.getElem?_eq_some_iff.1 ho).1 hu
    obtain ⟨v, hv, hd⟩ := hall.get (i := i) (o := o) (by simpa using ho)
    unfold wpOp
    simp only [ho, hw]
    rcases hd with ⟨h1, h2⟩ | ⟨h1, h2⟩
    · rw [if_pos h1]
      exact .inl (step hx h2 hS fun w' hS' => ih _ _ _ (by omega) (hI.put ho hv) hS')
    · rw [if_neg (by rw [h1]; simp), ← h2]
      exact ih _ _ _ (by omega) (hI.put ho hv) hS

/-- The slots that no operation writes are the same in both frames. -/
def Off (ds : List Tmp) : Nat → List Value → List Value → Prop
  | _, [], [] => True
  | k, x :: l, y :: m => (ds.contains k = true ∨ x = y) ∧ Off ds (k + 1) l m
  | _, _, _ => False
theorem Off.spec {ds : List Tmp} : ∀ {k : Nat} {l m : List Value}, Off ds k l m → l.length = m.length ∧ ∀ d, ds.contains (k + d) = false → l[d]? = m[d]?
  | _, [], [], _ => ⟨rfl, fun _ _ => rfl⟩
  | k, x :: l, y :: m, h => by
    have := Off.spec h.2
    refine ⟨by simp [this.1], fun d hd => ?_⟩
    cases d with
    | zero =>
      rcases h.1 with h1 | h1
      · rw [Nat.add_zero] at hd; rw [hd] at h1; cases h1
      · simp [h1]
    | succ d =>
      have := this.2 d (by rw [show k + 1 + d = k + (d + 1) by omega]; exact hd)
      simpa using this
  | _, [], _ :: _, h => h.elim
  | _, _ :: _, [], h => h.elim

theorem wp {id : Nat} {A B : List Value} {D : List Deferred} {w : World} (hm : P.follows .mixedOrders = true) (hok : okOps ops = true) (hoff : Off (ops.toList.filterMap (·.dst)) 0 A B) (hS : S w.drew)
    (hall : All (Does P ops S ⟨B.toArray, D⟩) ops.toList) (fin : ∀ w, S w → Q .normal ⟨B.toArray, D⟩ w) : (Code.region id ops true).wp P Q ⟨A.toArray, D⟩ w := by
  refine wp_region_any hm (any hok hall fin ops.size _ _ _ ?_ ?_ hS)
  · unfold left
    exact Nat.le_trans (List.length_filter_le _ _) (by simp)
  · refine ⟨rfl, by simpa using hoff.spec.1, fun d hd => ?_⟩
    have := hoff.spec.2 d (by
      rw [Nat.zero_add]
      rw [Bool.eq_false_iff]
      intro hc
      rw [List.contains_iff_mem, List.mem_filterMap] at hc
      obtain ⟨o, ho, hod⟩ := hc
      obtain ⟨j, hj⟩ := List.mem_iff_getElem?.1 ho
      have hjs : j < ops.size := by
        have := (List.getElem?_eq_some_iff.1 hj).1
        simpa using this
      exact hd j o (by simpa using hj) (by simp [Array.getD_eq_getD_getElem?, hjs]) hod)
    simpa using this
theorem wp_in {id : Nat} {ds : List Tmp} {A B : List Value} {D : List Deferred} {w : World} (hm : P.follows .mixedOrders = true) (hok : okOps ops = true) (hds : ops.toList.filterMap (·.dst) = ds) (hoff : Off ds 0 A B) (hS : S w.drew)
    (hall : All (Does P ops S ⟨B.toArray, D⟩) ops.toList) (fin : ∀ w, S w → Q .normal ⟨B.toArray, D⟩ w) : (Code.region id ops true).wp P Q ⟨A.toArray, D⟩ w :=
  wp hm hok (by rw [hds]; exact hoff) hS hall fin

/-! The moves of a walk: an operation each. -/
theorem All.step {p : Oper → Prop} {l r : List Oper} {o : Oper} (h : l = o :: r) (h1 : p o) (h2 : All p r) : All p l := by rw [h]; exact ⟨h1, h2⟩
theorem All.fin {p : Oper → Prop} {l : List Oper} (h : l = []) : All p l := by rw [h]; trivial
variable {B : List Value} {D : List Deferred} {o : Oper} {d : Tmp} {v : Value}
theorem Does.pure (hd : o.dst = some d) (hb : B[d]? = some v) (hw : Region.wanted o (yielded ops B.toArray) = true) (h : ∀ w, S w → (execOp (Act.eval ⟨B.toArray, D⟩) o).run P w = .ok (.value v) w) : Does P ops S ⟨B.toArray, D⟩ o :=
  ⟨v, fun x hx => by rw [hd] at hx; obtain rfl := Option.some.inj hx; simpa using hb, .inl ⟨hw, .pure h⟩⟩
theorem Does.skip (hd : o.dst = some d) (hb : B[d]? = some undef) (hw : Region.wanted o (yielded ops B.toArray) = false) : Does P ops S ⟨B.toArray, D⟩ o :=
  ⟨undef, fun x hx => by rw [hd] at hx; obtain rfl := Option.some.inj hx; simpa using hb, .inr ⟨hw, rfl⟩⟩
theorem Does.call {f : FuncId} {args : Array Value} (hd : o.dst = some d) (hb : B[d]? = some v) (hw : Region.wanted o (yielded ops B.toArray) = true)
    (h : ∀ w, (execOp (Act.eval ⟨B.toArray, D⟩) o).run P w = .ok (.enter f args) w) (hc : ∀ w, S w → Calls P f args w fun e w' => e = .returned v ∧ S w') : Does P ops S ⟨B.toArray, D⟩ o :=
  ⟨v, fun x hx => by rw [hd] at hx; obtain rfl := Option.some.inj hx; simpa using hb, .inl ⟨hw, .call f args h hc⟩⟩
variable {l r : List Oper}
theorem pu (e : l = o :: r) (hd : o.dst = some d) (hb : B[d]? = some v) (hw : Region.wanted o (yielded ops B.toArray) = true) (h : ∀ w, S w → (execOp (Act.eval ⟨B.toArray, D⟩) o).run P w = .ok (.value v) w) (n : All (Does P ops S ⟨B.toArray, D⟩) r) : All (Does P ops S ⟨B.toArray, D⟩) l := .step e (.pure hd hb hw h) n
theorem sk (e : l = o :: r) (hd : o.dst = some d) (hb : B[d]? = some undef) (hw : Region.wanted o (yielded ops B.toArray) = false) (n : All (Does P ops S ⟨B.toArray, D⟩) r) : All (Does P ops S ⟨B.toArray, D⟩) l := .step e (.skip hd hb hw) n
theorem ca {f : FuncId} {args : Array Value} (e : l = o :: r) (hd : o.dst = some d) (hb : B[d]? = some v) (hw : Region.wanted o (yielded ops B.toArray) = true)
    (h : ∀ w, (execOp (Act.eval ⟨B.toArray, D⟩) o).run P w = .ok (.enter f args) w) (hc : ∀ w, S w → Calls P f args w fun e w' => e = .returned v ∧ S w') (n : All (Does P ops S ⟨B.toArray, D⟩) r) : All (Does P ops S ⟨B.toArray, D⟩) l := .step e (.call hd hb hw h hc) n
end
end RegEnv
end Go.Proofs.YtjbgnlnchchgcaaDoor
