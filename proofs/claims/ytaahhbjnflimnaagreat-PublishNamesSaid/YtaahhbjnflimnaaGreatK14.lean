/-
  A property as a value, a list of properties as it lies in memory: behind an address, as cells, in a row that is owned. Condition: none.
  A packet as a value: its cells, where its lists lie. Condition: none.
  A store into a cell of a row. No condition.
  A packet that a function holds in a box. No condition.
-/
import Derived.Laws.ResultCell
import Derived.Test.YtaahhbjnflimnaaGreatK13
import Derived.Test.YtaahhbjnflimnaaGreatK02
import Derived.Test.YtaahhbjnflimnaaGreatK03
namespace Go.Proofs.YtaahhbjnflimnaaGreat
open Go.RowKit

/-- A property as a value. -/
def propV (p : Pr) : Value := .agg #[.int .i64 p.id, .int .u32 p.n, .string (bs p.text), .string (bs p.value)]
/-- Its fields are what their types hold. -/
structure PrOk (p : Pr) : Prop where
  lo : -9223372036854775808 ≤ p.id
  hi : p.id ≤ 9223372036854775807
  n : p.n < 4294967296
  text : p.text.length ≤ 9223372036854775807
  value : p.value.length ≤ 9223372036854775807

/-- Block b is a property. -/
def PropAt (W : World) (b : Nat) (p : Pr) : Prop := W.heap[b]? = some (.cells #[.int .i64 p.id, .int .u32 p.n, .string (bs p.text), .string (bs p.value)] 46 (0, 0))
section
variable {W W' : World} {b : Nat} {p : Pr}
theorem PropAt.lt (h : PropAt W b p) : b < W.heap.size := lt_of_block h
theorem PropAt.cell (h : PropAt W b p) (j : Nat) : W.cell? ⟨b, j, none⟩ = (#[.int .i64 p.id, .int .u32 p.n, .string (bs p.text), .string (bs p.value)] : Array Value)[j]? := cell_of_row W b j _ _ (0, 0) h
theorem PropAt.c0 (h : PropAt W b p) : W.cell? ⟨b, 0, none⟩ = some (.int .i64 p.id) := h.cell 0
theorem PropAt.c1 (h : PropAt W b p) : W.cell? ⟨b, 1, none⟩ = some (.int .u32 p.n) := h.cell 1
theorem PropAt.c2 (h : PropAt W b p) : W.cell? ⟨b, 2, none⟩ = some (.string (bs p.text)) := h.cell 2
theorem PropAt.c3 (h : PropAt W b p) : W.cell? ⟨b, 3, none⟩ = some (.string (bs p.value)) := h.cell 3
theorem PropAt.of_block (h : PropAt W b p) (hb : W'.heap[b]? = W.heap[b]?) : PropAt W' b p := hb.trans h
theorem PropAt.below (h : PropAt W b p) {B : Nat} (hb : Below B W W') (hB : b < B) : PropAt W' b p := h.of_block (hb.block b hB)
theorem PropAt.made (W : World) (p : Pr) : PropAt (W.alloc (.cells #[.int .i64 p.id, .int .u32 p.n, .string (bs p.text), .string (bs p.value)] 46)) W.heap.size p := heap_alloc_new W _
end

/-- The list of properties l lies behind the address A. -/
def PL (W : World) (A : Option Addr) (l : List Pr) : Prop :=
  l ≠ [] → ∃ g i, A = some ⟨g, i, none⟩ ∧ g < W.heap.size ∧ ∀ j p, l[j]? = some p →
    W.cell? ⟨g, i + j * 4, none⟩ = some (.int .i64 p.id) ∧ W.cell? ⟨g, i + j * 4 + 1, none⟩ = some (.int .u32 p.n) ∧ W.cell? ⟨g, i + j * 4 + 2, none⟩ = some (.string (bs p.text)) ∧ W.cell? ⟨g, i + j * 4 + 3, none⟩ = some (.string (bs p.value))
theorem PL.nil {W : World} {A : Option Addr} : PL W A [] := fun h => absurd rfl h
theorem PL.kept {W W' : World} {A : Option Addr} {l : List Pr} (h : PL W A l) (hs : W.heap.size ≤ W'.heap.size) (hb : ∀ g i, A = some ⟨g, i, none⟩ → g < W.heap.size → W'.heap[g]? = W.heap[g]?) : PL W' A l := fun hne => by
  obtain ⟨g, i, e, hg, hc⟩ := h hne
  have he := hb g i e hg
  refine ⟨g, i, e, Nat.lt_of_lt_of_le hg hs, fun j p hj => ?_⟩
  obtain ⟨h0, h1, h2, h3⟩ := hc j p hj
  exact ⟨(World.cell?_of_block (a := ⟨g, i + j * 4, none⟩) he).trans h0, (World.cell?_of_block (a := ⟨g, i + j * 4 + 1, none⟩) he).trans h1, (World.cell?_of_block (a := ⟨g, i + j * 4 + 2, none⟩) he).trans h2, (World.cell?_of_block (a := ⟨g, i + j * 4 + 3, none⟩) he).trans h3⟩
theorem PL.below {W W' : World} {A : Option Addr} {l : List Pr} (h : PL W A l) (hb : Below W.heap.size W W') : PL W' A l := h.kept hb.size fun g _ _ hg => hb.block g hg
theorem PL.grown {W W' : World} {A : Option Addr} {l : List Pr} {b : Nat} (h : PL W A l) (hb : W.grownBy W' (some b)) (hne : ∀ g i, A = some ⟨g, i, none⟩ → g ≠ b) : PL W' A l := h.kept hb.size fun g i e hg => hb.block g hg (fun x => hne g i e (Option.some.inj x))
theorem PL.at {W : World} {A : Option Addr} {l : List Pr} (h : PL W A l) {j : Nat} {p : Pr} (hj : l[j]? = some p) : ∃ g i, A = some ⟨g, i, none⟩ ∧ g < W.heap.size ∧
    W.cell? ⟨g, i + j * 4, none⟩ = some (.int .i64 p.id) ∧ W.cell? ⟨g, i + j * 4 + 1, none⟩ = some (.int .u32 p.n) ∧ W.cell? ⟨g, i + j * 4 + 2, none⟩ = some (.string (bs p.text)) ∧ W.cell? ⟨g, i + j * 4 + 3, none⟩ = some (.string (bs p.value)) := by
  obtain ⟨g, i, e, hg, hc⟩ := h (by rintro rfl; simp at hj)
  exact ⟨g, i, e, hg, hc j p hj⟩
theorem PL.addr {W : World} {A : Option Addr} {l : List Pr} (h : PL W A l) (hne : l ≠ []) : ∃ g i, A = some ⟨g, i, none⟩ ∧ g < W.heap.size := by
  obtain ⟨g, i, e, hg, _⟩ := h hne
  exact ⟨g, i, e, hg⟩

/-- The cells of a property, of a list. -/
def pc (p : Pr) : List Value := [.int .i64 p.id, .int .u32 p.n, .string (bs p.text), .string (bs p.value)]
def pcs (l : List Pr) : List Value := l.flatMap pc
theorem pcs_nil : pcs [] = [] := rfl
theorem pcs_cons (p : Pr) (l : List Pr) : pcs (p :: l) = pc p ++ pcs l := rfl
theorem pcs_append (a b : List Pr) : pcs (a ++ b) = pcs a ++ pcs b := by simp [pcs]
theorem pcs_length : ∀ (l : List Pr), (pcs l).length = l.length * 4
  | [] => rfl
  | p :: l => by rw [pcs_cons, List.length_append, pcs_length l, List.length_cons]; show 4 + _ = _; omega
theorem pcs_get : ∀ (l : List Pr) (j c : Nat) (p : Pr), l[j]? = some p → c < 4 → (pcs l)[j * 4 + c]? = (pc p)[c]?
  | [], j, c, p, h, _ => by simp at h
  | q :: l, 0, c, p, h, hc => by
    simp at h; subst h
    rw [pcs_cons, List.getElem?_append_left (by show _ < 4; omega)]
    congr 1; omega
  | q :: l, j + 1, c, p, h, hc => by
    rw [pcs_cons, List.getElem?_append_right (by show 4 ≤ _; omega)]
    have : (j + 1) * 4 + c - (pc q).length = j * 4 + c := by show _ - 4 = _; omega
    rw [this]
    exact pcs_get l j c p (by simpa using h) hc
theorem pcs_one (l : List Pr) : ∀ u ∈ pcs l, u.oneCell' = true := fun u hu => by
  unfold pcs at hu
  obtain ⟨p, _, hp⟩ := List.mem_flatMap.1 hu
  unfold pc at hp
  simp at hp
  rcases hp with rfl | rfl | rfl | rfl <;> rfl
/-- A row whose cells are the list's. -/
theorem PL.of_cells {W : World} {g : Nat} {cs : Array Value} {t : TypeId} {l : List Pr} (hg : W.heap[g]? = some (.cells cs t (0, 0))) (h : ∀ (j : Nat) (u : Value), (pcs l)[j]? = some u → cs[j]? = some u) : PL W (some ⟨g, 0, none⟩) l := fun _ => by
  refine ⟨g, 0, rfl, lt_of_block hg, fun j p hj => ?_⟩
  have hc : ∀ c, c < 4 → W.cell? ⟨g, 0 + j * 4 + c, none⟩ = (pc p)[c]? := fun c hc => by
    rw [cell_of_row W g _ cs _ _ hg]
    have h1 := pcs_get l j c p hj hc
    have h2 : (pc p)[c]? = some ((pc p)[c]'hc) := List.getElem?_eq_getElem hc
    rw [h2] at h1 ⊢
    rw [Nat.zero_add]
    exact h _ _ h1
  exact ⟨hc 0 (by decide), hc 1 (by decide), hc 2 (by decide), hc 3 (by decide)⟩
/-- A literal list. -/
theorem PL.made (W : World) (l : List Pr) (cs : Array Value) (t : TypeId) (h : cs = (pcs l).toArray) : PL (W.alloc (.cells cs t)) (some ⟨W.heap.size, 0, none⟩) l :=
  PL.of_cells (heap_alloc_new W _) (fun j u hu => by rw [h]; simpa using hu)
/-- A row that is owned. -/
theorem PL.owned {W : World} {base n : Nat} {v : Value} {l : List Pr} {t : TypeId} (h : W.ownsRow base t 4 v n (pcs l)) (hn : n = l.length) :
    ∃ A c, v = .slice A n c ∧ n ≤ c ∧ PL W A l ∧ ∀ g i, A = some ⟨g, i, none⟩ → base ≤ g := by
  rcases h.2 with ⟨rfl, h0⟩ | ⟨g, cap, cur, rfl, hb, hg, hc, _, _, hcur⟩
  · subst h0
    have : l = [] := List.length_eq_zero_iff.1 hn.symm
    subst this
    exact ⟨none, 0, rfl, Nat.le_refl _, PL.nil, fun g i e => by cases e⟩
  · refine ⟨_, cap, rfl, hc, PL.of_cells hg (fun j u hu => ?_), fun g' i e => by cases e; exact hb⟩
    rw [← hcur] at hu
    have hj : j < n * 4 := by
      have := (List.getElem?_eq_some_iff.1 hu).1
      rw [List.length_take] at this; omega
    rw [List.getElem?_take_of_lt hj] at hu
    simpa using hu
/-- A part of a list, behind its first k. -/
theorem PL.drop {W : World} {g i : Nat} {l : List Pr} (h : PL W (some ⟨g, i, none⟩) l) (k : Nat) : PL W (some ⟨g, i + k * 4, none⟩) (l.drop k) := fun hne => by
  have hne2 : l ≠ [] := by rintro rfl; simp at hne
  obtain ⟨g', i', e, hg, hc⟩ := h hne2
  cases e
  refine ⟨_, _, rfl, hg, fun j p hj => ?_⟩
  rw [List.getElem?_drop] at hj
  have := hc (k + j) p hj
  rw [show i + (k + j) * 4 = i + k * 4 + j * 4 by omega] at this
  exact this
theorem PL.take {W : World} {A : Option Addr} {l : List Pr} (h : PL W A l) (k : Nat) : PL W A (l.take k) := fun hne => by
  have hne2 : l ≠ [] := by rintro rfl; simp at hne
  obtain ⟨g, i, e, hg, hc⟩ := h hne2
  refine ⟨g, i, e, hg, fun j p hj => ?_⟩
  rw [List.getElem?_take] at hj
  split at hj
  · exact hc j p hj
  · cases hj
end Go.Proofs.YtaahhbjnflimnaaGreat
namespace Go.Proofs.YtaahhbjnflimnaaGreat
open Go.RowKit

/-- Where a packet's lists lie, and their capacities. -/
structure Ad where
  w : Option Addr
  wc : Nat
  cs : Option Addr
  cc : Nat
  fs : Option Addr
  fc : Nat
  ps : Option Addr
  pc : Nat
/-- A packet's cells. -/
def pkC (p : Pk) (a : Ad) : Array Value := #[.int .i64 p.kind, .bool p.dup, .bool p.retain, .int .i64 p.qos, .int .i64 p.id, .string (bs p.topic), .string (bs p.payload), .bool p.clean, .int .i64 p.keep, .string (bs p.client), .bool p.hasUser, .string (bs p.user), .bool p.hasPass, .string (bs p.pass), .bool p.hasWill,
  .string (bs p.wTopic), .string (bs p.wPayload), .int .i64 p.wQos, .bool p.wRetain, .slice a.w p.wProps.length a.wc, .bool p.session, .int .i64 p.code, .slice a.cs p.codes.length a.cc, .slice a.fs p.filters.length a.fc, .slice a.ps p.props.length a.pc]
def pkV (p : Pk) (a : Ad) : Value := .agg (pkC p a)
theorem pkC_size (p : Pk) (a : Ad) : (pkC p a).size = 25 := rfl
theorem pkC_one (p : Pk) (a : Ad) : (pkC p a).all (·.oneCell') = true := by simp [pkC, Value.oneCell']
/-- The cells of filters, of codes. -/
def fcell (f : Fi) : List Value := [.string (bs f.topic), .int .i64 f.qos, .bool f.noLocal, .bool f.asPub, .int .i64 f.handling]
def fcs (l : List Fi) : List Value := l.flatMap fcell
def ics (l : List Int) : List Value := l.map (Value.int .i64)
theorem fcs_cons (f : Fi) (l : List Fi) : fcs (f :: l) = fcell f ++ fcs l := rfl
theorem fcs_length : ∀ (l : List Fi), (fcs l).length = l.length * 5
  | [] => rfl
  | f :: l => by rw [fcs_cons, List.length_append, fcs_length l, List.length_cons]; show 5 + _ = _; omega
theorem fcs_get : ∀ (l : List Fi) (j c : Nat) (f : Fi), l[j]? = some f → c < 5 → (fcs l)[j * 5 + c]? = (fcell f)[c]?
  | [], j, c, f, h, _ => by simp at h
  | q :: l, 0, c, f, h, hc => by
    simp at h; subst h
    rw [fcs_cons, List.getElem?_append_left (by show _ < 5; omega)]
    congr 1; omega
  | q :: l, j + 1, c, f, h, hc => by
    rw [fcs_cons, List.getElem?_append_right (by show 5 ≤ _; omega)]
    have : (j + 1) * 5 + c - (fcell q).length = j * 5 + c := by show _ - 5 = _; omega
    rw [this]
    exact fcs_get l j c f (by simpa using h) hc
theorem fcs_one (l : List Fi) : ∀ u ∈ fcs l, u.oneCell' = true := fun u hu => by
  unfold fcs at hu
  obtain ⟨p, _, hp⟩ := List.mem_flatMap.1 hu
  unfold fcell at hp
  simp at hp
  rcases hp with rfl | rfl | rfl | rfl | rfl <;> rfl
theorem ics_length (l : List Int) : (ics l).length = l.length * 1 := by simp [ics]
theorem ics_get (l : List Int) (j : Nat) (z : Int) (h : l[j]? = some z) : (ics l)[j]? = some (.int .i64 z) := by simp [ics, h]
theorem ics_one (l : List Int) : ∀ u ∈ ics l, u.oneCell' = true := fun u hu => by
  unfold ics at hu
  obtain ⟨z, _, rfl⟩ := List.mem_map.1 hu
  rfl
theorem CL.pl {W : World} {A : Option Addr} {l : List Pr} (h : CL W A (pcs l)) : PL W A l := fun hne => by
  have hp : pcs l ≠ [] := fun e => by
    have := pcs_length l
    rw [e] at this
    exact hne (List.length_eq_zero_iff.1 (by simp at this; omega))
  obtain ⟨g, i, e, hg, hc⟩ := h hp
  refine ⟨g, i, e, hg, fun j p hj => ?_⟩
  have hq : ∀ c, c < 4 → W.cell? ⟨g, i + j * 4 + c, none⟩ = (pc p)[c]? := fun c hc4 => by
    have h1 := pcs_get l j c p hj hc4
    have h2 : (pc p)[c]? = some ((pc p)[c]'hc4) := List.getElem?_eq_getElem hc4
    rw [h2] at h1 ⊢
    have := hc _ _ h1
    rwa [← Nat.add_assoc] at this
  exact ⟨hq 0 (by decide), hq 1 (by decide), hq 2 (by decide), hq 3 (by decide)⟩
theorem PL.cl {W : World} {A : Option Addr} {l : List Pr} (h : PL W A l) : CL W A (pcs l) := fun hne => by
  have hl : l ≠ [] := by rintro rfl; exact hne rfl
  obtain ⟨g, i, e, hg, hc⟩ := h hl
  refine ⟨g, i, e, hg, fun j u hu => ?_⟩
  have hj : j < l.length * 4 := by
    have := (List.getElem?_eq_some_iff.1 hu).1
    rwa [pcs_length] at this
  obtain ⟨p, hp⟩ : ∃ p, l[j / 4]? = some p := ⟨_, List.getElem?_eq_getElem (by omega)⟩
  obtain ⟨a0, a1, a2, a3⟩ := hc (j / 4) p hp
  have e1 : j = j / 4 * 4 + j % 4 := by omega
  have hq : (pcs l)[j]? = (pc p)[j % 4]? := by
    have := pcs_get l (j / 4) (j % 4) p hp (by omega)
    rwa [← e1] at this
  rw [hu] at hq
  have hr : j % 4 = 0 ∨ j % 4 = 1 ∨ j % 4 = 2 ∨ j % 4 = 3 := by omega
  rcases hr with h | h | h | h
  · rw [h] at hq; rw [show i + j = i + j / 4 * 4 by omega, a0]; exact hq.symm
  · rw [h] at hq; rw [show i + j = i + j / 4 * 4 + 1 by omega, a1]; exact hq.symm
  · rw [h] at hq; rw [show i + j = i + j / 4 * 4 + 2 by omega, a2]; exact hq.symm
  · rw [h] at hq; rw [show i + j = i + j / 4 * 4 + 3 by omega, a3]; exact hq.symm
/-- A filter that lies in a list, cell by cell. -/
theorem CL.fi {W : World} {A : Option Addr} {l : List Fi} (h : CL W A (fcs l)) {j : Nat} {f : Fi} (hj : l[j]? = some f) : ∃ g i, A = some ⟨g, i, none⟩ ∧ g < W.heap.size ∧
    W.cell? ⟨g, i + j * 5, none⟩ = some (.string (bs f.topic)) ∧ W.cell? ⟨g, i + j * 5 + 1, none⟩ = some (.int .i64 f.qos) ∧ W.cell? ⟨g, i + j * 5 + 2, none⟩ = some (.bool f.noLocal) ∧ W.cell? ⟨g, i + j * 5 + 3, none⟩ = some (.bool f.asPub) ∧ W.cell? ⟨g, i + j * 5 + 4, none⟩ = some (.int .i64 f.handling) := by
  have hne : fcs l ≠ [] := fun e => by
    have h1 := fcs_get l j 0 f hj (by decide)
    rw [e] at h1
    cases h1
  obtain ⟨g, i, e, hg, hc⟩ := h hne
  have hq : ∀ c, c < 5 → W.cell? ⟨g, i + j * 5 + c, none⟩ = (fcell f)[c]? := fun c hc5 => by
    have h1 := fcs_get l j c f hj hc5
    have h2 : (fcell f)[c]? = some ((fcell f)[c]'hc5) := List.getElem?_eq_getElem hc5
    rw [h2] at h1 ⊢
    have := hc _ _ h1
    rwa [← Nat.add_assoc] at this
  exact ⟨g, i, e, hg, hq 0 (by decide), hq 1 (by decide), hq 2 (by decide), hq 3 (by decide), hq 4 (by decide)⟩
theorem CL.int {W : World} {A : Option Addr} {l : List Int} (h : CL W A (ics l)) {j : Nat} {z : Int} (hj : l[j]? = some z) : ∃ g i, A = some ⟨g, i, none⟩ ∧ g < W.heap.size ∧ W.cell? ⟨g, i + j, none⟩ = some (.int .i64 z) := by
  have h1 := ics_get l j z hj
  obtain ⟨g, i, e, hg, hc⟩ := h (fun e => by rw [e] at h1; cases h1)
  exact ⟨g, i, e, hg, hc j _ h1⟩
/-- A packet's lists lie where it says. -/
structure PkAt (W : World) (p : Pk) (a : Ad) : Prop where
  w : PL W a.w p.wProps
  cs : CL W a.cs (ics p.codes)
  fs : CL W a.fs (fcs p.filters)
  ps : PL W a.ps p.props
theorem PkAt.below {W W' : World} {p : Pk} {a : Ad} (h : PkAt W p a) (hb : Below W.heap.size W W') : PkAt W' p a := ⟨h.w.below hb, h.cs.below hb, h.fs.below hb, h.ps.below hb⟩
theorem PkAt.draws {W : World} {p : Pk} {a : Ad} (h : PkAt W p a) (n : Nat) : PkAt (W.drewN n) p a := h.below (below_draws (Below.refl _ _) n)
/-- Its fields are what their types hold, its strings no longer than memory allows. -/
structure PkOk (p : Pk) : Prop where
  kind : -9223372036854775808 ≤ p.kind ∧ p.kind ≤ 9223372036854775807
  qos : -9223372036854775808 ≤ p.qos ∧ p.qos ≤ 9223372036854775807
  texts : ∀ t ∈ p.texts, t.length ≤ 140737488351232
  wps : ∀ x ∈ p.wProps, PrOk x ∧ x.text.length ≤ 140737488351232 ∧ x.value.length ≤ 140737488351232
  pps : ∀ x ∈ p.props, PrOk x ∧ x.text.length ≤ 140737488351232 ∧ x.value.length ≤ 140737488351232
  fis : ∀ f ∈ p.filters, f.topic.length ≤ 140737488351232
/-- Its lists of properties are no longer than their capacities; its will's QoS is an int. -/
structure PkCap (p : Pk) (a : Ad) : Prop where
  pc : p.props.length ≤ a.pc
  wc : p.wProps.length ≤ a.wc
  q : -9223372036854775808 ≤ p.wQos ∧ p.wQos ≤ 9223372036854775807
end Go.Proofs.YtaahhbjnflimnaaGreat
namespace Go.Proofs.YtaahhbjnflimnaaGreat
open Go.RowKit

theorem below_set {w W : World} {B b j : Nat} {u : Value} (h : Below B w W) (hb : B ≤ b) : Below B w (W.setCell ⟨b, j, none⟩ u) := h.setCell (show B ≤ (⟨b, j, none⟩ : Addr).block from hb) u
theorem own_row_set {W : World} {b j : Nat} {u : Value} {C D : Array Value} {t : TypeId} (h : W.heap[b]? = some (.cells C t (0, 0))) (he : C.setIfInBounds j u = D) : (W.setCell ⟨b, j, none⟩ u).heap[b]? = some (.cells D t (0, 0)) := by
  have := setCell_block h j u
  rw [he] at this
  exact this
end Go.Proofs.YtaahhbjnflimnaaGreat
namespace Go.Proofs.YtaahhbjnflimnaaGreat
open Go.RowKit

/-- What stands while connect.fits, connect.Valid run: the packet, in its box. -/
structure BxS (w : World) (p : Pk) (a : Ad) (W : World) : Prop where
  low : Below w.heap.size w W
  box : W.heap[w.heap.size]? = some (.cells (pkC p a) 28 (0, 0))
theorem BxS.made (w : World) (p : Pk) (a : Ad) : BxS w p a (w.alloc (.cells (pkC p a) 28)) := ⟨below_box _, heap_alloc_new _ _⟩
theorem BxS.call {w W W' : World} {p : Pk} {a : Ad} (h : BxS w p a W) (hb : Below W.heap.size W W') : BxS w p a W' := ⟨below_then h.low hb, (hb.block _ (lt_of_block h.box)).trans h.box⟩
theorem BxS.draw {w W : World} {p : Pk} {a : Ad} (h : BxS w p a W) : BxS w p a W.drew := ⟨h.low.drew, h.box⟩
theorem BxS.cell {w W : World} {p : Pk} {a : Ad} (h : BxS w p a W) (j : Nat) : W.cell? ⟨w.heap.size, j, none⟩ = (pkC p a)[j]? := cell_of_row _ _ j _ _ _ h.box
end Go.Proofs.YtaahhbjnflimnaaGreat
