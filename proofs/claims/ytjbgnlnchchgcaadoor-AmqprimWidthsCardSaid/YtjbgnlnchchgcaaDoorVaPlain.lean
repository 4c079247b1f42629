/-
  Values of AMQP as they lie in memory: a tree whose nodes say where their items lie. No condition.
-/
import Derived.Test.YtjbgnlnchchgcaaDoorTopStr
import Derived.Test.YtjbgnlnchchgcaaDoorCl
import Derived.Test.YtjbgnlnchchgcaaDoorRow
namespace Go.Proofs.YtjbgnlnchchgcaaDoor
open Go.RowKit

/-- A value: its kind, number, text; where its items lie, how many fit there, the items. -/
inductive Av where
  | mk (kind : Int) (n : Nat) (text : List UInt8) (A : Option Addr) (cap : Nat) (items : List Av)
instance : Inhabited Av := ⟨.mk 0 0 [] none 0 []⟩
def Av.kind : Av → Int | .mk k _ _ _ _ _ => k
def Av.n : Av → Nat | .mk _ n _ _ _ _ => n
def Av.text : Av → List UInt8 | .mk _ _ t _ _ _ => t
def Av.A : Av → Option Addr | .mk _ _ _ a _ _ => a
def Av.cap : Av → Nat | .mk _ _ _ _ c _ => c
def Av.items : Av → List Av | .mk _ _ _ _ _ l => l
/-- A value's cells. -/
def avC (v : Av) : Array Value := #[.int .i64 v.kind, .int .u64 (v.n : Nat), .string (bs v.text), .slice v.A v.items.length v.cap]
def avCs (l : List Av) : List Value := l.flatMap fun v => (avC v).toList
theorem avC_size (v : Av) : (avC v).size = 4 := rfl
theorem avCs_length (l : List Av) : (avCs l).length = l.length * 4 := by
  induction l with
  | nil => rfl
  | cons v l ih => simp only [avCs, List.flatMap_cons, List.length_append, List.length_cons] at ih ⊢; rw [ih]; simp [avC]; omega
theorem avCs_append (a b : List Av) : avCs (a ++ b) = avCs a ++ avCs b := by simp [avCs]
theorem avC_one (v : Av) : (avC v).all (·.oneCell') = true := by simp [avC, Value.oneCell']
/-- The value lies in memory so. -/
def VAt : Nat → World → Av → Prop
  | 0, _, _ => False
  | d + 1, W, v => v.items.length ≤ v.cap ∧ (v.A = none → v.cap = 0) ∧
    (0 < v.items.length → ∃ a, v.A = some a ∧ a.block < W.heap.size ∧ ∀ i x, v.items[i]? = some x → ∀ j u, (avC x)[j]? = some u → W.cell? (a.add (i * 4 + j)) = some u) ∧ ∀ x ∈ v.items, VAt d W x
/-- Its numbers are what their types hold. -/
def VOk : Nat → Av → Prop
  | 0, _ => False
  | d + 1, v => (-9223372036854775808 ≤ v.kind ∧ v.kind ≤ 9223372036854775807) ∧ v.n < 18446744073709551616 ∧ v.text.length ≤ 9223372036854775807 ∧ v.cap ≤ 9223372036854775807 ∧ ∀ x ∈ v.items, VOk d x
theorem VAt.mono : ∀ {d e : Nat} {W : World} {v : Av}, d ≤ e → VAt d W v → VAt e W v
  | 0, _, _, _, _, h => absurd h (by simp [VAt])
  | d + 1, 0, _, _, h, _ => absurd h (by omega)
  | d + 1, e + 1, W, v, h, hv => ⟨hv.1, hv.2.1, hv.2.2.1, fun x hx => VAt.mono (by omega) (hv.2.2.2 x hx)⟩
theorem VOk.mono : ∀ {d e : Nat} {v : Av}, d ≤ e → VOk d v → VOk e v
  | 0, _, _, _, h => absurd h (by simp [VOk])
  | d + 1, 0, _, h, _ => absurd h (by omega)
  | d + 1, e + 1, v, h, hv => ⟨hv.1, hv.2.1, hv.2.2.1, hv.2.2.2.1, fun x hx => VOk.mono (by omega) (hv.2.2.2.2 x hx)⟩
theorem addr_blk (a : Addr) (k : Nat) : (a.add k).block = a.block := by
  unfold Addr.add
  split <;> rfl
theorem VAt.below : ∀ {d : Nat} {W W' : World} {v : Av}, VAt d W v → Below W.heap.size W W' → VAt d W' v
  | 0, _, _, _, h, _ => absurd h (by simp [VAt])
  | d + 1, W, W', v, h, hb => ⟨h.1, h.2.1, fun hn => by
      obtain ⟨a, e, hl, hc⟩ := h.2.2.1 hn
      exact ⟨a, e, Nat.lt_of_lt_of_le hl hb.size, fun i x hx j u hu => (World.cell?_of_block (a := a.add (i * 4 + j)) (by rw [addr_blk]; exact hb.block _ hl)).trans (hc i x hx j u hu)⟩,
    fun x hx => VAt.below (h.2.2.2 x hx) hb⟩
theorem add_twice (a : Addr) (i j : Nat) : (a.add i).add j = a.add (i + j) := by
  unfold Addr.add
  by_cases hi : i = 0
  · subst hi
    rw [if_pos rfl, Nat.zero_add]
  · rw [if_neg hi, if_neg (show ¬i + j = 0 by omega)]
    by_cases hj : j = 0
    · subst hj
      rw [if_pos rfl, Nat.add_zero]
    · rw [if_neg hj, Nat.add_assoc]
/-- A value's four cells, as a load reads them. -/
theorem cells_at {W : World} {a : Addr} {i : Nat} {x : Av} (h : ∀ (j : Nat) (u : Value), (avC x)[j]? = some u → W.cell? (a.add (i * 4 + j)) = some u) :
    W.cell? (a.add (i * 4)) = some (.int .i64 x.kind) ∧ W.cell? ⟨(a.add (i * 4)).block, (a.add (i * 4)).off + 1, none⟩ = some (.int .u64 (x.n : Nat)) ∧
      W.cell? ⟨(a.add (i * 4)).block, (a.add (i * 4)).off + 2, none⟩ = some (.string (bs x.text)) ∧ W.cell? ⟨(a.add (i * 4)).block, (a.add (i * 4)).off + 3, none⟩ = some (.slice x.A x.items.length x.cap) := by
  have e : ∀ j, 0 < j → (⟨(a.add (i * 4)).block, (a.add (i * 4)).off + j, none⟩ : Addr) = a.add (i * 4 + j) := fun j hj => by
    rw [← add_twice]
    generalize a.add (i * 4) = b
    unfold Addr.add
    rw [if_neg (by omega)]
  rw [e 1 (by omega), e 2 (by omega), e 3 (by omega)]
  exact ⟨h 0 _ rfl, h 1 _ rfl, h 2 _ rfl, h 3 _ rfl⟩
/-- Values that are the same but for where their items lie. -/
def simV : Nat → Av → Av → Prop
  | 0, _, _ => False
  | d + 1, a, b => a.kind = b.kind ∧ a.n = b.n ∧ a.text = b.text ∧ a.items.length = b.items.length ∧ ∀ (i : Nat) (x y : Av), a.items[i]? = some x → b.items[i]? = some y → simV d x y
/-- Are values the same? -/
def sameV : Nat → Av → Av → Bool
  | 0, _, _ => false
  | d + 1, a, b => decide (a.kind = b.kind) && decide (a.n = b.n) && decide (a.text = b.text) && decide (a.items.length = b.items.length) && ((a.items.zip b.items).all fun p => sameV d p.1 p.2)
/-- A block in which items of the value lie, however deep. -/
def VBl : Nat → Av → Nat → Prop
  | 0, _, _ => False
  | d + 1, v, g => (0 < v.items.length ∧ ∃ a, v.A = some a ∧ a.block = g) ∨ ∃ x ∈ v.items, VBl d x g
theorem VAt.moved : ∀ {d : Nat} {W W' : World} {v : Av}, VAt d W v → W.heap.size ≤ W'.heap.size → (∀ g, VBl d v g → W'.heap[g]? = W.heap[g]?) → VAt d W' v
  | 0, _, _, _, h, _, _ => absurd h (by simp [VAt])
  | d + 1, W, W', v, h, hs, hb => ⟨h.1, h.2.1, fun hn => by
      obtain ⟨a, e, hl, hc⟩ := h.2.2.1 hn
      exact ⟨a, e, Nat.lt_of_lt_of_le hl hs, fun i x hx j u hu => (World.cell?_of_block (a := a.add (i * 4 + j)) (by rw [addr_blk]; exact hb _ (.inl ⟨hn, a, e, rfl⟩))).trans (hc i x hx j u hu)⟩,
    fun x hx => VAt.moved (h.2.2.2 x hx) hs fun g hg => hb g (.inr ⟨x, hx, hg⟩)⟩
theorem VAt.lt : ∀ {d : Nat} {W : World} {v : Av} {g : Nat}, VAt d W v → VBl d v g → g < W.heap.size
  | 0, _, _, _, h, _ => absurd h (by simp [VAt])
  | d + 1, W, v, g, h, hg => by
    rcases hg with ⟨hn, a, e, rfl⟩ | ⟨x, hx, hg⟩
    · obtain ⟨a', e', hl, -⟩ := h.2.2.1 hn
      rw [e] at e'
      cases e'
      exact hl
    · exact (h.2.2.2 x hx).lt hg
/-- How many values there are in one; q: how deep it may be, and one more; m: how many there may be. -/
def nodesV : Nat → Nat → Av → Nat
  | 0, m, _ => m + 1
  | q + 1, m, v => if m < v.items.length ∨ 400 < v.text.length then m + 1 else v.items.foldl (fun n x => if n ≤ m then n + nodesV q (m - n) x else n) 1
theorem nodes_mk (q m : Nat) (k : Int) (n : Nat) (t : List UInt8) (A : Option Addr) (c : Nat) (l : List Av) : nodesV (q + 1) m (.mk k n t A c l) = if m < l.length ∨ 400 < t.length then m + 1 else l.foldl (fun n x => if n ≤ m then n + nodesV q (m - n) x else n) 1 := rfl
def lightV (v : Av) : Bool := decide (nodesV 7 40 v ≤ 40)
theorem nodes_pos : ∀ (q m : Nat) (v : Av), 1 ≤ nodesV q m v
  | 0, m, _ => by unfold nodesV; omega
  | q + 1, m, v => by
    unfold nodesV
    split
    · omega
    · have key : ∀ (l : List Av) (n : Nat), 1 ≤ n → 1 ≤ l.foldl (fun n x => if n ≤ m then n + nodesV q (m - n) x else n) n := by
        intro l
        induction l with
        | nil => intro n h; exact h
        | cons x l ih => intro n h; exact ih _ (by dsimp only; split <;> omega)
      exact key _ 1 (Nat.le_refl _)
theorem nodes_le : ∀ (q m : Nat) (v : Av), 1 ≤ m + 1 → nodesV q m v ≤ m + 1
  | 0, m, _, _ => Nat.le_refl _
  | q + 1, m, v, _ => by
    unfold nodesV
    split
    · exact Nat.le_refl _
    · have key : ∀ (l : List Av) (n : Nat), n ≤ m + 1 → l.foldl (fun n x => if n ≤ m then n + nodesV q (m - n) x else n) n ≤ m + 1 := by
        intro l
        induction l with
        | nil => intro n h; exact h
        | cons x l ih =>
          intro n h
          refine ih _ ?_
          dsimp only
          split
          · have := nodes_le q (m - n) x (by omega); omega
          · exact h
      exact key _ 1 (by omega)
/-- A value that may be gone through. -/
def liteV : Nat → Av → Prop
  | 0, _ => False
  | q + 1, v => v.items.length ≤ 40 ∧ v.text.length ≤ 400 ∧ ∀ x ∈ v.items, liteV q x
theorem fold_ge {q m : Nat} : ∀ (l : List Av) (n : Nat), n ≤ l.foldl (fun n x => if n ≤ m then n + nodesV q (m - n) x else n) n
  | [], _ => Nat.le_refl _
  | x :: l, n => by
    refine Nat.le_trans ?_ (fold_ge l _)
    dsimp only
    split <;> omega
theorem fold_each {q m : Nat} : ∀ (l : List Av) (n : Nat), l.foldl (fun n x => if n ≤ m then n + nodesV q (m - n) x else n) n ≤ m → ∀ x ∈ l, ∃ k, k ≤ m ∧ nodesV q k x ≤ k
  | [], _, _, _, hx => nomatch hx
  | y :: l, n, h, x, hx => by
    rw [List.foldl_cons] at h
    have hn : n ≤ m := Classical.byContradiction fun hn => by
      rw [if_neg hn] at h
      have h1 := fold_ge (q := q) (m := m) l n
      omega
    rw [if_pos hn] at h
    rcases List.mem_cons.1 hx with rfl | hx
    · have h1 := fold_ge (q := q) (m := m) l (n + nodesV q (m - n) x)
      exact ⟨m - n, Nat.sub_le _ _, by omega⟩
    · exact fold_each l _ h x hx
theorem nodes_lite : ∀ (q m : Nat) (v : Av), m ≤ 40 → nodesV q m v ≤ m → liteV q v
  | 0, m, v, _, h => absurd h (by unfold nodesV; omega)
  | q + 1, m, v, hm, h => by
    unfold nodesV at h
    by_cases hc : m < v.items.length ∨ 400 < v.text.length
    · rw [if_pos hc] at h; omega
    · rw [if_neg hc] at h
      refine ⟨by omega, by omega, fun x hx => ?_⟩
      obtain ⟨k, hk, hx⟩ := fold_each _ _ h x hx
      exact nodes_lite q k x (by omega) hx
theorem light_lite {v : Av} (h : lightV v = true) : liteV 7 v := nodes_lite 7 40 v (Nat.le_refl _) (by simpa [lightV] using h)
end Go.Proofs.YtjbgnlnchchgcaaDoor
