/-
  Plain facts: a text divided at indexes, in whatever order they come. No condition.
-/
import Derived.Lib.Hide
namespace Go.Proofs.Ytecadfnajogffaa

/-- An index into its place. -/
def inL (x : Nat) : List Nat → List Nat
  | [] => [x]
  | y :: l => if x < y then x :: y :: l else y :: inL x l
def okL (n : Nat) (c : Int) : Bool := decide (0 ≤ c) && decide (c ≤ (n : Int))
/-- The indexes that count, in order. -/
def cutsL (n : Nat) (cuts : List Int) : List Nat := cuts.foldl (fun l c => if okL n c then inL c.toNat l else l) []
/-- A text's pieces behind one place, cut at indexes. -/
def piecesL {α : Type} (s : List α) : Nat → List Nat → List (List α)
  | f, [] => [s.drop f]
  | f, x :: l => (s.drop f).take (x - f) :: piecesL s x l
def chunksL {α : Type} (s : List α) (cuts : List Int) : List (List α) := piecesL s 0 (cutsL s.length cuts)
theorem in_length (x : Nat) : ∀ l, (inL x l).length = l.length + 1
  | [] => rfl
  | y :: l => by
    unfold inL
    split
    · rfl
    · rw [List.length_cons, in_length x l]; rfl
theorem in_mem (x : Nat) : ∀ l y, y ∈ inL x l ↔ y = x ∨ y ∈ l
  | [], y => by simp [inL]
  | z :: l, y => by
    unfold inL
    split
    · simp
    · rw [List.mem_cons, in_mem x l y, List.mem_cons]
      constructor
      · rintro (h | h | h)
        · exact .inr (.inl h)
        · exact .inl h
        · exact .inr (.inr h)
      · rintro (h | h | h)
        · exact .inr (.inl h)
        · exact .inl h
        · exact .inr (.inr h)
theorem in_sorted (x : Nat) : ∀ l : List Nat, l.Pairwise (· ≤ ·) → (inL x l).Pairwise (· ≤ ·)
  | [], _ => by simp [inL]
  | y :: l, h => by
    unfold inL
    rw [List.pairwise_cons] at h
    split
    · rw [List.pairwise_cons, List.pairwise_cons]
      refine ⟨fun z hz => ?_, h⟩
      rcases List.mem_cons.1 hz with rfl | hz
      · omega
      · have := h.1 z hz; omega
    · rw [List.pairwise_cons]
      refine ⟨fun z hz => ?_, in_sorted x l h.2⟩
      rcases (in_mem x l z).1 hz with rfl | hz
      · omega
      · exact h.1 z hz
theorem in_perm (x : Nat) : ∀ l : List Nat, (inL x l).Perm (x :: l)
  | [] => List.Perm.refl _
  | y :: l => by
    unfold inL
    split
    · exact List.Perm.refl _
    · exact ((in_perm x l).cons y).trans (List.Perm.swap x y l)
def fitL (n : Nat) (cuts : List Int) : List Nat := (cuts.filter (okL n)).map Int.toNat
theorem cuts_from (n : Nat) : ∀ (cuts : List Int) (l : List Nat), l.Pairwise (· ≤ ·) → (cuts.foldl (fun l c => if okL n c then inL c.toNat l else l) l).Pairwise (· ≤ ·) ∧ (cuts.foldl (fun l c => if okL n c then inL c.toNat l else l) l).Perm (fitL n cuts ++ l)
  | [], l, h => ⟨h, List.Perm.refl _⟩
  | c :: r, l, h => by
    rw [List.foldl_cons]
    cases hc : okL n c with
    | true =>
      rw [if_pos rfl]
      obtain ⟨h1, h2⟩ := cuts_from n r (inL c.toNat l) (in_sorted _ _ h)
      refine ⟨h1, h2.trans ?_⟩
      unfold fitL
      rw [List.filter_cons_of_pos hc, List.map_cons]
      refine ((in_perm c.toNat l).append_left _).trans ?_
      exact List.perm_middle
    | false =>
      rw [if_neg (by decide)]
      obtain ⟨h1, h2⟩ := cuts_from n r l h
      refine ⟨h1, ?_⟩
      unfold fitL
      rw [List.filter_cons_of_neg (by rw [hc]; decide)]
      exact h2
theorem cuts_sorted (n : Nat) (cuts : List Int) : (cutsL n cuts).Pairwise (· ≤ ·) := (cuts_from n cuts [] .nil).1
theorem cuts_perm (n : Nat) (cuts : List Int) : (cutsL n cuts).Perm (fitL n cuts) := by
  have := (cuts_from n cuts [] .nil).2
  rwa [List.append_nil] at this
theorem cuts_le {n : Nat} {cuts : List Int} {x : Nat} (h : x ∈ cutsL n cuts) : x ≤ n := by
  have h1 := (cuts_perm n cuts).mem_iff.1 h
  unfold fitL at h1
  obtain ⟨c, h2, rfl⟩ := List.mem_map.1 h1
  have h3 := (List.mem_filter.1 h2).2
  simp only [okL, Bool.and_eq_true, decide_eq_true_eq] at h3
  omega
theorem cuts_mem {n : Nat} {cuts : List Int} {x : Nat} (h : x ∈ cutsL n cuts) : (x : Int) ∈ cuts := by
  have h1 := (cuts_perm n cuts).mem_iff.1 h
  unfold fitL at h1
  obtain ⟨c, h2, rfl⟩ := List.mem_map.1 h1
  obtain ⟨h3, h4⟩ := List.mem_filter.1 h2
  simp only [okL, Bool.and_eq_true, decide_eq_true_eq] at h4
  have : ((c.toNat : Nat) : Int) = c := by omega
  rw [this]; exact h3
/-- Indexes' order does not matter. -/
theorem cuts_turn {n : Nat} {a b : List Int} (h : a.Perm b) : cutsL n a = cutsL n b := by
  have hp : (cutsL n a).Perm (cutsL n b) := (cuts_perm n a).trans (((h.filter _).map _).trans (cuts_perm n b).symm)
  exact hp.eq_of_pairwise (fun x y _ _ h1 h2 => Nat.le_antisymm h1 h2) (cuts_sorted n a) (cuts_sorted n b)
theorem chunks_turn {α : Type} (s : List α) {a b : List Int} (h : a.Perm b) : chunksL s a = chunksL s b := by
  unfold chunksL
  rw [cuts_turn h]
theorem pieces_length {α : Type} (s : List α) : ∀ (l : List Nat) (f : Nat), (piecesL s f l).length = l.length + 1
  | [], _ => rfl
  | x :: l, f => by
    unfold piecesL
    rw [List.length_cons, pieces_length s l x]; rfl
theorem chunks_length {α : Type} (s : List α) (cuts : List Int) : (chunksL s cuts).length = (cuts.filter (okL s.length)).length + 1 := by
  unfold chunksL
  rw [pieces_length, (cuts_perm _ _).length_eq, fitL, List.length_map]
theorem pieces_flat {α : Type} (s : List α) : ∀ (l : List Nat) (f : Nat), (∀ x ∈ l, f ≤ x) → l.Pairwise (· ≤ ·) → (piecesL s f l).flatten = s.drop f
  | [], f, _, _ => by simp [piecesL]
  | x :: l, f, h, hp => by
    rw [List.pairwise_cons] at hp
    unfold piecesL
    rw [List.flatten_cons, pieces_flat s l x hp.1 hp.2]
    have hx := h x (List.mem_cons_self ..)
    have : s.drop x = (s.drop f).drop (x - f) := by rw [List.drop_drop]; congr 1; omega
    rw [this, List.take_append_drop]
/-- The chunks, one after the other, are the string. -/
theorem chunks_flat {α : Type} (s : List α) (cuts : List Int) : (chunksL s cuts).flatten = s := by
  unfold chunksL
  rw [pieces_flat s _ 0 (fun _ _ => Nat.zero_le _) (cuts_sorted _ _)]
  rfl
/-- Each chunk but the last ends at an index. -/
theorem pieces_end {α : Type} (s : List α) : ∀ (l : List Nat) (f : Nat), (∀ x ∈ l, f ≤ x ∧ x ≤ s.length) → l.Pairwise (· ≤ ·) → ∀ i, i < l.length → f + ((piecesL s f l).take (i + 1)).flatten.length ∈ l
  | [], _, _, _, i, hi => absurd hi (Nat.not_lt_zero _)
  | x :: l, f, h, hp, i, hi => by
    rw [List.pairwise_cons] at hp
    have hx := h x (List.mem_cons_self ..)
    unfold piecesL
    rw [List.take_succ_cons, List.flatten_cons, List.length_append, List.length_take, List.length_drop]
    cases i with
    | zero =>
      rw [List.take_zero]
      refine List.mem_cons.2 (.inl ?_)
      simp only [List.flatten_nil, List.length_nil]
      omega
    | succ i =>
      refine List.mem_cons.2 (.inr ?_)
      have := pieces_end s l x (fun y hy => ⟨hp.1 y hy, (h y (List.mem_cons_of_mem _ hy)).2⟩) hp.2 i (by simpa using hi)
      have e : f + (min (x - f) (s.length - f) + (List.take (i + 1) (piecesL s x l)).flatten.length) = x + (List.take (i + 1) (piecesL s x l)).flatten.length := by omega
      rw [e]
      exact this
theorem chunks_end {α : Type} (s : List α) (cuts : List Int) {i : Nat} (hi : i + 1 < (chunksL s cuts).length) : (((((chunksL s cuts).take (i + 1)).flatten.length : Nat) : Int)) ∈ cuts := by
  unfold chunksL at hi ⊢
  rw [pieces_length] at hi
  have := pieces_end s (cutsL s.length cuts) 0 (fun x hx => ⟨Nat.zero_le _, cuts_le hx⟩) (cuts_sorted _ _) i (by omega)
  rw [Nat.zero_add] at this
  exact cuts_mem this
/-- The pieces but the last, and where the last begins. -/
def headsL {α : Type} (s : List α) : Nat → List Nat → List (List α)
  | _, [] => []
  | f, x :: l => (s.drop f).take (x - f) :: headsL s x l
def lastL : Nat → List Nat → Nat
  | f, [] => f
  | _, x :: l => lastL x l
theorem pieces_heads {α : Type} (s : List α) : ∀ (l : List Nat) (f : Nat), piecesL s f l = headsL s f l ++ [s.drop (lastL f l)]
  | [], _ => rfl
  | x :: l, f => by rw [piecesL, headsL, lastL, pieces_heads s l x]; rfl
theorem heads_snoc {α : Type} (s : List α) (x : Nat) : ∀ (l : List Nat) (f : Nat), headsL s f (l ++ [x]) = headsL s f l ++ [(s.drop (lastL f l)).take (x - lastL f l)]
  | [], _ => rfl
  | y :: l, f => by rw [List.cons_append, headsL, headsL, lastL, heads_snoc s x l y]; rfl
theorem last_snoc (x : Nat) : ∀ (l : List Nat) (f : Nat), lastL f (l ++ [x]) = x
  | [], _ => rfl
  | y :: l, f => by rw [List.cons_append, lastL, last_snoc x l y]
theorem last_le {x : Nat} : ∀ (l : List Nat) (f : Nat), f ≤ x → (∀ y ∈ l, y ≤ x) → lastL f l ≤ x
  | [], _, h, _ => h
  | y :: l, _, _, h => last_le l y (h y (List.mem_cons_self ..)) fun z hz => h z (List.mem_cons_of_mem _ hz)
theorem heads_length {α : Type} (s : List α) : ∀ (l : List Nat) (f : Nat), (headsL s f l).length = l.length
  | [], _ => rfl
  | x :: l, f => by rw [headsL, List.length_cons, heads_length s l x, List.length_cons]
/-- Numbers in order. -/
def sortL (zs : List Int) : List Int := zs.mergeSort fun x y => decide (x ≤ y)
theorem sort_perm (zs : List Int) : (sortL zs).Perm zs := List.mergeSort_perm _ _
theorem sort_length (zs : List Int) : (sortL zs).length = zs.length := (sort_perm zs).length_eq
theorem sort_pairwise (zs : List Int) : (sortL zs).Pairwise (· ≤ ·) := by
  have h := List.pairwise_mergeSort (le := fun x y : Int => decide (x ≤ y)) (fun a b c h1 h2 => by simp only [decide_eq_true_eq] at *; omega) (fun a b => by simp only [Bool.or_eq_true, decide_eq_true_eq]; omega) zs
  exact h.imp fun h => by simpa using h
theorem fit_pairwise {n : Nat} {l : List Int} (h : l.Pairwise (· ≤ ·)) : (fitL n l).Pairwise (· ≤ ·) := by
  unfold fitL
  rw [List.pairwise_map]
  exact (h.filter _).imp fun h => by omega
/-- The indexes that count are what of the sorted ones may count. -/
theorem cuts_sort (n : Nat) (zs : List Int) : cutsL n zs = fitL n (sortL zs) := by
  have hp : (cutsL n zs).Perm (fitL n (sortL zs)) := (cuts_perm n zs).trans (((sort_perm zs).filter _).map _).symm
  exact hp.eq_of_pairwise (fun x y _ _ h1 h2 => Nat.le_antisymm h1 h2) (cuts_sorted n zs) (fit_pairwise (sort_pairwise zs))
theorem fit_step_yes {n k : Nat} {l : List Int} (hk : k < l.length) (h : okL n (l.getD k 0) = true) : fitL n (l.take (k + 1)) = fitL n (l.take k) ++ [(l.getD k 0).toNat] := by
  have e : l.getD k 0 = l[k] := by simp [List.getD, hk]
  rw [e] at h ⊢
  unfold fitL
  rw [List.take_succ_eq_append_getElem hk, List.filter_append, List.filter_cons_of_pos h, List.map_append]
  rfl
theorem fit_step_no {n k : Nat} {l : List Int} (hk : k < l.length) (h : okL n (l.getD k 0) = false) : fitL n (l.take (k + 1)) = fitL n (l.take k) := by
  have e : l.getD k 0 = l[k] := by simp [List.getD, hk]
  rw [e] at h
  unfold fitL
  rw [List.take_succ_eq_append_getElem hk, List.filter_append, List.filter_cons_of_neg (by rw [h]; decide), List.filter_nil, List.append_nil]
theorem fit_before {n k : Nat} {l : List Int} (hl : l.Pairwise (· ≤ ·)) (hk : k < l.length) (h : okL n (l.getD k 0) = true) : lastL 0 (fitL n (l.take k)) ≤ (l.getD k 0).toNat := by
  have hp := fit_pairwise (n := n) (hl.sublist (List.take_sublist (k + 1) l))
  rw [fit_step_yes hk h, List.pairwise_append] at hp
  exact last_le _ _ (Nat.zero_le _) fun y hy => hp.2.2 y hy _ (List.mem_cons_self ..)
theorem fit_le {n : Nat} {l : List Int} : lastL 0 (fitL n l) ≤ n := by
  refine last_le _ _ (Nat.zero_le _) fun y hy => ?_
  unfold fitL at hy
  obtain ⟨c, h2, rfl⟩ := List.mem_map.1 hy
  have h3 := (List.mem_filter.1 h2).2
  simp only [okL, Bool.and_eq_true, decide_eq_true_eq] at h3
  omega
theorem fit_length (n : Nat) (l : List Int) : (fitL n l).length ≤ l.length := by
  unfold fitL
  rw [List.length_map]
  exact List.length_filter_le _ _
theorem flat_take {α : Type} (cs : List (List α)) (k : Nat) : (cs.take k).flatten.length ≤ cs.flatten.length := by
  have h := congrArg (fun l => l.flatten.length) (List.take_append_drop k cs)
  simp only [List.flatten_append, List.length_append] at h
  omega
/-- A chunk, and what stands behind it: the last one, or an index. -/
theorem chunks_stop {α : Type} (s : List α) (zs : List Int) {i : Nat} (hi : i < (chunksL s zs).length) : (decide (i + 1 = (chunksL s zs).length) || zs.any fun z => z == ((((chunksL s zs).take (i + 1)).flatten.length : Nat) : Int)) = true := by
  by_cases h : i + 1 = (chunksL s zs).length
  · rw [decide_eq_true h]; rfl
  · rw [decide_eq_false h, Bool.false_or, List.any_eq_true]
    exact ⟨_, chunks_end s zs (i := i) (by omega), beq_self_eq_true _⟩
theorem any_step {z : Int} {l : List Int} {k : Nat} (hk : k < l.length) (f : Int → Bool) (hz : l.getD k 0 = z) : (l.take (k + 1)).any f = ((l.take k).any f || f z) := by
  rw [List.take_succ_eq_append_getElem hk, List.any_append]
  have e : l[k] = z := by rw [← hz]; simp [List.getD, hk]
  rw [e, List.any_cons, List.any_nil, Bool.or_false]
end Go.Proofs.Ytecadfnajogffaa
