/-
  Lists of properties as cells: literal lists, lists that a call has made. No condition.
-/
import Derived.Test.YtgdaojihpjfjiaaPropBytes
namespace Go.Proofs.Ytgdaojihpjfjiaa
open Go.RowKit

/-- The cells of a property, of a list. -/
def pc (p : Pr) : List Value := [.int .i64 p.id, .int .u32 p.n, .string (bs p.text), .string (bs p.value)]
def pcs (l : List Pr) : List Value := l.flatMap pc
theorem pcs_nil : pcs [] = [] := rfl
theorem pcs_cons (p : Pr) (l : List Pr) : pcs (p :: l) = pc p ++ pcs l := rfl
theorem pcs_append (a b : List Pr) : pcs (a ++ b) = pcs a ++ pcs b := by simp [pcs]
theorem pcs_length : ∀ (l : List Pr), (pcs l).length = l.length * 4
  | [] => rfl
  | p :: l => by rw [pcs_cons, List.length_append, pcs_length l, List.length_cons]; show 4 + _ = _; omega
theorem pcs_get : ∀ (l : List Pr) (j c : Nat) (p : Pr), l[j]? = some p → c < 4 → (pcs l)[j * 4 + c]? = (pc p)[c]?
  | [], j, c, p, h, _ => by simp at h
  | q :: l, 0, c, p, h, hc => by
    simp at h; subst h
    rw [pcs_cons, List.getElem?_append_left (by show _ < 4; omega)]
    congr 1; omega
  | q :: l, j + 1, c, p, h, hc => by
    rw [pcs_cons, List.getElem?_append_right (by show 4 ≤ _; omega)]
    have : (j + 1) * 4 + c - (pc q).length = j * 4 + c := by show _ - 4 = _; omega
    rw [this]
    exact pcs_get l j c p (by simpa using h) hc
theorem pcs_one (l : List Pr) : ∀ u ∈ pcs l, u.oneCell' = true := fun u hu => by
  unfold pcs at hu
  obtain ⟨p, _, hp⟩ := List.mem_flatMap.1 hu
  unfold pc at hp
  simp at hp
  rcases hp with rfl | rfl | rfl | rfl <;> rfl
/-- A row whose cells are the list's. -/
theorem PL.of_cells {W : World} {g : Nat} {cs : Array Value} {t : TypeId} {l : List Pr} (hg : W.heap[g]? = some (.cells cs t (0, 0))) (h : ∀ (j : Nat) (u : Value), (pcs l)[j]? = some u → cs[j]? = some u) : PL W (some ⟨g, 0, none⟩) l := fun _ => by
  refine ⟨g, 0, rfl, lt_of_block hg, fun j p hj => ?_⟩
  have hc : ∀ c, c < 4 → W.cell? ⟨g, 0 + j * 4 + c, none⟩ = (pc p)[c]? := fun c hc => by
    rw [cell_of_row W g _ cs _ _ hg]
    have h1 := pcs_get l j c p hj hc
    have h2 : (pc p)[c]? = some ((pc p)[c]'hc) := List.getElem?_eq_getElem hc
    rw [h2] at h1 ⊢
    rw [Nat.zero_add]
    exact h _ _ h1
  exact ⟨hc 0 (by decide), hc 1 (by decide), hc 2 (by decide), hc 3 (by decide)⟩
/-- A literal list. -/
theorem PL.made (W : World) (l : List Pr) (cs : Array Value) (t : TypeId) (h : cs = (pcs l).toArray) : PL (W.alloc (.cells cs t)) (some ⟨W.heap.size, 0, none⟩) l :=
  PL.of_cells (heap_alloc_new W _) (fun j u hu => by rw [h]; simpa using hu)
/-- A row that is owned. -/
theorem PL.owned {W : World} {base n : Nat} {v : Value} {l : List Pr} {t : TypeId} (h : W.ownsRow base t 4 v n (pcs l)) (hn : n = l.length) :
    ∃ A c, v = .slice A n c ∧ n ≤ c ∧ PL W A l ∧ ∀ g i, A = some ⟨g, i, none⟩ → base ≤ g := by
  rcases h.2 with ⟨rfl, h0⟩ | ⟨g, cap, cur, rfl, hb, hg, hc, _, _, hcur⟩
  · subst h0
    have : l = [] := List.length_eq_zero_iff.1 hn.symm
    subst this
    exact ⟨none, 0, rfl, Nat.le_refl _, PL.nil, fun g i e => by cases e⟩
  · refine ⟨_, cap, rfl, hc, PL.of_cells hg (fun j u hu => ?_), fun g' i e => by cases e; exact hb⟩
    rw [← hcur] at hu
    have hj : j < n * 4 := by
      have := (List.getElem?_eq_some_iff.1 hu).1
      rw [List.length_take] at this; omega
    rw [List.getElem?_take_of_lt hj] at hu
    simpa using hu
/-- A part of a list, behind its first k. -/
theorem PL.drop {W : World} {g i : Nat} {l : List Pr} (h : PL W (some ⟨g, i, none⟩) l) (k : Nat) : PL W (some ⟨g, i + k * 4, none⟩) (l.drop k) := fun hne => by
  have hne2 : l ≠ [] := by rintro rfl; simp at hne
  obtain ⟨g', i', e, hg, hc⟩ := h hne2
  cases e
  refine ⟨_, _, rfl, hg, fun j p hj => ?_⟩
  rw [List.getElem?_drop] at hj
  have := hc (k + j) p hj
  rw [show i + (k + j) * 4 = i + k * 4 + j * 4 by omega] at this
  exact this
theorem PL.take {W : World} {A : Option Addr} {l : List Pr} (h : PL W A l) (k : Nat) : PL W A (l.take k) := fun hne => by
  have hne2 : l ≠ [] := by rintro rfl; simp at hne
  obtain ⟨g, i, e, hg, hc⟩ := h hne2
  refine ⟨g, i, e, hg, fun j p hj => ?_⟩
  rw [List.getElem?_take] at hj
  split at hj
  · exact hc j p hj
  · cases hj

/-- The chapter's example. -/
def exP : Pr := ⟨1, 1, [], []⟩
theorem lives_prop (w : World) : Calls Try.prog 9 #[] w fun e w' => e = .returned (.bool true) ∧ Below w.heap.size w w' := by
  have hL : PL (w.alloc (.cells #[.int .i64 1, .int .u32 1, .string ⟨#[]⟩, .string ⟨#[]⟩] 25)) (some ⟨w.heap.size, 0, none⟩) [exP] := PL.made _ _ _ _ rfl
  have BY := bytes_list 3 (some ⟨w.heap.size, 0, none⟩) 1 1 [exP] _ (by decide) (by decide) hL rfl (Nat.le_refl _) (fun p hp => by simp at hp; subst hp; exact ⟨by decide, by decide, by decide, by decide, by decide⟩)
  have e1 : bytesP 3 [exP] = ([2, 1, 1], 0) := by decide
  rw [e1] at BY
  have hb : Below w.heap.size w (w.alloc (.cells #[.int .i64 1, .int .u32 1, .string ⟨#[]⟩, .string ⟨#[]⟩] 25)) := (Below.refl _ _).alloc (Nat.le_refl _) _
  have HB := Lib.hid hb
  have BY := Lib.hid BY
  have HQ := Lib.hid (show ((bs [2, 1, 1]).toList == [2, 1, 1]) = true by rw [bs_toList]; rfl)
  clear hL hb e1
  go_enter Try.func9, Try.ntmps9
  go_wp2_with fail
  refine (BY.out).mono ?_
  rintro e w' ⟨rfl, hb⟩
  go_wp2_with fail
  go_ret
  exact ⟨congrArg (fun b => Ending.returned (Value.bool b)) HQ.out, HB.out.trans (hb.mono HB.out.size)⟩
end Go.Proofs.Ytgdaojihpjfjiaa
