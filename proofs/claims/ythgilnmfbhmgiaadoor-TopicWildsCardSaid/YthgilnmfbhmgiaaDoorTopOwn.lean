/-
  The contract of polyglotkit.Own at a list of strings: a row of its own with the same strings. Condition: at most 70,000 strings.
-/
import Derived.OwnWalk
import Derived.WalkSmall
import Derived.Test.YthgilnmfbhmgiaaDoorTopLev
namespace Go.Proofs.YthgilnmfbhmgiaaDoor
open Go.RowKit

theorem infoS : (Tryd.prog.info? 9).map (fun i => (i.zero, i.size, i.bytes)) = some (some (.string .empty), 1, 16) := by kernel_rfl
/-- Block g begins with the strings ls. -/
def Cells (W : World) (g : Nat) (ls : List (List UInt8)) : Prop := ∀ j, j < ls.length → W.cell? ⟨g, j, none⟩ = some (.string (bs (ls.getD j [])))
theorem Cells.kept {W W' : World} {g : Nat} {ls : List (List UInt8)} (h : Cells W g ls) (hb : W'.heap[g]? = W.heap[g]?) : Cells W' g ls := fun j hj =>
  (World.cell?_of_block (a := ⟨g, j, none⟩) hb).trans (h j hj)
theorem Cells.sr {W : World} {g : Nat} {ls : List (List UInt8)} (h : Cells W g ls) (hg : g < W.heap.size) : SR W (some ⟨g, 0, none⟩) ls := fun _ => ⟨g, 0, rfl, hg, fun j hj => by rw [Nat.zero_add]; exact h j hj⟩
theorem own_cells {W : World} {base g n c : Nat} {ls : List (List UInt8)} (h : W.ownsRow base 9 1 (.slice (some ⟨g, 0, none⟩) n c) n (strs ls)) : Cells W g ls := fun j hj => by
  have := h.cells (g := g) rfl j (.string (bs (ls.getD j []))) (by simp [strs, List.getD, List.getElem?_eq_getElem hj])
  have hadd : (⟨g, 0, none⟩ : Addr).add j = ⟨g, j, none⟩ := by unfold Addr.add; split <;> simp_all
  rwa [hadd] at this
theorem strs_length (ls : List (List UInt8)) : (strs ls).length = ls.length := by simp [strs]
theorem strs_one (ls : List (List UInt8)) : ∀ u ∈ strs ls, u.oneCell' = true := fun u hu => by
  unfold strs at hu
  obtain ⟨l, _, rfl⟩ := List.mem_map.1 hu
  rfl

theorem own_src {w : World} {g i : Nat} {ls : List (List UInt8)} {t : TypeId} (h : ∀ j, j < ls.length → w.cell? ⟨g, i + j, none⟩ = some (.string (bs (ls.getD j [])))) :
    ∀ j u, (strs ls)[j]? = some u → (w.alloc (.cells #[] t)).cell? ((⟨g, i, none⟩ : Addr).add j) = some u := fun j u hu => by
  have hj : j < ls.length := by
    have := (List.getElem?_eq_some_iff.1 hu).1
    rwa [strs_length] at this
  have hc := h j hj
  have hadd : (⟨g, i, none⟩ : Addr).add j = ⟨g, i + j, none⟩ := by unfold Addr.add; split <;> simp_all
  rw [hadd, World.cell?_alloc_old _ _ _ (Nat.ne_of_lt (World.block_lt_of_cell? w _ hc)), hc]
  have : (strs ls)[j]? = some (.string (bs (ls.getD j []))) := by simp [strs, List.getD, List.getElem?_eq_getElem hj]
  rw [this] at hu
  exact hu
set_option maxHeartbeats 1000000 in
theorem own_any (g i n c : Nat) (ls : List (List UInt8)) (w : World) (hcell : ∀ j, j < ls.length → w.cell? ⟨g, i + j, none⟩ = some (.string (bs (ls.getD j [])))) (hn : n = ls.length) (hl : n ≤ 70000) :
    Calls Tryd.prog 20 #[.slice (some ⟨g, i, none⟩) n c] w fun e w' => ∃ v, e = .returned v ∧ w'.ownsRow w.heap.size 9 1 v n (strs ls) ∧ Below w.heap.size w w' := by
  obtain ⟨i0, hi, hz0, hz1, hz2⟩ := info_parts infoS
  have HC := Lib.hid hcell
  have HN := Lib.hid hn
  have hl' := Lib.hid hl
  clear hcell hn hl
  go_enter Tryd.func20, Tryd.ntmps20
  go_wp2_with (at_builtin; refine wpList_append_own _ rfl _ _ 23 rfl w.heap.size 9 i0 (.string .empty) 1 16 Tryd.underlying23 hi hz0 hz1 hz2 rfl (by decide) _ 0 [] rfl (World.ownsRow_made w #[] 0 (Nat.le_refl _) (by decide) rfl) ⟨g, i, none⟩ n c (strs ls) rfl (by rw [strs_length, HN.out, Nat.mul_one]) (own_src HC.out) (strs_one ls) (by have := hl'.out; simp only [maxLen]; omega) (by have := hl'.out; omega) (by simp) ?_; intro v' w1 hown hgrow _)
  go_ret
  rw [Nat.zero_add, List.nil_append] at hown
  refine ⟨_, rfl, hown, ⟨hgrow.os, hgrow.tape, hgrow.output, by have := hgrow.size; simp at this; omega, fun k hk => ?_⟩⟩
  rw [hgrow.block k (by rw [World.size_alloc]; omega) (fun e => by have e2 : k = w.heap.size := Option.some.inj e; omega)]
  exact (Below.heap_alloc w _ k hk)

/-- What a law keeps that makes rows of its own: what was there before it, and the rows rs, all below block B. -/
def KR (w W : World) (B : Nat) (rs : List (Nat × List (List UInt8))) : Prop :=
  Below w.heap.size w W ∧ w.heap.size ≤ B ∧ B ≤ W.heap.size ∧ ∀ r ∈ rs, r.1 < B ∧ Cells W r.1 r.2
theorem KR.same {w W W' : World} {B : Nat} {rs : List (Nat × List (List UInt8))} (h : KR w W B rs) (hb : Below B W W') : KR w W' B rs :=
  ⟨h.1.trans (hb.mono h.2.1), h.2.1, Nat.le_trans h.2.2.1 hb.size, fun r hr => ⟨(h.2.2.2 r hr).1, (h.2.2.2 r hr).2.kept (hb.block _ (h.2.2.2 r hr).1)⟩⟩
theorem KR.call {w W W' : World} {B : Nat} {rs : List (Nat × List (List UInt8))} (h : KR w W B rs) (hb : Below W.heap.size W W') : KR w W' B rs := h.same (hb.mono h.2.2.1)
theorem KR.alloc {w W : World} {B : Nat} {rs : List (Nat × List (List UInt8))} (h : KR w W B rs) (o : Obj) : KR w (W.alloc o) B rs := h.same ((Below.refl _ _).alloc h.2.2.1 _)
theorem below_grownBy {B : Nat} {W W' : World} {r : Option Nat} (hg : W.grownBy W' r) (hB : B ≤ W.heap.size) (hr : ∀ b, r = some b → B ≤ b) : Below B W W' :=
  ⟨hg.os, hg.tape, hg.output, hg.size, fun k hk => hg.block k (Nat.lt_of_lt_of_le hk hB) (fun e => by have := hr k e.symm; omega)⟩
theorem KR.grown {w W W' : World} {B : Nat} {rs : List (Nat × List (List UInt8))} {r : Option Nat} (h : KR w W B rs) (hg : W.grownBy W' r) (hr : ∀ b, r = some b → B ≤ b) : KR w W' B rs := h.same (below_grownBy hg h.2.2.1 hr)
theorem KR.set {w W : World} {B g : Nat} {rs : List (Nat × List (List UInt8))} (h : KR w W B rs) (hg : B ≤ g) (j : Nat) (v : Value) : KR w (W.setCell ⟨g, j, none⟩ v) B rs := h.same ((Below.refl _ _).setCell (p := ⟨g, j, none⟩) hg v)
theorem KR.add {w W : World} {B g : Nat} {rs : List (Nat × List (List UInt8))} {ls : List (List UInt8)} (h : KR w W B rs) (hg : g < W.heap.size) (hc : Cells W g ls) : KR w W W.heap.size ((g, ls) :: rs) :=
  ⟨h.1, Nat.le_trans h.2.1 h.2.2.1, Nat.le_refl _, fun r hr => by
    rcases List.mem_cons.1 hr with rfl | hr
    · exact ⟨hg, hc⟩
    · exact ⟨Nat.lt_of_lt_of_le (h.2.2.2 r hr).1 h.2.2.1, (h.2.2.2 r hr).2⟩⟩
theorem KR.sr {w W : World} {B g : Nat} {rs : List (Nat × List (List UInt8))} {ls : List (List UInt8)} (h : KR w W B rs) (hr : (g, ls) ∈ rs) : SR W (some ⟨g, 0, none⟩) ls :=
  (h.2.2.2 _ hr).2.sr (Nat.lt_of_lt_of_le (h.2.2.2 _ hr).1 h.2.2.1)
/-- A row that is owned: its block, where it is not empty. -/
theorem own_block {W : World} {base n : Nat} {v : Value} {xs : List Value} (h : W.ownsRow base 9 1 v n xs) (hn : 0 < n) :
    ∃ g c, v = .slice (some ⟨g, 0, none⟩) n c ∧ n ≤ c ∧ base ≤ g ∧ g < W.heap.size ∧ ∃ cur, W.heap[g]? = some (.cells cur 9 (0, 0)) ∧ cur.size = c := by
  rcases h.2 with ⟨_, h0⟩ | ⟨g, c, cur, rfl, hb, hg, hc, _, hs, _⟩
  · omega
  · exact ⟨g, c, rfl, hc, hb, (Array.getElem?_eq_some_iff.1 hg).1, cur, hg, by omega⟩
/-- A store into a row. -/
theorem cells_set {W : World} {g k : Nat} {ls : List (List UInt8)} (h : Cells W g ls) (hk : k < ls.length) (x : List UInt8) : Cells (W.setCell ⟨g, k, none⟩ (.string (bs x))) g (ls.set k x) := fun j hj => by
  rw [List.length_set] at hj
  by_cases e : j = k
  · subst e
    rw [World.cell?_setCell_same' _ _ _ (by rw [h j hj]; rfl)]
    simp [List.getD, hk]
  · have hne : (⟨g, k, none⟩ : Addr) ≠ ⟨g, j, none⟩ := fun hh => e (by cases hh; rfl)
    rw [World.cell?_setCell_other _ _ _ _ hne, h j hj]
    simp [List.getD, List.getElem?_set, Ne.symm e]
end Go.Proofs.YthgilnmfbhmgiaaDoor
