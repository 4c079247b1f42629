/-
  A list of places and code points as it lies in memory, and what a later world keeps of it; the contract of polyglotlaw03.next. No condition.
-/
import Derived.Test.YtohbhmffgaijgaaUsLaw
import Derived.Test.YtohbhmffgaijgaaUsLive
namespace Go.Proofs.Ytohbhmffgaijgaa
open Go.RowKit

/-- Block g holds the places and the code points cs, two cells each. -/
def RowAt (W : World) (g : Nat) (cs : List Nat) : Prop := ∀ j, j < cs.length → W.cell? ⟨g, j * 2, none⟩ = some (.int .i64 ((cbs (cs.take j)).length : Int)) ∧ W.cell? ⟨g, j * 2 + 1, none⟩ = some (.int .i32 ((cs[j]?.getD 0 : Nat) : Int))
/-- What a law keeps that holds such a list. -/
def Hold (w W : World) (g : Nat) (cs : List Nat) : Prop := Below w.heap.size w W ∧ RowAt W g cs ∧ g < W.heap.size

theorem Hold.and_then {w W W' : World} {g : Nat} {cs : List Nat} (h : Hold w W g cs) (hb : Below W.heap.size W W') : Hold w W' g cs :=
  ⟨below_then h.1 hb, fun j hj => ⟨(hb.cell (p := ⟨g, j * 2, none⟩) h.2.2).trans (h.2.1 j hj).1, (hb.cell (p := ⟨g, j * 2 + 1, none⟩) h.2.2).trans (h.2.1 j hj).2⟩, Nat.lt_of_lt_of_le h.2.2 hb.size⟩
theorem Hold.drew {w W : World} {g : Nat} {cs : List Nat} (h : Hold w W g cs) : Hold w W.drew g cs := ⟨h.1.drew, h.2.1, h.2.2⟩

theorem Hold.draws {w W : World} {g : Nat} {cs : List Nat} (h : Hold w W g cs) (m : Nat) : Hold w (W.drewN m) g cs := ⟨below_draws h.1 m, h.2.1, h.2.2⟩
/-- What a region that draws its order keeps: the cells of the k-th, and the list. -/
def Sh (w : World) (g : Nat) (cs : List Nat) (k p c : Nat) (W : World) : Prop :=
  W.cell? ⟨g, k * 2, none⟩ = some (.int .i64 (p : Int)) ∧ W.cell? ⟨g, k * 2 + 1, none⟩ = some (.int .i32 (c : Int)) ∧ Hold w W g cs
theorem Sh.mk {w W : World} {g : Nat} {cs : List Nat} {k p c : Nat} (hk : k < cs.length) (hp : (cbs (cs.take k)).length = p) (hc : cs[k]?.getD 0 = c) (h : Hold w W g cs) : Sh w g cs k p c W := by
  have h1 := h.2.1 k hk
  rw [hp, hc] at h1
  exact ⟨h1.1, h1.2, h⟩
theorem Sh.call {w W : World} {g : Nat} {cs : List Nat} {k p c : Nat} (h : Sh w g cs k p c W) {W' : World} (hb : Below W.heap.size W W') : Sh w g cs k p c W' :=
  ⟨(hb.cell (p := ⟨g, k * 2, none⟩) h.2.2.2.2).trans h.1, (hb.cell (p := ⟨g, k * 2 + 1, none⟩) h.2.2.2.2).trans h.2.1, h.2.2.and_then hb⟩
theorem Sh.hold {w W : World} {g : Nat} {cs : List Nat} {k p c : Nat} (h : Sh w g cs k p c W) : Hold w W g cs := h.2.2
/-- A contract that keeps them. -/
theorem sh_of {w W : World} {g : Nat} {cs : List Nat} {k p c : Nat} {f : FuncId} {args : Array Value} {v : Value} (h : Sh w g cs k p c W)
    (hcall : Calls Try.prog f args W fun e W' => e = .returned v ∧ Below W.heap.size W W') : Calls Try.prog f args W fun e W' => e = .returned v ∧ Sh w g cs k p c W' :=
  hcall.mono fun _ _ ⟨he, hb⟩ => ⟨he, h.call hb⟩
theorem sh_same {w W : World} {g : Nat} {cs : List Nat} {k p c : Nat} {f : FuncId} {args : Array Value} {v : Value} (h : Sh w g cs k p c W)
    (hcall : Calls Try.prog f args W fun e W' => e = .returned v ∧ W = W') : Calls Try.prog f args W fun e W' => e = .returned v ∧ Sh w g cs k p c W' :=
  hcall.mono fun _ _ ⟨he, hw⟩ => ⟨he, hw ▸ h⟩

theorem rcells_get (cs : List Nat) : ∀ (p j : Nat), j < cs.length →
    (rcells (marks p cs))[j * 2]? = some (.int .i64 ((p + (cbs (cs.take j)).length : Nat) : Int)) ∧ (rcells (marks p cs))[j * 2 + 1]? = some (.int .i32 ((cs[j]?.getD 0 : Nat) : Int)) := by
  induction cs with
  | nil => intro p j h; simp at h
  | cons c cs ih =>
    intro p j h
    have e : rcells (marks p (c :: cs)) = .int .i64 (p : Int) :: .int .i32 (c : Int) :: rcells (marks (p + (cb c).length) cs) := by simp [rcells, marks]
    rw [e]
    cases j with
    | zero => simp [cbs]
    | succ j =>
      obtain ⟨h1, h2⟩ := ih (p + (cb c).length) j (by simp at h; omega)
      have e1 : (j + 1) * 2 = j * 2 + 1 + 1 := by omega
      rw [e1]
      simp only [List.getElem?_cons_succ]
      rw [h1, h2, List.take_succ_cons, cbs_cons, List.length_append]
      simp
      omega
theorem row_hold {w W W' : World} (v : Value) (cs : List Nat) (hne : cs ≠ []) (h0 : Below w.heap.size w W) (hb : Below W.heap.size W W') (hr : W'.ownsRow W.heap.size 37 2 v cs.length (rcells (marks 0 cs))) :
    ∃ g cap, v = .slice (some ⟨g, 0, none⟩) cs.length cap ∧ Hold w W' g cs := by
  have hl : cs.length ≠ 0 := fun e => hne (List.eq_nil_of_length_eq_zero e)
  rcases hr.2 with ⟨_, h0⟩ | ⟨g, cap, cur, rfl, hg, hgb, _⟩
  · exact absurd h0 hl
  · refine ⟨g, cap, rfl, below_then h0 hb, fun j hj => ?_, (Array.getElem?_eq_some_iff.1 hgb).1⟩
    obtain ⟨h1, h2⟩ := rcells_get cs 0 j hj
    have k1 := hr.cells (g := g) rfl _ _ h1
    have k2 := hr.cells (g := g) rfl _ _ h2
    have a1 : (⟨g, 0, none⟩ : Addr).add (j * 2) = ⟨g, 0 + j * 2, none⟩ := by unfold Addr.add; split <;> simp_all
    have a2 : (⟨g, 0, none⟩ : Addr).add (j * 2 + 1) = ⟨g, 0 + (j * 2 + 1), none⟩ := by unfold Addr.add; split <;> simp_all
    rw [a1] at k1
    rw [a2] at k2
    simp only [Nat.zero_add] at k1 k2
    exact ⟨k1, k2⟩

theorem next_in {w W : World} {g : Nat} {cs : List Nat} (cap k q : Nat) (z : Int) (hh : Hold w W g cs) (hk : k + 1 < cs.length) (hl : cs.length ≤ 70000) (hq : (cbs (cs.take (k + 1))).length = q) :
    Calls Try.prog 28 #[.slice (some ⟨g, 0, none⟩) cs.length cap, .int .i64 k, .int .i64 z] W fun e W' => e = .returned (.int .i64 (q : Int)) ∧ W = W' := by
  have hc := (hh.2.1 (k + 1) hk).1
  rw [hq] at hc
  obtain ⟨n, hn⟩ : ∃ n, cs.length = n := ⟨_, rfl⟩
  rw [hn] at hk hl ⊢
  have h1 : (k : Int) + 1 < (n : Int) := by omega
  have h2 : (0 : Int) ≤ (k : Int) + 1 := by omega
  have h3 : ((k : Int) + 1).toNat = k + 1 := by omega
  clear hh hq hn
  go_enter Try.func28, Try.ntmps28
  go_wp2
  go_ret
  exact ⟨rfl, rfl⟩
theorem next_end (W : World) (A : Option Addr) (n cap k : Nat) (z : Int) (hk : k + 1 = n) (hl : n ≤ 70000) :
    Calls Try.prog 28 #[.slice A n cap, .int .i64 k, .int .i64 z] W fun e W' => e = .returned (.int .i64 z) ∧ W = W' := by
  have h1 : ¬ (k : Int) + 1 < (n : Int) := by omega
  have h2 : (k : Int) ≤ 70000 := by omega
  clear hk hl
  go_enter Try.func28, Try.ntmps28
  go_wp2
  go_ret
  exact ⟨rfl, rfl⟩
end Go.Proofs.Ytohbhmffgaijgaa
