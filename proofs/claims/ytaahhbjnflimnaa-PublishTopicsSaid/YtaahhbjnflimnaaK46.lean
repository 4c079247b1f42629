/-
  What Get tells. No condition.
  The contract of prop.Get. Condition: fewer than 70,000 properties.
-/
import Derived.Laws.ResultCell
import Derived.Laws.CopyOwn
import Derived.Test.YtaahhbjnflimnaaK45
namespace Go.Proofs.Ytaahhbjnflimnaa
open Go.RowKit

/-- What Get tells: the property, and whether there is one. -/
def getP (l : List Pr) (id : Int) : Pr × Bool := match l.find? fun p => p.id == id with
  | some p => (p, true)
  | none => (⟨0, 0, [], []⟩, false)
theorem getP_nil (id : Int) : getP [] id = (⟨0, 0, [], []⟩, false) := rfl
theorem getP_cons (p : Pr) (l : List Pr) (id : Int) : getP (p :: l) id = if p.id = id then (p, true) else getP l id := by
  unfold getP
  rw [List.find?_cons]
  by_cases h : p.id = id
  · have : (p.id == id) = true := by simpa using h
    rw [this, if_pos h]
  · have : (p.id == id) = false := by simpa using h
    rw [this, if_neg h]
theorem getP_has (l : List Pr) (id : Int) : (getP l id).2 = hasP l id := by
  induction l with
  | nil => rfl
  | cons p l ih =>
    rw [getP_cons]
    unfold hasP at ih ⊢
    rw [List.any_cons]
    by_cases h : p.id = id
    · rw [if_pos h]; simp [h]
    · rw [if_neg h, ih]; simp [h]
theorem info4 : (Try.prog.info? 36).map (·.size) = some 4 := by kernel_rfl
theorem ret_cell2 {fn : Func} {R : Ending → World → Prop} {a : Act} {W : World} {p u : Tmp} {B : Nat} {cs : Array Value} {v : Value} (h : fn.results = #[.cell p 36, .tmp u]) (hp : a.tmps.getD p undef = .pointer (some ⟨B, 0, none⟩)) (hu : a.tmps.getD u undef = v) (hd : a.defers = []) (hcs : cs.size = 4)
    (hg : W.heap[B]? = some (.cells cs 36 (0, 0))) (hR : R (.returned (.tuple #[.agg cs, v])) W) : bodyPost Try.prog fn R .ret a W := by
  refine bodyPost_ret (v := .tuple #[.agg cs, v]) ?_ hd hR
  rw [results_cell_tmp h, hp, hu]
  have := run_loadVar_row (P := Try.prog) W B 36 36 cs (0, 0) _ hg Try.underlying36 rfl (by rw [hcs]; kernel_rfl)
  simp [asAddr, this, Result.andThen]
end Go.Proofs.Ytaahhbjnflimnaa
namespace Go.Proofs.Ytaahhbjnflimnaa
open Go.RowKit

set_option maxHeartbeats 1000000 in
theorem get_list (A : Option Addr) (n c : Nat) (l : List Pr) (id : Int) (w : World) (hl : PL w A l) (hn : l.length = n) (hN : n ≤ 70000) :
    Calls Try.prog 25 #[.slice A n c, .int .i64 id] w fun e w' => e = .returned (.tuple #[propV (getP l id).1, .bool (getP l id).2]) ∧ Below w.heap.size w w' := by
  have HL := Lib.hid hl
  have HN := Lib.hid hn
  have hN2 : (n : Int) ≤ 70000 := by omega
  obtain ⟨R, hR⟩ : ∃ R, getP l id = R := ⟨_, rfl⟩
  rw [hR]
  have HR := Lib.hid hR
  have B0 := Lib.hid (show Below w.heap.size w (w.alloc (.cells #[.int .i64 0, .int .u32 0, .string ⟨#[]⟩, .string ⟨#[]⟩] 36)) from (Below.refl _ _).alloc (Nat.le_refl _) _)
  have Z0 := Lib.hid (heap_alloc_new w (.cells #[.int .i64 0, .int .u32 0, .string ⟨#[]⟩, .string ⟨#[]⟩] 36))
  clear hl hn hN hR
  go_enter Try.func25, Try.ntmps25
  go_wp2_with fail
  go_loopg [10] n (fun gk s10 wx => ∃ k : Nat, k ≤ n ∧ gk = n - k ∧ s10 = .int .i64 (k : Int) ∧ getP (l.drop k) id = R ∧ Below w.heap.size w wx ∧ wx.heap[w.heap.size]? = some (.cells #[.int .i64 0, .int .u32 0, .string ⟨#[]⟩, .string ⟨#[]⟩] 36 (0, 0)))
  case atStart => exact ⟨0, by omega, by omega, rfl, HR.out, B0.out, Z0.out⟩
  case round =>
    obtain ⟨k, hk, hgk, rfl, hE, hB, hZ⟩ := hrel
    by_cases hlt : k < n
    · have hkl : k < l.length := by rw [HN.out]; exact hlt
      obtain ⟨p, hp⟩ : ∃ p, l[k]? = some p := ⟨_, List.getElem?_eq_getElem hkl⟩
      obtain ⟨g, i, e', hg', c0, c1, c2, c3⟩ := (HL.out.below hB).at hp
      subst e'
      have g1 : (k : Int) < (n : Int) := by omega
      have hdr : l.drop k = p :: l.drop (k + 1) := by
        rw [List.drop_eq_getElem_cons hkl]; congr 1
        rw [List.getElem?_eq_getElem hkl] at hp; exact Option.some.inj hp
      rw [hdr, getP_cons] at hE
      have hzl := lt_of_block hZ
      have HB := Lib.hid (hB.alloc hB.size (.cells #[.int .i64 p.id, .int .u32 p.n, .string (bs p.text), .string (bs p.value)] 36))
      have hZ2 := (heap_alloc_old wr (.cells #[.int .i64 p.id, .int .u32 p.n, .string (bs p.text), .string (bs p.value)] 36) hzl).trans hZ
      have HZ := Lib.hid hZ2
      have fz : ∀ j, (wr.alloc (.cells #[.int .i64 p.id, .int .u32 p.n, .string (bs p.text), .string (bs p.value)] 36)).frozen? ⟨w.heap.size, j, none⟩ = false := fun j => by simp [World.frozen?, hZ2]
      have cz : ∀ j, (wr.alloc (.cells #[.int .i64 p.id, .int .u32 p.n, .string (bs p.text), .string (bs p.value)] 36)).cell? ⟨w.heap.size, j, none⟩ = (#[.int .i64 0, .int .u32 0, .string ⟨#[]⟩, .string ⟨#[]⟩] : Array Value)[j]? := fun j => cell_of_row _ _ _ _ _ _ hZ2
      by_cases hq : p.id = id
      · rw [if_pos hq] at hE
        have q1 : (p.id == id) = true := by simpa using hq
        subst hE
        clear hq hB hZ fz cz hdr hp hkl
        go_wp2_with (refine wpList_store_row rfl _ _ _ rfl w.heap.size _ rfl rfl 36 _ hZ2 info4 rfl (by simp [Value.oneCell']) ?_)
        (try simp only [Exit.inBlock, Exit.then])
        refine ret_cell2 rfl rfl rfl rfl ?_ (setRow_heap _ _ _ _ _ _ HZ.out) ?_
        · rfl
        · exact ⟨rfl, below_setRow HB.out (Nat.le_refl _) _⟩
      · rw [if_neg hq] at hE
        have HE := Lib.hid hE
        have q1 : (p.id == id) = false := by simpa using hq
        clear hE hq hB hZ hZ2 fz cz hdr hp hkl
        go_wp2_with fail
        go_roundg (n - (k + 1))
        case measure => omega
        case rel => exact ⟨k + 1, by omega, rfl, by go_num, HE.out, HB.out, HZ.out⟩
    · obtain rfl : k = n := by omega
      have hd1 : l.drop k = [] := List.drop_of_length_le (by rw [HN.out]; omega)
      rw [hd1, getP_nil] at hE
      have HZ := Lib.hid hZ
      have HB := Lib.hid hB
      subst hE
      clear hB hd1
      go_wp2_with (refine wpList_store_row rfl _ _ _ rfl w.heap.size _ rfl rfl 36 _ hZ info4 rfl (by simp [Value.oneCell']) ?_)
      (try simp only [Exit.inBlock, Exit.then])
      refine ret_cell2 rfl rfl rfl rfl ?_ (setRow_heap _ _ _ _ _ _ HZ.out) ?_
      · rfl
      · exact ⟨rfl, below_setRow HB.out (Nat.le_refl _) _⟩
end Go.Proofs.Ytaahhbjnflimnaa
