/-
  The contracts of prop's cursor: what reads a value of each shape. Condition: the bytes are no more than an int says.
  The contracts of prop's cursor: pass, number. Condition: the bytes are no more than an int says.
  The contracts of prop's cursor: a number of one, two or four bytes. Condition: the bytes are no more than an int says.
  The contracts of prop's cursor: a text, data, a variable number. Condition: the bytes are no more than an int says.
  The contracts of prop's cursor: a variable number, a pair, and what reads a value of each shape. Condition: the bytes are no more than an int says.
-/
import Derived.Test.YtaahhbjnflimnaaGreatK40
import Derived.Test.YtaahhbjnflimnaaGreatK44
import Derived.Test.YtaahhbjnflimnaaGreatK25
import Derived.Test.YtaahhbjnflimnaaGreatK43
namespace Go.Proofs.YtaahhbjnflimnaaGreat
open Go.RowKit

/-- What prop.readers gives, as pairs, the last one first. -/
def readersL : List (Int × Value) := [(7, .func (.func 259) #[] #[]), (6, .func (.func 258) #[] #[]), (5, .func (.func 257) #[] #[]), (4, .func (.func 256) #[] #[]), (3, .func (.func 255) #[] #[]), (2, .func (.func 254) #[] #[]), (1, .func (.func 253) #[] #[])]
def Readers (w : World) (b : Nat) : Prop := MapAt Tryz.prog 3 w b .nilFunc readersL
set_option maxHeartbeats 4000000 in
set_option maxRecDepth 100000 in
theorem readers_any (w : World) : Calls Tryz.prog 230 #[] w fun e w' => e = .returned (.map (some w.heap.size)) ∧ Readers w' w.heap.size ∧ Below w.heap.size w w' := by
  have hmm := @run_makeMap Tryz.prog
  have hG : MapG Tryz.prog 3 w (w.alloc (.map #[] 0)) w.heap.size .nilFunc [] := ⟨MapAt.made _ _ _ _, (Below.refl _ _).alloc (Nat.le_refl _) _, Nat.le_refl _⟩
  go_enter Tryz.func230, Tryz.ntmps230
  go_wp2_with (refine wpList_insert_g rfl _ _ _ 215 rfl 3 237 Tryz.underlying3 Tryz.underlying215 _ _ _ rfl hG (by simp [maxLen]) _ _ rfl rfl (by decide) ?_; clear hG; intro w1 hG)
  go_ret
  exact ⟨rfl, hG.1, hG.2.1⟩
theorem zero_reader (W : World) : (zeroValue 237).run Tryz.prog W = .ok .nilFunc W := by kernel_rfl
theorem Readers.look {w : World} {b : Nat} (h : Readers w b) (s : Int) (h0 : -9223372036854775808 ≤ s) (h1 : s ≤ 9223372036854775807) :
    (Instr.lookup 215 (.map (some b)) (.int .i64 s) false).run Tryz.prog w = .ok (lookK .nilFunc readersL s) w :=
  MapAt.look h Tryz.underlying3 Tryz.underlying215 (zero_reader w) (i64_wf h0 h1)

/-- A cursor as prop has it. -/
def curV (cb : Nat) : Value := .agg #[.pointer (some ⟨cb, 0, none⟩)]
/-- What a reader leaves: the property but for its id, the cursor behind it; or the cursor's error. -/
def RdS (cb : Nat) (s : ByteArray) (i : Nat) (id : Int) (W : World) (e : Ending) (W' : World) : Prop :=
  ∃ (p : Pr) (i' e' : Nat), e = .returned (propV p) ∧ Cur W' cb s i' (e' : Nat) ∧ W.grownBy W' (some cb) ∧ i' ≤ s.size ∧
    (nextP id (s.data.toList.drop i)).2.2 = (if e' = 3 then 5 else e') ∧
    (e' = 0 → i' = i + (nextP id (s.data.toList.drop i)).2.1 ∧ nextP id (s.data.toList.drop i) = (⟨id, p.n, p.text, p.value⟩, i' - i, 0) ∧ p.n < 4294967296 ∧ p.text.length ≤ 65535 ∧ p.value.length ≤ 65535)

section
variable {w : World} {cb i : Nat} {s : ByteArray}
theorem Cur.alloc {e : Int} (h : Cur w cb s i e) (o : Obj) : Cur (w.alloc o) cb s i e := h.of_block (heap_alloc_old _ _ h.lt)
theorem pass_ok (k : Nat) (f : Int) (hc : Cur w cb s i 0) (hi : i + k ≤ s.size) (hm : s.size ≤ 9223372036854775807) :
    Calls Tryz.prog 266 #[curV cb, .int .i64 k, .int .i64 f] w fun e' w' => e' = .returned (.tuple #[]) ∧ Cur w' cb s (i + k) f ∧ w.grownBy w' (some cb) := by
  have hc1 := hc.alloc (.cells #[.pointer (some ⟨cb, 0, none⟩)] 214)
  have TK := Lib.hid (take_ok k hc1 hi hm)
  have hne : cb ≠ w.heap.size := Nat.ne_of_lt hc.lt
  have hb0 : (w.alloc (.cells #[.pointer (some ⟨cb, 0, none⟩)] 214)).heap[w.heap.size]? = some (.cells #[.pointer (some ⟨cb, 0, none⟩)] 214 (0, 0)) := heap_alloc_new w _
  have G0 := Lib.hid (World.grownBy_alloc w (.cells #[.pointer (some ⟨cb, 0, none⟩)] 214) (some cb))
  have HB0 := Lib.hid hb0
  have SZ := Lib.hid (World.size_alloc w (.cells #[.pointer (some ⟨cb, 0, none⟩)] 214))
  unfold curV
  clear hc1 hi hb0
  go_enter Tryz.func266, Tryz.ntmps266
  go_wp2_with fail
  refine (TK.out).mono ?_
  rintro e w2 ⟨rfl, hc2, hg2⟩
  have hb2 := (hg2.block w.heap.size (by rw [SZ.out]; omega) (fun e => hne (Option.some.inj e).symm)).trans HB0.out
  have c0 : w2.cell? ⟨w.heap.size, 0, none⟩ = some (.pointer (some ⟨cb, 0, none⟩)) := cell_of_row _ _ _ _ _ _ hb2
  have FL := Lib.hid (fail_yes f hc2)
  have G2 := Lib.hid (grown_then G0.out hg2)
  clear hb2 hc2 hg2 TK
  go_wp2_with fail
  refine (FL.out).mono ?_
  rintro e w3 ⟨rfl, hc3, hg3⟩
  have HC3 := Lib.hid hc3
  have G3 := Lib.hid (grown_then G2.out hg3)
  clear hc3 hg3 c0
  go_wp2_with fail
  go_end0
  exact ⟨rfl, HC3.out, G3.out⟩
theorem pass_err (k : Nat) (f : Int) {e : Int} (hc : Cur w cb s i e) (he : (e == 0) = false) :
    Calls Tryz.prog 266 #[curV cb, .int .i64 k, .int .i64 f] w fun e' w' => e' = .returned (.tuple #[]) ∧ Below w.heap.size w w' := by
  have hc1 := hc.alloc (.cells #[.pointer (some ⟨cb, 0, none⟩)] 214)
  have TK := Lib.hid (take_err (k : Int) hc1 he)
  have FL := Lib.hid (fail_no f hc1 he)
  unfold curV
  clear hc1
  have B1 := Lib.hid (show Below w.heap.size w (w.alloc (.cells #[.pointer (some ⟨cb, 0, none⟩)] 214)) from (Below.refl _ _).alloc (Nat.le_refl _) _)
  go_enter Tryz.func266, Tryz.ntmps266
  go_wp2_with fail
  refine (TK.out).mono ?_
  rintro e w2 ⟨rfl, rfl⟩
  go_wp2_with fail
  refine (FL.out).mono ?_
  rintro e w3 ⟨rfl, rfl⟩
  go_wp2_with fail
  go_end0
  exact ⟨rfl, B1.out⟩
end

theorem numOf_part (s : ByteArray) (i c : Nat) (_h : i + c ≤ s.size) (hc : c ≤ 8) : numOf (s.extract i (i + c)) = num ((s.data.toList.drop i).take c) := by
  have e : (s.extract i (i + c)).data.toList = (s.data.toList.drop i).take c := by simp [List.extract_eq_take_drop]
  have e2 : (s.extract i (i + c)).size ≤ 8 := by rw [size_list, e, List.length_take]; omega
  unfold numOf
  rw [e, show (s.extract i (i + c)).size - 8 = 0 by omega]; rfl
/-- The boxes of a reader: the cursor as prop has it, and the result. -/
def rdCs (cb : Nat) : Array Value := #[.pointer (some ⟨cb, 0, none⟩)]
def zeroCs : Array Value := #[.int .i64 0, .int .u32 0, .string ⟨#[]⟩, .string ⟨#[]⟩]
/-- What stands while a value is read: the two boxes behind w. -/
def RdW (w W : World) (cb : Nat) : Prop :=
  w.grownBy W (some cb) ∧ W.heap[w.heap.size]? = some (.cells #[.pointer (some ⟨cb, 0, none⟩)] 214 (0, 0)) ∧ W.heap[w.heap.size + 1]? = some (.cells #[.int .i64 0, .int .u32 0, .string ⟨#[]⟩, .string ⟨#[]⟩] 46 (0, 0)) ∧ cb < w.heap.size ∧ w.heap.size + 2 ≤ W.heap.size
section
variable {w W W' : World} {cb : Nat}
theorem RdW.made (h : cb < w.heap.size) : RdW w ((w.alloc (.cells #[.pointer (some ⟨cb, 0, none⟩)] 214)).alloc (.cells #[.int .i64 0, .int .u32 0, .string ⟨#[]⟩, .string ⟨#[]⟩] 46)) cb := by
  refine ⟨grown_then (World.grownBy_alloc _ _ _) (World.grownBy_alloc _ _ _), (heap_alloc_old _ _ (by simp)).trans (heap_alloc_new w _), ?_, h, by simp⟩
  have := heap_alloc_new (w.alloc (.cells #[.pointer (some ⟨cb, 0, none⟩)] 214)) (.cells #[.int .i64 0, .int .u32 0, .string ⟨#[]⟩, .string ⟨#[]⟩] 46)
  rwa [World.size_alloc] at this
theorem RdW.step (h : RdW w W cb) (hg : W.grownBy W' (some cb)) : RdW w W' cb := by
  obtain ⟨h1, h2, h3, h4, h5⟩ := h
  exact ⟨grown_then h1 hg, (hg.block _ (by omega) (fun e => by have := Option.some.inj e; omega)).trans h2, (hg.block _ (by omega) (fun e => by have := Option.some.inj e; omega)).trans h3, h4, Nat.le_trans h5 hg.size⟩
theorem RdW.c0 (h : RdW w W cb) : W.cell? ⟨w.heap.size, 0, none⟩ = some (.pointer (some ⟨cb, 0, none⟩)) := cell_of_row _ _ _ _ _ _ h.2.1
theorem RdW.fr (h : RdW w W cb) (j : Nat) : W.frozen? ⟨w.heap.size + 1, j, none⟩ = false := by have h1 := h.2.2.1; simp [World.frozen?, h1]
theorem RdW.r (h : RdW w W cb) (j : Nat) : W.cell? ⟨w.heap.size + 1, j, none⟩ = (#[.int .i64 0, .int .u32 0, .string ⟨#[]⟩, .string ⟨#[]⟩] : Array Value)[j]? := cell_of_row _ _ _ _ _ _ h.2.2.1
end
/-- The result's four cells are written. -/
def set4 (W : World) (B : Nat) (a b c d : Value) : World := (((W.setCell ⟨B, 0, none⟩ a).setCell ⟨B, 1, none⟩ b).setCell ⟨B, 2, none⟩ c).setCell ⟨B, 3, none⟩ d
theorem set4_block {W : World} {B : Nat} {t : TypeId} {x0 x1 x2 x3 : Value} (h : W.heap[B]? = some (.cells #[x0, x1, x2, x3] t (0, 0))) (a b c d : Value) : (set4 W B a b c d).heap[B]? = some (.cells #[a, b, c, d] t (0, 0)) := by
  have h1 := setCell_block h 0 a
  have h2 := setCell_block h1 1 b
  have h3 := setCell_block h2 2 c
  exact setCell_block h3 3 d
theorem set4_other (W : World) (B : Nat) (a b c d : Value) (k : Nat) (hk : k ≠ B) : (set4 W B a b c d).heap[k]? = W.heap[k]? := by
  unfold set4
  rw [Below.heap_setCell _ _ _ _ hk, Below.heap_setCell _ _ _ _ hk, Below.heap_setCell _ _ _ _ hk, Below.heap_setCell _ _ _ _ hk]
theorem set4_grown {w W : World} {B : Nat} {r : Option Nat} (h : w.grownBy W r) (hB : w.heap.size ≤ B) (a b c d : Value) : w.grownBy (set4 W B a b c d) r :=
  ⟨h.os, h.tape, h.output, by have := h.size; unfold set4; simpa [World.setCell] using this, fun k hk hne => (set4_other W B a b c d k (by omega)).trans (h.block k hk hne)⟩
theorem below_set4 {w W : World} {B k : Nat} (h : Below B w W) (hB : B ≤ k) (a b c d : Value) : Below B w (set4 W k a b c d) :=
  ⟨h.os, h.tape, h.output, by have := h.size; unfold set4; simpa [World.setCell] using this, fun m hm => (set4_other W k a b c d m (by omega)).trans (h.block m hm)⟩
theorem RdW.fin {w W : World} {cb i : Nat} {s : ByteArray} {e : Int} (h : RdW w W cb) (hc : Cur W cb s i e) (a b c d : Value) :
    (set4 W (w.heap.size + 1) a b c d).heap[w.heap.size + 1]? = some (.cells #[a, b, c, d] 46 (0, 0)) ∧ Cur (set4 W (w.heap.size + 1) a b c d) cb s i e ∧ w.grownBy (set4 W (w.heap.size + 1) a b c d) (some cb) :=
  ⟨set4_block h.2.2.1 a b c d, hc.of_block (set4_other _ _ _ _ _ _ _ (by have := h.2.2.2.1; omega)), set4_grown h.1 (by omega) a b c d⟩
theorem ret_cell {fn : Func} {R : Ending → World → Prop} {a : Act} {W : World} {p : Tmp} {B : Nat} {cs : Array Value} (h : fn.results = #[.cell p 46]) (hp : a.tmps.getD p undef = .pointer (some ⟨B, 0, none⟩)) (hd : a.defers = []) (hcs : cs.size = 4)
    (hg : W.heap[B]? = some (.cells cs 46 (0, 0))) (hR : R (.returned (.agg cs)) W) : bodyPost Tryz.prog fn R .ret a W :=
  bodyPost_ret (results_cell_row h a.tmps W B 46 cs (0, 0) _ hp hg Tryz.underlying46 rfl (by rw [hcs]; kernel_rfl)) hd hR
set_option maxHeartbeats 1000000 in
theorem number_rd {w : World} {cb i : Nat} {s : ByteArray} (c : Nat) (hc : Cur w cb s i 0) (hi : i ≤ s.size) (hm : s.size ≤ 9223372036854775807) (h4 : c ≤ 4) (h1 : 1 ≤ c) :
    Calls Tryz.prog 265 #[curV cb, .int .i64 c] w fun e w' => ∃ (n i' : Nat) (e' : Nat), e = .returned (propV ⟨0, n, [], []⟩) ∧ Cur w' cb s i' (e' : Nat) ∧ w.grownBy w' (some cb) ∧ ((s.size - i < c ∧ n = 0 ∧ i' = i ∧ e' = 3) ∨ (i + c ≤ s.size ∧ n = num ((s.data.toList.drop i).take c) ∧ i' = i + c ∧ e' = 0)) := by
  have hcw := (hc.alloc (.cells #[.pointer (some ⟨cb, 0, none⟩)] 214)).alloc (.cells #[.int .i64 0, .int .u32 0, .string ⟨#[]⟩, .string ⟨#[]⟩] 46)
  have R0 := Lib.hid (RdW.made (w := w) hc.lt)
  have main : ∀ (n i' e' : Nat), n < 4294967296 → Calls Tryz.prog 142 #[.pointer (some ⟨cb, 0, none⟩), .int .i64 c] ((w.alloc (.cells #[.pointer (some ⟨cb, 0, none⟩)] 214)).alloc (.cells #[.int .i64 0, .int .u32 0, .string ⟨#[]⟩, .string ⟨#[]⟩] 46))
        (fun e w' => e = .returned (.int .u64 n) ∧ Cur w' cb s i' (e' : Nat) ∧ ((w.alloc (.cells #[.pointer (some ⟨cb, 0, none⟩)] 214)).alloc (.cells #[.int .i64 0, .int .u32 0, .string ⟨#[]⟩, .string ⟨#[]⟩] 46)).grownBy w' (some cb)) →
      Calls Tryz.prog 265 #[curV cb, .int .i64 c] w fun e w' => e = .returned (propV ⟨0, n, [], []⟩) ∧ Cur w' cb s i' (e' : Nat) ∧ w.grownBy w' (some cb) := by
    intro n i' e' hlt NB0
    have NB := Lib.hid NB0
    have hw : IntKind.u32.wrap (n : Int) = (n : Int) := by simp only [IntKind.wrap_u32]; omega
    unfold curV
    clear hcw hc hlt hi h1 h4 NB0
    go_enter Tryz.func265, Tryz.ntmps265
    go_wp2_with fail
    refine (NB.out).mono ?_
    rintro e w2 ⟨rfl, hc2, hg2⟩
    have R1 := Lib.hid (R0.out.step hg2)
    have HC := Lib.hid hc2
    have f0 := R1.out.fr 0
    have f1 := R1.out.fr 1
    have f2 := R1.out.fr 2
    have f3 := R1.out.fr 3
    have r0 := R1.out.r 0
    have r1 := R1.out.r 1
    have r2 := R1.out.r 2
    have r3 := R1.out.r 3
    clear hc2 hg2
    go_wp2_with fail
    obtain ⟨k1, k2, k3⟩ := R1.out.fin HC.out (.int .i64 0) (.int .u32 n) (.string ⟨#[]⟩) (.string ⟨#[]⟩)
    exact ret_cell rfl rfl rfl rfl k1 ⟨rfl, k2, k3⟩
  by_cases hp : i + c ≤ s.size
  · have NB := number_ok c hcw hp hm
    rw [numOf_part s i c hp (by omega)] at NB
    have hlt : num ((s.data.toList.drop i).take c) < 4294967296 := by
      have h1 := num_lt ((s.data.toList.drop i).take c)
      have h2 : 256 ^ ((s.data.toList.drop i).take c).length ≤ 256 ^ 4 := Nat.pow_le_pow_right (by decide) (by rw [List.length_take]; omega)
      have h3 : 256 ^ 4 = 4294967296 := by decide
      omega
    exact (main _ (i + c) 0 hlt NB).mono fun e w' ⟨k1, k2, k3⟩ => ⟨_, _, _, k1, k2, k3, .inr ⟨hp, rfl, rfl, rfl⟩⟩
  · have NB := number_past (c : Int) hcw hi hm (by omega)
    exact (main 0 i 3 (by decide) NB).mono fun e w' ⟨k1, k2, k3⟩ => ⟨_, _, _, k1, k2, k3, .inl ⟨by omega, rfl, rfl, rfl⟩⟩

theorem rest_list (s : ByteArray) (i : Nat) : (s.extract i s.size).data.toList = s.data.toList.drop i := Lib.extract_to_end s i
theorem rdT_cases (l : List UInt8) : ((rdT l).2.2 = 0 ∧ rdT l = rdB l ∧ validOf (rdB l).1 = true ∧ (rdB l).2.2 = 0) ∨ ((rdT l).2.2 = 3 ∧ rdT l = ([], 0, 3) ∧ (rdB l).2.2 ≠ 0) ∨ ((rdT l).2.2 = 6 ∧ rdT l = ([], 0, 6) ∧ (rdB l).2.2 = 0 ∧ validOf (rdB l).1 = false) := by
  unfold rdT
  by_cases h : (rdB l).2.2 = 0
  · rw [if_neg (by simp [h])]
    cases hv : validOf (rdB l).1 with
    | true => rw [if_pos rfl]; exact .inl ⟨h, rfl, rfl, h⟩
    | false => rw [if_neg (by simp)]; exact .inr (.inr ⟨rfl, rfl, h, rfl⟩)
  · rw [if_pos h]; exact .inr (.inl ⟨rfl, rfl, h⟩)
theorem rdB_le (l : List UInt8) : (rdB l).2.1 ≤ l.length ∧ (rdB l).1.length ≤ 65535 := by
  rcases rdB_cases l with ⟨_, h1, h2, h3, _⟩ | h
  · exact ⟨h2, by omega⟩
  · rw [h]; exact ⟨Nat.zero_le _, Nat.zero_le _⟩
theorem rdT_le (l : List UInt8) : (rdT l).2.1 ≤ l.length ∧ (rdT l).1.length ≤ 65535 := by
  rcases rdT_cases l with ⟨_, h, _⟩ | ⟨_, h, _⟩ | ⟨_, h, _⟩
  · rw [h]; exact rdB_le l
  · rw [h]; exact ⟨Nat.zero_le _, Nat.zero_le _⟩
  · rw [h]; exact ⟨Nat.zero_le _, Nat.zero_le _⟩
theorem grown_draws {W W' : World} {r : Option Nat} (h : W.grownBy W' r) (n : Nat) : W.grownBy (W'.drewN n) r := ⟨h.os, h.tape, h.output, h.size, h.block⟩
section
variable {w : World} {cb i : Nat} {s : ByteArray}
set_option maxHeartbeats 1000000 in
theorem text_rd (hc : Cur w cb s i 0) (hi : i ≤ s.size) (hm : s.size ≤ 9223372036854775807) :
    Calls Tryz.prog 257 #[curV cb] w fun e w' => e = .returned (propV ⟨0, 0, (rdT (s.data.toList.drop i)).1, []⟩) ∧ Cur w' cb s (i + (rdT (s.data.toList.drop i)).2.1) ((rdT (s.data.toList.drop i)).2.2 : Nat) ∧ w.grownBy w' (some cb) := by
  have hcw := (hc.alloc (.cells #[.pointer (some ⟨cb, 0, none⟩)] 214)).alloc (.cells #[.int .i64 0, .int .u32 0, .string ⟨#[]⟩, .string ⟨#[]⟩] 46)
  have R0 := Lib.hid (RdW.made (w := w) hc.lt)
  have RS := Lib.hid (rest_yes hcw hi hm)
  have HCW := Lib.hid hcw
  have RD := fun W => us_read_any (s.extract i s.size) W (by rw [size_list, rest_list, List.length_drop, ← size_list]; omega)
  rw [rest_list] at RD
  have hk : i + (rdT (s.data.toList.drop i)).2.1 ≤ s.size := by
    have := (rdT_le (s.data.toList.drop i)).1
    rw [List.length_drop, ← size_list] at this; omega
  generalize rdT (s.data.toList.drop i) = q at *
  obtain ⟨t, k, z⟩ := q
  unfold ok3 at RD
  unfold curV
  have RD1 := Lib.hid RD
  have HK := Lib.hid hk
  have HE := Lib.hid hm
  have HM := Lib.hid hm
  clear hc hi hm hcw RD hk
  go_enter Tryz.func257, Tryz.ntmps257
  go_wp2_with fail
  refine (RS.out).mono ?_
  rintro e w1 ⟨rfl, m, rfl⟩
  have R1 := Lib.hid (R0.out.step (grown_draws (World.grownBy.refl _ _) m))
  have C1 := Lib.hid (HCW.out.draws m)
  clear RS HCW R0
  go_wp2_with fail
  refine (RD1.out _).mono ?_
  rintro e w2 ⟨rfl, hb⟩
  have R2 := Lib.hid (R1.out.step (grown_of_below hb _))
  have C2 := Lib.hid (C1.out.of_block (hb.block cb C1.out.lt))
  have c0 := R2.out.c0
  have PS := Lib.hid (pass_ok k z C2.out HK.out HM.out)
  clear hb C1 R1
  unfold curV at PS
  go_wp2_with fail
  refine (PS.out).mono ?_
  rintro e w3 ⟨rfl, hc3, hg3⟩
  have R3 := Lib.hid (R2.out.step hg3)
  have C3 := Lib.hid (hc3)
  have f0 := R3.out.fr 0
  have f1 := R3.out.fr 1
  have f2 := R3.out.fr 2
  have f3 := R3.out.fr 3
  have r0 := R3.out.r 0
  have r1 := R3.out.r 1
  have r2 := R3.out.r 2
  have r3 := R3.out.r 3
  clear hc3 hg3 R2 C2 c0 PS
  go_wp2_with fail
  obtain ⟨k1, k2, k3⟩ := R3.out.fin C3.out (.int .i64 0) (.int .u32 0) (.string (bs t)) (.string ⟨#[]⟩)
  exact ret_cell rfl rfl rfl rfl k1 ⟨rfl, k2, k3⟩
set_option maxHeartbeats 1000000 in
theorem text_err {er : Int} (hc : Cur w cb s i er) (he : (er == 0) = false) (hi : i ≤ s.size) (hm : s.size ≤ 9223372036854775807) :
    Calls Tryz.prog 257 #[curV cb] w fun e w' => e = .returned (propV ⟨0, 0, (rdT (s.data.toList.drop i)).1, []⟩) ∧ Cur w' cb s i er ∧ w.grownBy w' (some cb) := by
  have hcw := (hc.alloc (.cells #[.pointer (some ⟨cb, 0, none⟩)] 214)).alloc (.cells #[.int .i64 0, .int .u32 0, .string ⟨#[]⟩, .string ⟨#[]⟩] 46)
  have R0 := Lib.hid (RdW.made (w := w) hc.lt)
  have RS := Lib.hid (rest_yes hcw hi hm)
  have HCW := Lib.hid hcw
  have RD := fun W => us_read_any (s.extract i s.size) W (by rw [size_list, rest_list, List.length_drop, ← size_list]; omega)
  rw [rest_list] at RD
  have hk : i + (rdT (s.data.toList.drop i)).2.1 ≤ s.size := by
    have := (rdT_le (s.data.toList.drop i)).1
    rw [List.length_drop, ← size_list] at this; omega
  generalize rdT (s.data.toList.drop i) = q at *
  obtain ⟨t, k, z⟩ := q
  unfold ok3 at RD
  unfold curV
  have RD1 := Lib.hid RD
  have HK := Lib.hid hk
  have HE := Lib.hid he
  have HM := Lib.hid hm
  clear hc hi hm hcw RD hk he
  go_enter Tryz.func257, Tryz.ntmps257
  go_wp2_with fail
  refine (RS.out).mono ?_
  rintro e w1 ⟨rfl, m, rfl⟩
  have R1 := Lib.hid (R0.out.step (grown_draws (World.grownBy.refl _ _) m))
  have C1 := Lib.hid (HCW.out.draws m)
  clear RS HCW R0
  go_wp2_with fail
  refine (RD1.out _).mono ?_
  rintro e w2 ⟨rfl, hb⟩
  have R2 := Lib.hid (R1.out.step (grown_of_below hb _))
  have C2 := Lib.hid (C1.out.of_block (hb.block cb C1.out.lt))
  have c0 := R2.out.c0
  have PS := Lib.hid (pass_err k z C2.out HE.out)
  clear hb C1 R1
  unfold curV at PS
  go_wp2_with fail
  refine (PS.out).mono ?_
  rintro e w3 ⟨rfl, hb3⟩
  have R3 := Lib.hid (R2.out.step (grown_of_below hb3 _))
  have C3 := Lib.hid (C2.out.of_block (hb3.block cb C2.out.lt))
  have f0 := R3.out.fr 0
  have f1 := R3.out.fr 1
  have f2 := R3.out.fr 2
  have f3 := R3.out.fr 3
  have r0 := R3.out.r 0
  have r1 := R3.out.r 1
  have r2 := R3.out.r 2
  have r3 := R3.out.r 3
  clear hb3 R2 C2 c0 PS
  go_wp2_with fail
  obtain ⟨k1, k2, k3⟩ := R3.out.fin C3.out (.int .i64 0) (.int .u32 0) (.string (bs t)) (.string ⟨#[]⟩)
  exact ret_cell rfl rfl rfl rfl k1 ⟨rfl, k2, k3⟩
set_option maxHeartbeats 1000000 in
theorem binary_rd (hc : Cur w cb s i 0) (hi : i ≤ s.size) (hm : s.size ≤ 9223372036854775807) :
    Calls Tryz.prog 258 #[curV cb] w fun e w' => e = .returned (propV ⟨0, 0, (rdB (s.data.toList.drop i)).1, []⟩) ∧ Cur w' cb s (i + (rdB (s.data.toList.drop i)).2.1) ((rdB (s.data.toList.drop i)).2.2 : Nat) ∧ w.grownBy w' (some cb) := by
  have hcw := (hc.alloc (.cells #[.pointer (some ⟨cb, 0, none⟩)] 214)).alloc (.cells #[.int .i64 0, .int .u32 0, .string ⟨#[]⟩, .string ⟨#[]⟩] 46)
  have R0 := Lib.hid (RdW.made (w := w) hc.lt)
  have RS := Lib.hid (rest_yes hcw hi hm)
  have HCW := Lib.hid hcw
  have RD := fun W => readbin_any (s.extract i s.size) W (by rw [size_list, rest_list, List.length_drop, ← size_list]; omega)
  rw [rest_list] at RD
  have hk : i + (rdB (s.data.toList.drop i)).2.1 ≤ s.size := by
    have := (rdB_le (s.data.toList.drop i)).1
    rw [List.length_drop, ← size_list] at this; omega
  generalize rdB (s.data.toList.drop i) = q at *
  obtain ⟨t, k, z⟩ := q
  unfold ok3 at RD
  unfold curV
  have RD1 := Lib.hid RD
  have HK := Lib.hid hk
  have HE := Lib.hid hm
  have HM := Lib.hid hm
  clear hc hi hm hcw RD hk
  go_enter Tryz.func258, Tryz.ntmps258
  go_wp2_with fail
  refine (RS.out).mono ?_
  rintro e w1 ⟨rfl, m, rfl⟩
  have R1 := Lib.hid (R0.out.step (grown_draws (World.grownBy.refl _ _) m))
  have C1 := Lib.hid (HCW.out.draws m)
  clear RS HCW R0
  go_wp2_with fail
  refine (RD1.out _).mono ?_
  rintro e w2 ⟨rfl, hb⟩
  have R2 := Lib.hid (R1.out.step (grown_of_below hb _))
  have C2 := Lib.hid (C1.out.of_block (hb.block cb C1.out.lt))
  have c0 := R2.out.c0
  have PS := Lib.hid (pass_ok k z C2.out HK.out HM.out)
  clear hb C1 R1
  unfold curV at PS
  go_wp2_with fail
  refine (PS.out).mono ?_
  rintro e w3 ⟨rfl, hc3, hg3⟩
  have R3 := Lib.hid (R2.out.step hg3)
  have C3 := Lib.hid (hc3)
  have f0 := R3.out.fr 0
  have f1 := R3.out.fr 1
  have f2 := R3.out.fr 2
  have f3 := R3.out.fr 3
  have r0 := R3.out.r 0
  have r1 := R3.out.r 1
  have r2 := R3.out.r 2
  have r3 := R3.out.r 3
  clear hc3 hg3 R2 C2 c0 PS
  go_wp2_with fail
  obtain ⟨k1, k2, k3⟩ := R3.out.fin C3.out (.int .i64 0) (.int .u32 0) (.string (bs t)) (.string ⟨#[]⟩)
  exact ret_cell rfl rfl rfl rfl k1 ⟨rfl, k2, k3⟩
set_option maxHeartbeats 1000000 in
theorem binary_err {er : Int} (hc : Cur w cb s i er) (he : (er == 0) = false) (hi : i ≤ s.size) (hm : s.size ≤ 9223372036854775807) :
    Calls Tryz.prog 258 #[curV cb] w fun e w' => e = .returned (propV ⟨0, 0, (rdB (s.data.toList.drop i)).1, []⟩) ∧ Cur w' cb s i er ∧ w.grownBy w' (some cb) := by
  have hcw := (hc.alloc (.cells #[.pointer (some ⟨cb, 0, none⟩)] 214)).alloc (.cells #[.int .i64 0, .int .u32 0, .string ⟨#[]⟩, .string ⟨#[]⟩] 46)
  have R0 := Lib.hid (RdW.made (w := w) hc.lt)
  have RS := Lib.hid (rest_yes hcw hi hm)
  have HCW := Lib.hid hcw
  have RD := fun W => readbin_any (s.extract i s.size) W (by rw [size_list, rest_list, List.length_drop, ← size_list]; omega)
  rw [rest_list] at RD
  have hk : i + (rdB (s.data.toList.drop i)).2.1 ≤ s.size := by
    have := (rdB_le (s.data.toList.drop i)).1
    rw [List.length_drop, ← size_list] at this; omega
  generalize rdB (s.data.toList.drop i) = q at *
  obtain ⟨t, k, z⟩ := q
  unfold ok3 at RD
  unfold curV
  have RD1 := Lib.hid RD
  have HK := Lib.hid hk
  have HE := Lib.hid he
  have HM := Lib.hid hm
  clear hc hi hm hcw RD hk he
  go_enter Tryz.func258, Tryz.ntmps258
  go_wp2_with fail
  refine (RS.out).mono ?_
  rintro e w1 ⟨rfl, m, rfl⟩
  have R1 := Lib.hid (R0.out.step (grown_draws (World.grownBy.refl _ _) m))
  have C1 := Lib.hid (HCW.out.draws m)
  clear RS HCW R0
  go_wp2_with fail
  refine (RD1.out _).mono ?_
  rintro e w2 ⟨rfl, hb⟩
  have R2 := Lib.hid (R1.out.step (grown_of_below hb _))
  have C2 := Lib.hid (C1.out.of_block (hb.block cb C1.out.lt))
  have c0 := R2.out.c0
  have PS := Lib.hid (pass_err k z C2.out HE.out)
  clear hb C1 R1
  unfold curV at PS
  go_wp2_with fail
  refine (PS.out).mono ?_
  rintro e w3 ⟨rfl, hb3⟩
  have R3 := Lib.hid (R2.out.step (grown_of_below hb3 _))
  have C3 := Lib.hid (C2.out.of_block (hb3.block cb C2.out.lt))
  have f0 := R3.out.fr 0
  have f1 := R3.out.fr 1
  have f2 := R3.out.fr 2
  have f3 := R3.out.fr 3
  have r0 := R3.out.r 0
  have r1 := R3.out.r 1
  have r2 := R3.out.r 2
  have r3 := R3.out.r 3
  clear hb3 R2 C2 c0 PS
  go_wp2_with fail
  obtain ⟨k1, k2, k3⟩ := R3.out.fin C3.out (.int .i64 0) (.int .u32 0) (.string (bs t)) (.string ⟨#[]⟩)
  exact ret_cell rfl rfl rfl rfl k1 ⟨rfl, k2, k3⟩
end

theorem rd_facts (l : List UInt8) : rdN l ≤ l.length ∧ rdV l ≤ 268435455 ∧ (rdE l = 0 ∨ (rdN l = 0 ∧ rdV l = 0 ∧ (rdE l = 3 ∨ rdE l = 5))) := by
  obtain ⟨v, c, st, hr⟩ : ∃ v n st, run 0 0 l = (v, n, st) := ⟨_, _, _, rfl⟩
  obtain ⟨e1, e2, e3⟩ := rd_of hr
  rcases run_state l 0 0 with h1 | h1 | h1
  all_goals (rw [hr] at h1; simp only at h1; subst h1; simp at e1 e2 e3; rw [e1, e2, e3])
  · exact ⟨Nat.zero_le _, Nat.zero_le _, .inr ⟨rfl, rfl, .inl rfl⟩⟩
  · obtain ⟨b1, b2, b3, b4⟩ := run_back l v c hr
    exact ⟨by omega, by omega, .inl rfl⟩
  · exact ⟨Nat.zero_le _, Nat.zero_le _, .inr ⟨rfl, rfl, .inr rfl⟩⟩
section
variable {w : World} {cb i : Nat} {s : ByteArray}
set_option maxHeartbeats 1000000 in
theorem var_rd (hc : Cur w cb s i 0) (hi : i ≤ s.size) (hm : s.size ≤ 9223372036854775807) :
    Calls Tryz.prog 256 #[curV cb] w fun e w' => e = .returned (propV ⟨0, rdV (s.data.toList.drop i), [], []⟩) ∧ Cur w' cb s (i + rdN (s.data.toList.drop i)) (rdE (s.data.toList.drop i) : Nat) ∧ w.grownBy w' (some cb) := by
  have hcw := (hc.alloc (.cells #[.pointer (some ⟨cb, 0, none⟩)] 214)).alloc (.cells #[.int .i64 0, .int .u32 0, .string ⟨#[]⟩, .string ⟨#[]⟩] 46)
  have R0 := Lib.hid (RdW.made (w := w) hc.lt)
  have RS := Lib.hid (rest_yes hcw hi hm)
  have HCW := Lib.hid hcw
  have RD := fun W => read_any (s.extract i s.size) W (by rw [size_list, rest_list, List.length_drop, ← size_list]; omega)
  rw [rest_list] at RD
  unfold ReadPost ReadRet at RD
  obtain ⟨q1, q2, _⟩ := rd_facts (s.data.toList.drop i)
  rw [List.length_drop, ← size_list] at q1
  have hk : i + rdN (s.data.toList.drop i) ≤ s.size := by omega
  generalize rdN (s.data.toList.drop i) = k at *
  generalize rdE (s.data.toList.drop i) = z at *
  generalize rdV (s.data.toList.drop i) = v at *
  unfold curV
  have hw : IntKind.u32.wrap (v : Int) = (v : Int) := by simp only [IntKind.wrap_u32]; omega
  have RD1 := Lib.hid RD
  have HK := Lib.hid hk
  have HM := Lib.hid hm
  clear hc hi hm hcw RD hk q1 q2
  go_enter Tryz.func256, Tryz.ntmps256
  go_wp2_with fail
  refine (RS.out).mono ?_
  rintro e w1 ⟨rfl, m, rfl⟩
  have R1 := Lib.hid (R0.out.step (grown_draws (World.grownBy.refl _ _) m))
  have C1 := Lib.hid (HCW.out.draws m)
  clear RS HCW R0
  go_wp2_with fail
  refine (RD1.out _).mono ?_
  rintro e w2 ⟨rfl, hb⟩
  have R2 := Lib.hid (R1.out.step (grown_of_below hb _))
  have C2 := Lib.hid (C1.out.of_block (hb.block cb C1.out.lt))
  have c0 := R2.out.c0
  have PS := Lib.hid (pass_ok k z C2.out HK.out HM.out)
  clear hb C1 R1
  unfold curV at PS
  go_wp2_with fail
  refine (PS.out).mono ?_
  rintro e w3 ⟨rfl, hc3, hg3⟩
  have R3 := Lib.hid (R2.out.step hg3)
  have C3 := Lib.hid hc3
  have f0 := R3.out.fr 0
  have f1 := R3.out.fr 1
  have f2 := R3.out.fr 2
  have f3 := R3.out.fr 3
  have r0 := R3.out.r 0
  have r1 := R3.out.r 1
  have r2 := R3.out.r 2
  have r3 := R3.out.r 3
  clear hc3 hg3 R2 C2 c0 PS
  go_wp2_with fail
  obtain ⟨k1, k2, k3⟩ := R3.out.fin C3.out (.int .i64 0) (.int .u32 v) (.string ⟨#[]⟩) (.string ⟨#[]⟩)
  exact ret_cell rfl rfl rfl rfl k1 ⟨rfl, k2, k3⟩
end
end Go.Proofs.YtaahhbjnflimnaaGreat
