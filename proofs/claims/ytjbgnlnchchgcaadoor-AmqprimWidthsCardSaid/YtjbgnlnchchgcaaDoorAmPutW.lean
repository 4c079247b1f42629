/-
  The contracts of amqprim.content's methods, and of the map from widths to them. Condition: a text is no longer than an int says, a number what its type holds. The contracts of amqprim.byWidth and Put. Condition: a text is below 2^32 bytes, a number what its type holds.
-/
import Derived.Deep.RegionHeld3
import Derived.Test.YtjbgnlnchchgcaaDoorOctPut
import Derived.Test.YtjbgnlnchchgcaaDoorMapAt
import Derived.Test.YtjbgnlnchchgcaaDoorAmFits
import Derived.Test.YtjbgnlnchchgcaaDoorAmLeast
namespace Go.Proofs.YtjbgnlnchchgcaaDoor
open Go.RowKit

/-- A constructor and a value, as cells. -/
def coC (t : Ct) (k : Int) (n : Nat) (s : ByteArray) (x : Value) : Array Value := #[.int .i64 (t.code : Nat), .int .i64 (t.kind : Nat), .int .i64 (t.width : Nat), .bool t.sized, .bool t.items, .int .i64 k, .int .u64 (n : Nat), .string s, x]
theorem info_co : (Tryd.prog.info? 74).map (·.size) = some 9 := by kernel_rfl
theorem bs_plus (a b : List UInt8) : bs a ++ bs b = bs (a ++ b) := by
  apply ByteArray.ext; simp [bs]
section
variable (t : Ct) (k : Int) (n : Nat) (s : ByteArray) (x : Value) (w : World)
theorem nothing_any : Calls Tryd.prog 66 #[.agg (coC t k n s x)] w fun e W => e = .returned (.string ⟨#[]⟩) ∧ Below w.heap.size w W := by
  have HB := Lib.hid (below_box (w := w) (.cells (coC t k n s x) 74))
  unfold coC at *
  go_in
  go_wp2_with fail
  go_ret
  exact ⟨rfl, HB.out⟩
theorem ctext_any : Calls Tryd.prog 68 #[.agg (coC t k n s x)] w fun e W => e = .returned (.string s) ∧ Below w.heap.size w W := by
  have HB := Lib.hid (below_box (w := w) (.cells (coC t k n s x) 74))
  unfold coC at *
  go_in
  go_wp2_with fail
  go_ret
  exact ⟨rfl, HB.out⟩
end
/-- A content in its box: its width and its text, as every world since has them. -/
abbrev CoS (w : World) (C : Array Value) (z : Int) (s : ByteArray) (W : World) : Prop :=
  W.cell? ⟨w.heap.size, 2, none⟩ = some (.int .i64 z) ∧ W.cell? ⟨w.heap.size, 7, none⟩ = some (.string s) ∧ (Below w.heap.size w W ∧ W.heap[w.heap.size]? = some (.cells C 74 (0, 0)) ∧ C[2]? = some (.int .i64 z) ∧ C[7]? = some (.string s))
theorem CoS.of {w W : World} {C : Array Value} {z : Int} {s : ByteArray} (hb : Below w.heap.size w W) (h : W.heap[w.heap.size]? = some (.cells C 74 (0, 0))) (h2 : C[2]? = some (.int .i64 z)) (h7 : C[7]? = some (.string s)) : CoS w C z s W :=
  ⟨(cell_of_row _ _ 2 _ _ _ h).trans h2, (cell_of_row _ _ 7 _ _ _ h).trans h7, hb, h, h2, h7⟩
theorem CoS.call {w W W' : World} {C : Array Value} {z : Int} {s : ByteArray} (h : CoS w C z s W) (hb : Below W.heap.size W W') : CoS w C z s W' :=
  CoS.of (h.2.2.1.trans (hb.mono h.2.2.1.size)) ((hb.block _ (lt_of_block h.2.2.2.1)).trans h.2.2.2.1) h.2.2.2.2.1 h.2.2.2.2.2
/-- The bytes that content.number puts. -/
def conN (t : Ct) (n : Nat) (l : List UInt8) : List UInt8 := be (if t.sized = true then l.length else n) t.width ++ l
set_option maxHeartbeats 2000000 in
theorem cnum_any (t : Ct) (k : Int) (n : Nat) (s : ByteArray) (x : Value) (w : World) (hn : n < 18446744073709551616) (hs : s.size ≤ 1048576) (hw : t.width ≤ 16) :
    Calls Tryd.prog 67 #[.agg (coC t k n s x)] w fun e W => e = .returned (.string (bs (conN t n s.data.toList))) ∧ Below w.heap.size w W := by
  have H0 := below_box (w := w) (.cells (coC t k n s x) 74)
  have hl : s.data.toList.length = s.size := by simp
  have hz : (s.size : Int) ≤ 1048576 := by omega
  unfold conN
  rw [hl]
  obtain ⟨code, kind, width, sized, items⟩ := t
  simp only at hw ⊢
  obtain ⟨N, hN⟩ : ∃ N, (if sized = true then s.size else n) = N := ⟨_, rfl⟩
  have P := fun W => put_any N width W (by rw [← hN]; split <;> omega)
  rw [show (min (width : Int) 16).toNat = width by omega] at P
  rw [hN]
  have E := Lib.hid (show bs (be N width) ++ s = bs (be N width ++ s.data.toList) from by rw [← bs_plus]; rfl)
  have hb9 : ¬ 9223372036854775807 < (bs (be N width)).size + s.size := by rw [show (bs (be N width)).size = width by simp [bs, ByteArray.size, be_length]]; omega
  replace P := Lib.hid P
  obtain ⟨C, hC⟩ : ∃ C, coC ⟨code, kind, width, sized, items⟩ k n s x = C := ⟨_, rfl⟩
  have S0 := Lib.hid (CoS.of (C := C) (z := width) (s := s) H0.drew (by rw [hC]; exact heap_alloc_new w _) (by rw [← hC]; rfl) (by rw [← hC]; rfl))
  clear hn hs hl hw hC
  unfold coC at *
  cases sized
  all_goals
    simp only [Bool.false_eq_true, if_false, if_true] at hN
    subst hN
    go_in
    go_wp2_with fail
    have hS := S0.out
    go_region_held3 (fun W => CoS w C width s W) (exact hS)
      (first
        | (go_at_call 72; with_reducible refine (P.out _).mono ?_; rintro e w1 ⟨rfl, hb⟩; have hS := hS.call hb; clear hb))
    all_goals
      have hB := Lib.hid hS.2.2.1
      clear hS
      go_wp2_with fail
      go_ret
      exact ⟨by rw [← E.out]; rfl, hB.out⟩
open Go.RowKit

abbrev fnA (f : Nat) : Value := .func (.func f) #[] #[]
/-- The pairs that amqprim.byWidth puts, the last one first. -/
def widL : List (Int × Value) := [(16, fnA 68), (8, fnA 67), (4, fnA 67), (2, fnA 67), (1, fnA 67), (0, fnA 66)]
def WidAt (w : World) (b : Nat) : Prop := MapAt Tryd.prog 3 w b .nilFunc widL
theorem zero_wid (W : World) : (zeroValue 70).run Tryd.prog W = .ok .nilFunc W := by kernel_rfl
theorem wid_wf {n : Int} (h0 : -9223372036854775808 ≤ n) (h1 : n ≤ 9223372036854775807) : (Lit.int .i64 n).wf = true := by
  simp [Lit.wf, IntKind.min, IntKind.max, IntKind.signed, IntKind.bits]; omega
theorem WidAt.look {W : World} {b : Nat} (h : WidAt W b) {k : Int} (hk0 : 0 ≤ k) (hk1 : k ≤ 16) : (Instr.lookup 71 (.map (some b)) (.int .i64 k) false).run Tryd.prog W = .ok (lookK .nilFunc widL k) W :=
  MapAt.look h Tryd.underlying3 Tryd.underlying71 (zero_wid W) (wid_wf (by omega) (by omega))
set_option maxRecDepth 100000 in
set_option maxHeartbeats 2000000 in
theorem wid_any (w : World) : Calls Tryd.prog 44 #[] w fun e W => ∃ b, e = .returned (.map (some b)) ∧ WidAt W b ∧ Below w.heap.size w W := by
  have hmm := @run_makeMap Tryd.prog
  have hG : MapG Tryd.prog 3 w (w.alloc (.map #[] 0)) w.heap.size .nilFunc [] := ⟨MapAt.made _ _ _ _, below_box _, Nat.le_refl _⟩
  go_in
  go_wp2_with (refine wpList_insert_g rfl _ _ _ 71 rfl 3 70 Tryd.underlying3 Tryd.underlying71 _ _ _ rfl hG (by simp [maxLen]) _ _ rfl rfl (by decide) ?_; clear hG; intro w1 hG)
  go_ret
  exact ⟨_, rfl, hG.1, hG.2.1⟩
/-- What Put does with a constructor that fits. -/
theorem put_fn {t : Ct} {v : Sv} (ht : t ∈ tabA) (hk : (t.kind : Int) = v.kind) (hc : checkV v = 0) :
    (t.width = 0 ∧ dataV t v = []) ∨ (t.width = 16 ∧ dataV t v = v.text) ∨ ((t.width = 1 ∨ t.width = 2 ∨ t.width = 4 ∨ t.width = 8) ∧ dataV t v = conN t v.n v.text) := by
  obtain ⟨⟨k0, k1⟩, -, -, hx, -, -⟩ := check_v hc
  obtain ⟨kind, n, l, m⟩ := v
  simp only at *
  subst hk
  have hx2 : textsA (t.kind : Int) = false → l = [] := hx
  unfold dataV conN
  simp only
  simp only [tabA, List.mem_cons, List.not_mem_nil, or_false] at ht
  rcases ht with rfl | rfl | rfl | rfl | rfl | rfl | rfl | rfl | rfl | rfl | rfl | rfl | rfl | rfl | rfl | rfl | rfl | rfl | rfl | rfl | rfl | rfl | rfl | rfl | rfl | rfl | rfl | rfl | rfl | rfl | rfl | rfl | rfl | rfl | rfl | rfl | rfl | rfl | rfl | rfl
  all_goals first
    | (exfalso; simp at k1; done)
    | (simp [textsA] at hx2; subst hx2; simp [be]; done)
    | (simp; done)
/-- Two boxes: the value, and the constructor. -/
abbrev PuS (w : World) (g : Nat) (t : Ct) (k : Int) (n : Nat) (s : ByteArray) (x : Value) (W : World) : Prop :=
  W.cell? ⟨g, 0, none⟩ = some (.int .i64 (t.code : Nat)) ∧ W.cell? ⟨g, 1, none⟩ = some (.int .i64 (t.kind : Nat)) ∧ W.cell? ⟨g, 2, none⟩ = some (.int .i64 (t.width : Nat)) ∧ W.cell? ⟨g, 3, none⟩ = some (.bool t.sized) ∧ W.cell? ⟨g, 4, none⟩ = some (.bool t.items) ∧
  W.cell? ⟨w.heap.size, 0, none⟩ = some (.int .i64 k) ∧ W.cell? ⟨w.heap.size, 1, none⟩ = some (.int .u64 (n : Nat)) ∧ W.cell? ⟨w.heap.size, 2, none⟩ = some (.string s) ∧ W.cell? ⟨w.heap.size, 3, none⟩ = some x ∧ (VS w k n s x W ∧ W.heap[g]? = some (.cells (ctC t) 32 (0, 0)))
theorem PuS.of {w W : World} {g : Nat} {t : Ct} {k : Int} {n : Nat} {s : ByteArray} {x : Value} (h : VS w k n s x W) (hg : W.heap[g]? = some (.cells (ctC t) 32 (0, 0))) : PuS w g t k n s x W :=
  ⟨cell_of_row _ _ 0 _ _ _ hg, cell_of_row _ _ 1 _ _ _ hg, cell_of_row _ _ 2 _ _ _ hg, cell_of_row _ _ 3 _ _ _ hg, cell_of_row _ _ 4 _ _ _ hg, h.1, h.2.1, h.2.2.1, h.2.2.2.1, h, hg⟩
theorem PuS.both {w W : World} {g : Nat} {t : Ct} {k : Int} {n : Nat} {s : ByteArray} {x : Value} (h : PuS w g t k n s x W) : VS w k n s x W ∧ W.heap[g]? = some (.cells (ctC t) 32 (0, 0)) := h.2.2.2.2.2.2.2.2.2
theorem PuS.call {w W W' : World} {g : Nat} {t : Ct} {k : Int} {n : Nat} {s : ByteArray} {x : Value} (h : PuS w g t k n s x W) (hb : Below W.heap.size W W') : PuS w g t k n s x W' :=
  PuS.of (h.both.1.call hb) ((hb.block _ (lt_of_block h.both.2)).trans h.both.2)
theorem PuS.draw {w W : World} {g : Nat} {t : Ct} {k : Int} {n : Nat} {s : ByteArray} {x : Value} (h : PuS w g t k n s x W) : PuS w g t k n s x W.drew := PuS.of h.both.1.draw h.both.2
set_option maxRecDepth 100000 in
set_option maxHeartbeats 4000000 in
theorem putw_zero (c : Int) (t : Ct) (k : Int) (n : Nat) (s : ByteArray) (A : Option Addr) (m cp : Nat) (w : World) (hn : n < 18446744073709551616) (hs : s.size ≤ 1048576) (hv : checkV (svC k n s.data.toList m) = 0) (ht : ofA c = some t) (hf : fitB c k n s.data.toList = true) (hw : t.width = 0) :
    Calls Tryd.prog 15 #[.int .i64 c, .agg (vC k n s (.slice A m cp))] w fun e W => e = .returned (.tuple #[.string (⟨#[]⟩), .int .i64 0]) ∧ Below w.heap.size w W := by
  have CH := check_any k n s A m cp (w.alloc (.cells (vC k n s (.slice A m cp)) 26)) hn (by omega)
  have FS := fun W => fits_small c k n s A m cp W (check_v hv).1 hn (by omega)
  have OF := fun W => of_any c W
  have HS := Lib.hid (VS.start w k n s (.slice A m cp))
  have WD := Lib.hid (fun W => wid_any W)
  have FC := Lib.hid (fun W => nothing_any t k n s (.slice A m cp) W)
  have LK := fun W b (h : WidAt W b) => h.look (k := (t.width : Int)) (by omega) (by omega)
  have lk : lookK .nilFunc widL (t.width : Int) = fnA 66 := by rw [hw]; rfl
  rw [lk] at LK
  rw [hv] at CH
  rw [hf] at FS
  rw [show ofT c = (t, true) by unfold ofT; rw [ht]] at OF
  replace CH := Lib.hid CH
  replace FS := Lib.hid FS
  replace OF := Lib.hid OF
  replace LK := Lib.hid LK
  clear hn hs hv ht hf lk hw
  unfold vC at CH FS ⊢
  unfold ctC at OF
  unfold coC at FC
  go_in
  go_wp2_with fail
  refine (CH.out).mono ?_
  rintro e W ⟨rfl, hb⟩
  have HV := Lib.hid (HS.out.call hb)
  obtain ⟨c0, c1, c2, c3, -⟩ := HV.out
  clear hb
  go_wp2_with fail
  refine (FS.out _).mono ?_
  rintro e W1 ⟨rfl, hb⟩
  have HV1 := Lib.hid (HV.out.call hb)
  clear hb c0 c1 c2 c3 HV
  go_wp2_with fail
  refine (OF.out _).mono ?_
  rintro e W2 ⟨rfl, hb⟩
  have HP := Lib.hid (PuS.of (((HV1.out.call hb)).call (below_box (.cells (ctC t) 32))) (heap_alloc_new W2 _)).draw
  unfold ctC at HP
  clear hb HV1
  go_wp2_with fail
  have hS := HP.out
  go_region_held3 (fun W => PuS w W2.heap.size t k n s (.slice A m cp) W) (exact hS)
    (first
      | (go_at_call 44; with_reducible refine (WD.out _).mono ?_; rintro e w1 ⟨b, rfl, hM, hb⟩; have hS := hS.call hb; have hx := LK.out w1 b hM; clear hb hM)
      | (go_at_call 66; with_reducible refine (FC.out _).mono ?_; rintro e w3 ⟨rfl, hb⟩; have hS := hS.call hb; clear hb))
  all_goals
    have hB := Lib.hid hS.both.1.2.2.2.2.1
    clear hS
    go_wp2_with fail
    go_ret2
    exact ⟨rfl, hB.out⟩
set_option maxRecDepth 100000 in
set_option maxHeartbeats 4000000 in
theorem putw_text (c : Int) (t : Ct) (k : Int) (n : Nat) (s : ByteArray) (A : Option Addr) (m cp : Nat) (w : World) (hn : n < 18446744073709551616) (hs : s.size ≤ 1048576) (hv : checkV (svC k n s.data.toList m) = 0) (ht : ofA c = some t) (hf : fitB c k n s.data.toList = true) (hw : t.width = 16) :
    Calls Tryd.prog 15 #[.int .i64 c, .agg (vC k n s (.slice A m cp))] w fun e W => e = .returned (.tuple #[.string (s), .int .i64 0]) ∧ Below w.heap.size w W := by
  have CH := check_any k n s A m cp (w.alloc (.cells (vC k n s (.slice A m cp)) 26)) hn (by omega)
  have FS := fun W => fits_small c k n s A m cp W (check_v hv).1 hn (by omega)
  have OF := fun W => of_any c W
  have HS := Lib.hid (VS.start w k n s (.slice A m cp))
  have WD := Lib.hid (fun W => wid_any W)
  have FC := Lib.hid (fun W => ctext_any t k n s (.slice A m cp) W)
  have LK := fun W b (h : WidAt W b) => h.look (k := (t.width : Int)) (by omega) (by omega)
  have lk : lookK .nilFunc widL (t.width : Int) = fnA 68 := by rw [hw]; rfl
  rw [lk] at LK
  rw [hv] at CH
  rw [hf] at FS
  rw [show ofT c = (t, true) by unfold ofT; rw [ht]] at OF
  replace CH := Lib.hid CH
  replace FS := Lib.hid FS
  replace OF := Lib.hid OF
  replace LK := Lib.hid LK
  clear hn hs hv ht hf lk hw
  unfold vC at CH FS ⊢
  unfold ctC at OF
  unfold coC at FC
  go_in
  go_wp2_with fail
  refine (CH.out).mono ?_
  rintro e W ⟨rfl, hb⟩
  have HV := Lib.hid (HS.out.call hb)
  obtain ⟨c0, c1, c2, c3, -⟩ := HV.out
  clear hb
  go_wp2_with fail
  refine (FS.out _).mono ?_
  rintro e W1 ⟨rfl, hb⟩
  have HV1 := Lib.hid (HV.out.call hb)
  clear hb c0 c1 c2 c3 HV
  go_wp2_with fail
  refine (OF.out _).mono ?_
  rintro e W2 ⟨rfl, hb⟩
  have HP := Lib.hid (PuS.of (((HV1.out.call hb)).call (below_box (.cells (ctC t) 32))) (heap_alloc_new W2 _)).draw
  unfold ctC at HP
  clear hb HV1
  go_wp2_with fail
  have hS := HP.out
  go_region_held3 (fun W => PuS w W2.heap.size t k n s (.slice A m cp) W) (exact hS)
    (first
      | (go_at_call 44; with_reducible refine (WD.out _).mono ?_; rintro e w1 ⟨b, rfl, hM, hb⟩; have hS := hS.call hb; have hx := LK.out w1 b hM; clear hb hM)
      | (go_at_call 68; with_reducible refine (FC.out _).mono ?_; rintro e w3 ⟨rfl, hb⟩; have hS := hS.call hb; clear hb))
  all_goals
    have hB := Lib.hid hS.both.1.2.2.2.2.1
    clear hS
    go_wp2_with fail
    go_ret2
    exact ⟨rfl, hB.out⟩
set_option maxRecDepth 100000 in
set_option maxHeartbeats 4000000 in
theorem putw_num (c : Int) (t : Ct) (k : Int) (n : Nat) (s : ByteArray) (A : Option Addr) (m cp : Nat) (w : World) (hn : n < 18446744073709551616) (hs : s.size ≤ 1048576) (hv : checkV (svC k n s.data.toList m) = 0) (ht : ofA c = some t) (hf : fitB c k n s.data.toList = true) (hw : t.width = 1 ∨ t.width = 2 ∨ t.width = 4 ∨ t.width = 8) :
    Calls Tryd.prog 15 #[.int .i64 c, .agg (vC k n s (.slice A m cp))] w fun e W => e = .returned (.tuple #[.string (bs (conN t n s.data.toList)), .int .i64 0]) ∧ Below w.heap.size w W := by
  have CH := check_any k n s A m cp (w.alloc (.cells (vC k n s (.slice A m cp)) 26)) hn (by omega)
  have FS := fun W => fits_small c k n s A m cp W (check_v hv).1 hn (by omega)
  have OF := fun W => of_any c W
  have HS := Lib.hid (VS.start w k n s (.slice A m cp))
  have WD := Lib.hid (fun W => wid_any W)
  have FC := Lib.hid (fun W => cnum_any t k n s (.slice A m cp) W hn hs (by omega))
  have LK := fun W b (h : WidAt W b) => h.look (k := (t.width : Int)) (by omega) (by omega)
  have lk : lookK .nilFunc widL (t.width : Int) = fnA 67 := by rcases hw with h | h | h | h <;> rw [h] <;> rfl
  rw [lk] at LK
  rw [hv] at CH
  rw [hf] at FS
  rw [show ofT c = (t, true) by unfold ofT; rw [ht]] at OF
  replace CH := Lib.hid CH
  replace FS := Lib.hid FS
  replace OF := Lib.hid OF
  replace LK := Lib.hid LK
  clear hn hs hv ht hf lk hw
  unfold vC at CH FS ⊢
  unfold ctC at OF
  unfold coC at FC
  go_in
  go_wp2_with fail
  refine (CH.out).mono ?_
  rintro e W ⟨rfl, hb⟩
  have HV := Lib.hid (HS.out.call hb)
  obtain ⟨c0, c1, c2, c3, -⟩ := HV.out
  clear hb
  go_wp2_with fail
  refine (FS.out _).mono ?_
  rintro e W1 ⟨rfl, hb⟩
  have HV1 := Lib.hid (HV.out.call hb)
  clear hb c0 c1 c2 c3 HV
  go_wp2_with fail
  refine (OF.out _).mono ?_
  rintro e W2 ⟨rfl, hb⟩
  have HP := Lib.hid (PuS.of (((HV1.out.call hb)).call (below_box (.cells (ctC t) 32))) (heap_alloc_new W2 _)).draw
  unfold ctC at HP
  clear hb HV1
  go_wp2_with fail
  have hS := HP.out
  go_region_held3 (fun W => PuS w W2.heap.size t k n s (.slice A m cp) W) (exact hS)
    (first
      | (go_at_call 44; with_reducible refine (WD.out _).mono ?_; rintro e w1 ⟨b, rfl, hM, hb⟩; have hS := hS.call hb; have hx := LK.out w1 b hM; clear hb hM)
      | (go_at_call 67; with_reducible refine (FC.out _).mono ?_; rintro e w3 ⟨rfl, hb⟩; have hS := hS.call hb; clear hb))
  all_goals
    have hB := Lib.hid hS.both.1.2.2.2.2.1
    clear hS
    go_wp2_with fail
    go_ret2
    exact ⟨rfl, hB.out⟩
theorem fit_some {c k : Int} {n : Nat} {l : List UInt8} (h : fitB c k n l = true) : ∃ t, ofA c = some t ∧ t ∈ tabA ∧ (t.kind : Int) = k := by
  unfold fitB at h
  cases hc : ofA c with
  | none => rw [hc] at h; cases h
  | some t =>
    rw [hc] at h
    simp only [Bool.and_eq_true, beq_iff_eq] at h
    exact ⟨t, rfl, (of_mem hc).1, h.1⟩
set_option maxRecDepth 100000 in
set_option maxHeartbeats 2000000 in
theorem putw_no (c k : Int) (n : Nat) (s : ByteArray) (A : Option Addr) (m cp : Nat) (w : World) (hn : n < 18446744073709551616) (hs : s.size ≤ 1048576) (hv : checkV (svC k n s.data.toList m) = 0) (hf : fitB c k n s.data.toList = false) :
    Calls Tryd.prog 15 #[.int .i64 c, .agg (vC k n s (.slice A m cp))] w fun e W => e = .returned (.tuple #[.string ⟨#[]⟩, .int .i64 2]) ∧ Below w.heap.size w W := by
  have CH := check_any k n s A m cp (w.alloc (.cells (vC k n s (.slice A m cp)) 26)) hn (by omega)
  have FS := fun W => fits_small c k n s A m cp W (check_v hv).1 hn (by omega)
  have HS := Lib.hid (VS.start w k n s (.slice A m cp))
  rw [hv] at CH
  rw [hf] at FS
  replace CH := Lib.hid CH
  replace FS := Lib.hid FS
  clear hn hs hv hf
  unfold vC at CH FS ⊢
  go_in
  go_wp2_with fail
  refine (CH.out).mono ?_
  rintro e W ⟨rfl, hb⟩
  have HV := Lib.hid (HS.out.call hb)
  obtain ⟨c0, c1, c2, c3, -⟩ := HV.out
  clear hb
  go_wp2_with fail
  refine (FS.out _).mono ?_
  rintro e W1 ⟨rfl, hb⟩
  have HV1 := Lib.hid (HV.out.call hb)
  clear hb c0 c1 c2 c3 HV
  go_wp2_with fail
  go_ret2
  exact ⟨rfl, HV1.out.2.2.2.2.1⟩
set_option maxRecDepth 100000 in
set_option maxHeartbeats 2000000 in
theorem putw_err (c k : Int) (n : Nat) (s : ByteArray) (A : Option Addr) (m cp z : Nat) (w : World) (hn : n < 18446744073709551616) (hs : s.size < 4294967296) (hv : checkV (svC k n s.data.toList m) = z) (h : z ≠ 0) :
    Calls Tryd.prog 15 #[.int .i64 c, .agg (vC k n s (.slice A m cp))] w fun e W => e = .returned (.tuple #[.string ⟨#[]⟩, .int .i64 (z : Nat)]) ∧ Below w.heap.size w W := by
  have CH := check_any k n s A m cp (w.alloc (.cells (vC k n s (.slice A m cp)) 26)) hn hs
  have HS := Lib.hid (VS.start w k n s (.slice A m cp))
  rw [hv] at CH
  have h0 : ((z : Int) != 0) = true := by simp; omega
  replace CH := Lib.hid CH
  clear hn hs hv h
  unfold vC at *
  go_in
  go_wp2_with fail
  refine (CH.out).mono ?_
  rintro e W ⟨rfl, hb⟩
  have HV := Lib.hid (HS.out.call hb)
  clear hb
  go_wp2_with fail
  go_ret2
  exact ⟨rfl, HV.out.2.2.2.2.1⟩
/-- amqprim.Put. -/
theorem aput_any (c k : Int) (n : Nat) (s : ByteArray) (A : Option Addr) (m cp : Nat) (w : World) (hn : n < 18446744073709551616) (hs : s.size < 4294967296) :
    Calls Tryd.prog 15 #[.int .i64 c, .agg (vC k n s (.slice A m cp))] w fun e W =>
      e = .returned (.tuple #[.string (bs (putV c (svC k n s.data.toList m)).1), .int .i64 ((putV c (svC k n s.data.toList m)).2 : Nat)]) ∧ Below w.heap.size w W := by
  by_cases h : checkV (svC k n s.data.toList m) = 0
  · have hs2 : s.size ≤ 1048576 := by have := (check_v h).2.2.2.2.2; rw [show (svC k n s.data.toList m).text = s.data.toList from rfl] at this; simpa using this
    cases hf : fitB c k n s.data.toList
    · have e : putV c (svC k n s.data.toList m) = ([], 2) := by
        have h1 := fit_eq (c := c) (v := svC k n s.data.toList m) hn h
        rw [show fitB c (svC k n s.data.toList m).kind (svC k n s.data.toList m).n (svC k n s.data.toList m).text = false from hf] at h1
        unfold fitsV at h1
        unfold putV
        rw [if_neg (fun x => x h)]
        cases ho : ofA c with
        | none => rfl
        | some t =>
          rw [ho] at h1
          simp only [h] at h1 ⊢
          rw [if_pos (by simpa using h1.symm)]
      rw [e]
      exact putw_no c k n s A m cp w hn hs2 h hf
    · obtain ⟨t, ht, hm, hk⟩ := fit_some hf
      have e : putV c (svC k n s.data.toList m) = (dataV t (svC k n s.data.toList m), 0) := by
        have := put_fits hm (v := svC k n s.data.toList m) hk h (by
          have h1 := room_fits t hm (svC k n s.data.toList m) hk hn h
          unfold fitB at hf
          rw [ht] at hf
          simp only [Bool.and_eq_true] at hf
          rw [← h1]; exact hf.2)
        rw [(of_mem ht).2] at this
        exact this
      rw [e]
      simp only
      rcases put_fn hm (v := svC k n s.data.toList m) hk h with ⟨hw, hd⟩ | ⟨hw, hd⟩ | ⟨hw, hd⟩
      · rw [hd]; exact putw_zero c t k n s A m cp w hn hs2 h ht hf hw
      · rw [hd]; exact putw_text c t k n s A m cp w hn hs2 h ht hf hw
      · rw [hd]; exact putw_num c t k n s A m cp w hn hs2 h ht hf hw
  · have e : putV c (svC k n s.data.toList m) = ([], checkV (svC k n s.data.toList m)) := by unfold putV; rw [if_pos h]
    rw [e]
    exact putw_err c k n s A m cp _ w hn hs rfl h
end Go.Proofs.YtjbgnlnchchgcaaDoor
