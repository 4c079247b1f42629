/-
  The contract of amqprim.Get. Condition: the bytes are no more than an int says.
-/
import Derived.Deep.RegionWith
import Derived.Test.YtjbgnlnchchgcaaDoorAmReadN
namespace Go.Proofs.YtjbgnlnchchgcaaDoor
open Go.RowKit

/-- What stands while a value is got. -/
structure GtS (w : World) (g cb : Nat) (t : Ct) (s : ByteArray) (X : Array Value) (i : Nat) (e : Int) (W : World) : Prop where
  lt : w.heap.size < g ∧ g < cb
  low : Below w.heap.size w W
  res : W.heap[w.heap.size]? = some (.cells X 26 (0, 0))
  box : W.heap[g]? = some (.cells (ctC t) 32 (0, 0))
  cur : Cur W cb s i e
section
variable {w W W' : World} {g cb : Nat} {t : Ct} {s : ByteArray} {X : Array Value} {i i' : Nat} {e e' : Int}
theorem GtS.step (h : GtS w g cb t s X i e W) (hc : Cur W' cb s i' e') (hg : W.grownBy W' (some cb)) : GtS w g cb t s X i' e' W' := by
  have hl := h.lt
  have hs := h.low.size
  exact ⟨hl, h.low.grown hg hs (fun j hj => by cases hj; omega), (hg.block _ (lt_of_block h.res) (fun x => by cases x; omega)).trans h.res, (hg.block _ (lt_of_block h.box) (fun x => by cases x; omega)).trans h.box, hc⟩
theorem GtS.call (h : GtS w g cb t s X i e W) (hb : Below W.heap.size W W') : GtS w g cb t s X i e W' :=
  ⟨h.lt, h.low.trans (hb.mono h.low.size), (hb.block _ (lt_of_block h.res)).trans h.res, (hb.block _ (lt_of_block h.box)).trans h.box, h.cur.of_block (hb.block _ h.cur.lt)⟩
theorem GtS.set (h : GtS w g cb t s X i e W) (Y : Array Value) : GtS w g cb t s Y i e (W.setRow w.heap.size Y) := by
  have hl := h.lt
  exact ⟨hl, belowRow h.low (Nat.le_refl _) _, setRow_heap _ _ _ _ _ _ h.res, (setRow_other _ _ _ _ (by omega)).trans h.box, (setRow_other _ _ _ _ (by omega)).trans h.cur⟩
theorem GtS.cells (h : GtS w g cb t s X i e W) : W.cell? ⟨g, 0, none⟩ = some (.int .i64 (t.code : Nat)) ∧ W.cell? ⟨g, 1, none⟩ = some (.int .i64 (t.kind : Nat)) ∧ W.cell? ⟨g, 2, none⟩ = some (.int .i64 (t.width : Nat)) ∧ W.cell? ⟨g, 3, none⟩ = some (.bool t.sized) ∧ W.cell? ⟨g, 4, none⟩ = some (.bool t.items) :=
  ⟨cell_of_row _ _ 0 _ _ _ h.box, cell_of_row _ _ 1 _ _ _ h.box, cell_of_row _ _ 2 _ _ _ h.box, cell_of_row _ _ 3 _ _ _ h.box, cell_of_row _ _ 4 _ _ _ h.box⟩
end
abbrev zV : Array Value := #[.int .i64 0, .int .u64 0, .string ⟨#[]⟩, .slice none 0 0]
theorem zV_one : zV.all (·.oneCell') = true := by simp [zV, Value.oneCell']
/-- What Get returns. -/
def GtRet (w : World) (k : Int) (n : Nat) (x : ByteArray) (i e : Nat) (E : Ending) (W : World) : Prop :=
  E = .returned (.tuple #[.agg (vC k n x (.slice none 0 0)), .int .i64 (i : Nat), .int .i64 (e : Nat)]) ∧ Below w.heap.size w W
set_option maxRecDepth 100000 in
set_option maxHeartbeats 2000000 in
theorem get_kind (c : Int) (s : ByteArray) (w : World) (T : Ct) (b : Bool) (hT : ofT c = (T, b)) (h : b = false ∨ (b = true ∧ T.items = true)) : Calls Tryd.prog 14 #[.int .i64 c, .string s] w (GtRet w 0 0 ⟨#[]⟩ 0 8) := by
  have OF := of_any c (w.alloc (.cells zV 26))
  have KT := Lib.hid (fun W1 (hb : Below (w.alloc (.cells zV 26)).heap.size (w.alloc (.cells zV 26)) W1) => kept_two (o' := .cells (ctC T) 32) hb (Below.refl _ _))
  rw [hT] at OF
  replace OF := Lib.hid OF
  clear hT
  obtain ⟨code, kind, width, sized, items⟩ := T
  rcases h with rfl | ⟨rfl, rfl⟩
  all_goals
    unfold ctC at *
    unfold zV at *
    go_in
    go_wp2_with fail
    refine (OF.out).mono ?_
    rintro e W1 ⟨rfl, hb⟩
    have G := Lib.hid (KT.out W1 hb).1
    have HB := Lib.hid (KT.out W1 hb).2
    clear hb
    go_wp2_with (refine wpList_store_row rfl _ _ _ rfl w.heap.size zV rfl rfl 26 _ G.out info_va rfl zV_one ?_)
    exact ret_row3 (cs := zV) rfl rfl rfl rfl rfl Tryd.underlying26 rfl info_va (setRow_heap _ _ _ _ _ _ G.out) ⟨rfl, belowRow HB.out (Nat.le_refl _) _⟩
theorem four_set {W : World} {b : Nat} {k : Int} {n : Nat} {x : ByteArray} (h : W.heap[b]? = some (.cells (vC k n x (.slice none 0 0)) 26 (0, 0))) :
    ((((W.setCell ⟨b, 0, none⟩ (.int .i64 k)).setCell ⟨b, 1, none⟩ (.int .u64 (n : Nat))).setCell ⟨b, 2, none⟩ (.string x)).setCell ⟨b, 3, none⟩ (.slice none 0 0)).drew.heap[b]? = some (.cells (vC k n x (.slice none 0 0)) 26 (0, 0)) :=
  setCell_block (setCell_block (setCell_block (setCell_block h 0 (.int .i64 k)) 1 (.int .u64 (n : Nat))) 2 (.string x)) 3 (.slice none 0 0)
theorem four_low {w W : World} (h : Below w.heap.size w W) (k : Int) (n : Nat) (x : ByteArray) :
    Below w.heap.size w ((((W.setCell ⟨w.heap.size, 0, none⟩ (.int .i64 k)).setCell ⟨w.heap.size, 1, none⟩ (.int .u64 (n : Nat))).setCell ⟨w.heap.size, 2, none⟩ (.string x)).setCell ⟨w.heap.size, 3, none⟩ (.slice none 0 0)).drew :=
  ((((h.setCell (p := ⟨w.heap.size, 0, none⟩) (Nat.le_refl _) _).setCell (p := ⟨w.heap.size, 1, none⟩) (Nat.le_refl _) _).setCell (p := ⟨w.heap.size, 2, none⟩) (Nat.le_refl _) _).setCell (p := ⟨w.heap.size, 3, none⟩) (Nat.le_refl _) _).drew
theorem part_text {t : Ct} {l : List UInt8} {r : Sv × Nat} (h : partV t l = some r) : r.1.text.length ≤ l.length := by
  unfold partV at h
  repeat' split at h
  all_goals first | (cases h; done) | skip
  all_goals
    simp only [Option.some.injEq] at h
    subst h
    simp
  all_goals try omega
theorem gt_start {w W1 W : World} {t : Ct} {s : ByteArray} (hb : Below (w.alloc (.cells zV 26)).heap.size (w.alloc (.cells zV 26)) W1) (h : Cur W (W1.alloc (.cells (ctC t) 32)).heap.size s 0 0)
    (hn : Below (W1.alloc (.cells (ctC t) 32)).heap.size (W1.alloc (.cells (ctC t) 32)) W) : GtS w W1.heap.size (W1.alloc (.cells (ctC t) 32)).heap.size t s zV 0 0 W := by
  obtain ⟨G, HB⟩ := kept_two (o' := .cells (ctC t) 32) hb (Below.refl _ _)
  have h1 := hb.size
  rw [World.size_alloc] at h1
  exact ⟨⟨by omega, by simp⟩, HB.trans (hn.mono HB.size), (hn.block _ (lt_of_block G)).trans G, (hn.block _ (by simp)).trans (heap_alloc_new W1 _), h⟩
/-- What Get goes on with behind read. -/
def GtOk (w : World) (t : Ct) (l : List UInt8) (E : Ending) (W : World) : Prop :=
  match partV t l with
  | none => GtRet w 0 0 ⟨#[]⟩ 0 3 E W
  | some r => if checkV r.1 = 0 then GtRet w r.1.kind r.1.n (bs r.1.text) r.2 0 E W else GtRet w 0 0 ⟨#[]⟩ 0 (if checkV r.1 = 2 then 5 else checkV r.1) E W
set_option maxRecDepth 100000 in
set_option maxHeartbeats 4000000 in
theorem get_main (c : Int) (s : ByteArray) (w : World) (t : Ct) (hT : ofT c = (t, true)) (ht : t ∈ tabA) (hi : t.items = false) (hk : t.kind ≤ 21) (hs : s.size < 4294967296) : Calls Tryd.prog 14 #[.int .i64 c, .string s] w (GtOk w t s.data.toList) := by
  have OF := of_any c (w.alloc (.cells zV 26))
  have KT := Lib.hid (fun W1 (hb : Below (w.alloc (.cells zV 26)).heap.size (w.alloc (.cells zV 26)) W1) => kept_two (o' := .cells (ctC t) 32) hb (Below.refl _ _))
  have NW := Lib.hid (fun W => new_any s W)
  have RD := Lib.hid (fun cb W (h : Cur W cb s 0 0) => read_any t ht hk W cb s h (by omega))
  have CK := Lib.hid (fun k n (x : ByteArray) W (hn : n < 18446744073709551616) (hx : x.size < 4294967296) => check_any k n x none 0 0 W hn hx)
  have PB := Lib.hid (fun v n (h : partV t s.data.toList = some (v, n)) => part_back ht hi h)
  have AT := Lib.hid (fun W b i e (h : Cur W b s i e) => at_yes h)
  rw [hT] at OF
  replace OF := Lib.hid OF
  have HSZ := Lib.hid hs
  clear hT ht hk hs
  have hi2 := hi
  have C0 := Lib.hid (show (ctC t) = #[.int .i64 (t.code : Nat), .int .i64 (t.kind : Nat), .int .i64 (t.width : Nat), .bool t.sized, .bool false] from by unfold ctC; rw [hi])
  clear hi hi2
  rw [C0.out] at OF KT
  simp only [C0.out] at RD
  unfold zV at OF KT
  go_in
  go_wp2_with fail
  refine (OF.out).mono ?_
  rintro e W1 ⟨rfl, hb⟩
  have S1 := Lib.hid (fun W (h : Cur W (W1.alloc (.cells (ctC t) 32)).heap.size s 0 0) (hn : Below (W1.alloc (.cells (ctC t) 32)).heap.size (W1.alloc (.cells (ctC t) 32)) W) => gt_start hb h hn)
  rw [C0.out] at S1
  clear hb KT OF
  go_wp2_with fail
  refine (NW.out _).mono ?_
  rintro e W3 ⟨rfl, hcur, hb, hsz⟩
  have H3 := S1.out W3 hcur hb
  rw [World.size_alloc] at H3
  replace H3 := Lib.hid H3
  clear hcur hb hsz
  obtain ⟨c0, c1, c2, c3, c4⟩ := H3.out.cells
  rw [show t.items = false from by have := C0.out; unfold ctC at this; injection this with this; simpa using this] at c4
  go_wp2_with fail
  refine (RD.out _ _ H3.out.cur).mono ?_
  rintro e W4 ⟨n, x, i, er, rfl, hcur, hg, hok⟩
  have H4 := Lib.hid (H3.out.step hcur hg)
  have H5 := Lib.hid (H4.out.set (vC t.kind n x (.slice none 0 0)))
  obtain ⟨W5, hW5⟩ : ∃ W5, W4.setRow w.heap.size (vC t.kind n x (.slice none 0 0)) = W5 := ⟨_, rfl⟩
  rw [hW5] at H5
  have EW := Lib.hid hW5
  clear hcur hg hW5 c0 c1 c2 c3 c4 RD NW S1 C0
  unfold GtOk
  unfold RdOk at hok
  cases hp : partV t s.data.toList with
  | none =>
    rw [hp] at hok
    simp only at hok
    subst hok
    simp only
    go_wp2_with (first
      | (refine wpList_store_row rfl _ _ _ rfl w.heap.size (vC t.kind n x (.slice none 0 0)) rfl rfl 26 _ H4.out.res info_va rfl (vC_one _ _ _) ?_); rw [EW.out]
      | (go_at_call 41; refine (err_yes H5.out.cur).mono ?_; rintro e w' ⟨rfl, rfl⟩)
      | (refine wpList_store_row rfl _ _ _ rfl w.heap.size (zV) rfl rfl 26 _ H5.out.res info_va rfl zV_one ?_))
    refine ret_row3 (cs := zV) rfl rfl rfl rfl rfl Tryd.underlying26 rfl info_va (setRow_heap _ _ _ _ _ _ H5.out.res) ?_
    unfold GtOk
    rw [hp]
    exact ⟨rfl, belowRow H5.out.low (Nat.le_refl _) _⟩
  | some r =>
    have hx := part_text hp
    obtain ⟨v, sz⟩ := r
    have hn := (PB.out v sz hp).2.2.1
    rw [hp] at hok
    simp only at hok hx
    obtain ⟨rfl, rfl, rfl⟩ := hok
    simp only at hn hx
    have CK2 := fun W => CK.out t.kind n x W hn (by have := HSZ.out; simp at hx; omega)
    rw [show svC t.kind n x.data.toList 0 = ⟨t.kind, n, x.data.toList, 0⟩ from rfl] at CK2
    have HP := Lib.hid hp
    obtain ⟨z, hz⟩ : ∃ z, checkV ⟨t.kind, n, x.data.toList, 0⟩ = z := ⟨_, rfl⟩
    rw [hz] at CK2
    have HZ := Lib.hid hz
    replace CK2 := Lib.hid CK2
    clear hn hx hp hz CK PB HSZ
    go_wp2_with (first
      | (refine wpList_store_row rfl _ _ _ rfl w.heap.size (vC t.kind n x (.slice none 0 0)) rfl rfl 26 _ H4.out.res info_va rfl (vC_one _ _ _) ?_); rw [EW.out]
      | (go_at_call 41; refine (err_yes H5.out.cur).mono ?_; rintro e w' ⟨rfl, rfl⟩)
      | (refine wpList_load_row rfl _ _ rfl w.heap.size rfl 26 _ (0, 0) _ H5.out.res Tryd.underlying26 rfl info_va ?_))
    refine (CK2.out _).mono ?_
    rintro e W7 ⟨rfl, hb⟩
    have H7 := Lib.hid (H5.out.call hb)
    clear hb
    by_cases h0 : z = 0
    · subst h0
      go_wp2_with fail
      have RW := Lib.hid (four_set H7.out.res)
      have LW := Lib.hid (four_low H7.out.low t.kind n x)
      have V0 : W7.cell? ⟨w.heap.size, 0, none⟩ = some (.int .i64 (t.kind : Nat)) := cell_of_row _ _ 0 _ _ _ H7.out.res
      have V1 : W7.cell? ⟨w.heap.size, 1, none⟩ = some (.int .u64 (n : Nat)) := cell_of_row _ _ 1 _ _ _ H7.out.res
      have V2 : W7.cell? ⟨w.heap.size, 2, none⟩ = some (.string x) := cell_of_row _ _ 2 _ _ _ H7.out.res
      have V3 : W7.cell? ⟨w.heap.size, 3, none⟩ = some (.slice none 0 0) := cell_of_row _ _ 3 _ _ _ H7.out.res
      have F0 : W7.frozen? ⟨w.heap.size, 0, none⟩ = false := by simp [World.frozen?, H7.out.res]
      have F1 : W7.frozen? ⟨w.heap.size, 1, none⟩ = false := by simp [World.frozen?, H7.out.res]
      have F2 : W7.frozen? ⟨w.heap.size, 2, none⟩ = false := by simp [World.frozen?, H7.out.res]
      have F3 : W7.frozen? ⟨w.heap.size, 3, none⟩ = false := by simp [World.frozen?, H7.out.res]
      go_region_with (go_at_call 42; refine (AT.out _ _ _ _ (by exact H7.out.cur)).mono ?_; rintro e w' ⟨rfl, rfl⟩)
      all_goals
        clear V0 V1 V2 V3 F0 F1 F2 F3
        go_wp2_with fail
        refine ret_row3 (cs := vC t.kind n x (.slice none 0 0)) rfl rfl rfl rfl rfl Tryd.underlying26 rfl info_va RW.out ?_
        unfold GtOk
        rw [HP.out]
        simp only
        rw [HZ.out, if_pos rfl]
        exact ⟨rfl, LW.out⟩
    · have e0 : ((z : Int) == 0) = false := by simp; omega
      by_cases h2 : z = 2
      · subst h2
        clear h0
        go_wp2_with (refine wpList_store_row rfl _ _ _ rfl w.heap.size (zV) rfl rfl 26 _ H7.out.res info_va rfl zV_one ?_)
        refine ret_row3 (cs := zV) rfl rfl rfl rfl rfl Tryd.underlying26 rfl info_va (setRow_heap _ _ _ _ _ _ H7.out.res) ?_
        unfold GtOk
        rw [HP.out]
        simp only
        rw [HZ.out, if_neg (by omega), if_pos rfl]
        exact ⟨rfl, belowRow H7.out.low (Nat.le_refl _) _⟩
      · have e2 : ((z : Int) == 2) = false := by simp; omega
        have HN := Lib.hid (And.intro h0 h2)
        clear h0 h2
        go_wp2_with (refine wpList_store_row rfl _ _ _ rfl w.heap.size (zV) rfl rfl 26 _ H7.out.res info_va rfl zV_one ?_)
        refine ret_row3 (cs := zV) rfl rfl rfl rfl rfl Tryd.underlying26 rfl info_va (setRow_heap _ _ _ _ _ _ H7.out.res) ?_
        unfold GtOk
        rw [HP.out]
        simp only
        rw [HZ.out, if_neg HN.out.1, if_neg HN.out.2]
        exact ⟨rfl, belowRow H7.out.low (Nat.le_refl _) _⟩
theorem scalar_of {t : Ct} (ht : t ∈ tabA) (hi : t.items = false) : t.kind ≤ 21 := (show ∀ u ∈ tabA, u.items = false → u.kind ≤ 21 by decide +kernel) t ht hi
theorem part_empty (t : Ct) : ∀ {l : List UInt8} {r : Sv × Nat}, partV t l = some r → r.1.items = 0 := by
  intro l r h
  unfold partV at h
  repeat' split at h
  all_goals first | (cases h; done) | skip
  all_goals
    simp only [Option.some.injEq] at h
    subst h
    rfl
/-- amqprim.Get. -/
theorem aget_any (c : Int) (s : ByteArray) (w : World) (hs : s.size < 4294967296) : Calls Tryd.prog 14 #[.int .i64 c, .string s] w
    (GtRet w (getV c s.data.toList).1.kind (getV c s.data.toList).1.n (bs (getV c s.data.toList).1.text) (getV c s.data.toList).2.1 (getV c s.data.toList).2.2) := by
  unfold getV
  rcases of_two c with ⟨e1, e2⟩ | ⟨t, e1, e2, ht, -⟩
  · rw [e2]; exact get_kind c s w _ _ e1 (.inl rfl)
  · rw [e2]
    simp only
    cases hi : t.items
    · have h := get_main c s w t e1 ht hi (scalar_of ht hi) hs
      unfold GtOk at h
      rw [if_neg (by simp)]
      cases hp : partV t s.data.toList with
      | none => rw [hp] at h; exact h
      | some r =>
        rw [hp] at h
        simp only at h ⊢
        by_cases h0 : checkV r.1 = 0
        · simp only [if_pos h0] at h ⊢; exact h
        · simp only [if_neg h0] at h ⊢; exact h
    · rw [if_pos rfl]
      exact get_kind c s w _ _ e1 (.inr ⟨rfl, hi⟩)
end Go.Proofs.YtjbgnlnchchgcaaDoor
