/-
  The contract of amqprim.Check. Condition: a text is below 2^32 bytes, a number what its type holds. The contracts of amqprim.fits and Fits. Condition: a text is below 2^32 bytes, a number what its type holds.
-/
import Derived.Deep.DeepCutAuto
import Derived.Great.Frames
import Derived.Test.YtjbgnlnchchgcaaDoorAmChkP
import Derived.Test.YtjbgnlnchchgcaaDoorAmChkReg
namespace Go.Proofs.YtjbgnlnchchgcaaDoor
open Go.RowKit

/-- A value in its box, as every world since has it. -/
abbrev VS (w : World) (k : Int) (n : Nat) (s : ByteArray) (x : Value) (W : World) : Prop :=
  W.cell? ⟨w.heap.size, 0, none⟩ = some (.int .i64 k) ∧ W.cell? ⟨w.heap.size, 1, none⟩ = some (.int .u64 (n : Nat)) ∧ W.cell? ⟨w.heap.size, 2, none⟩ = some (.string s) ∧ W.cell? ⟨w.heap.size, 3, none⟩ = some x ∧ (Below w.heap.size w W ∧ W.heap[w.heap.size]? = some (.cells (vC k n s x) 26 (0, 0)))
theorem VS.of {w : World} {k : Int} {n : Nat} {s : ByteArray} {x : Value} {W : World} (hb : Below w.heap.size w W) (h : W.heap[w.heap.size]? = some (.cells (vC k n s x) 26 (0, 0))) : VS w k n s x W :=
  ⟨cell_of_row _ _ 0 _ _ _ h, cell_of_row _ _ 1 _ _ _ h, cell_of_row _ _ 2 _ _ _ h, cell_of_row _ _ 3 _ _ _ h, hb, h⟩
theorem VS.start (w : World) (k : Int) (n : Nat) (s : ByteArray) (x : Value) : VS w k n s x (w.alloc (.cells (vC k n s x) 26)) := VS.of (below_box _) (heap_alloc_new w _)
theorem VS.call {w : World} {k : Int} {n : Nat} {s : ByteArray} {x : Value} {W W' : World} (h : VS w k n s x W) (hb : Below W.heap.size W W') : VS w k n s x W' :=
  VS.of (h.2.2.2.2.1.trans (hb.mono h.2.2.2.2.1.size)) ((hb.block _ (lt_of_block h.2.2.2.2.2)).trans h.2.2.2.2.2)
theorem VS.draw {w : World} {k : Int} {n : Nat} {s : ByteArray} {x : Value} {W : World} (h : VS w k n s x W) : VS w k n s x W.drew := VS.of h.2.2.2.2.1.drew h.2.2.2.2.2
set_option maxRecDepth 100000 in
set_option maxHeartbeats 4000000 in
theorem check_any (k : Int) (n : Nat) (s : ByteArray) (A : Option Addr) (m c : Nat) (w : World) (hn : n < 18446744073709551616) (hs : s.size < 4294967296) :
    Calls Tryd.prog 12 #[.agg (vC k n s (.slice A m c))] w fun e W => e = .returned (.int .i64 (checkV (svC k n s.data.toList m) : Nat)) ∧ Below w.heap.size w W := by
  have hl : s.data.toList.length = s.size := by simp
  rw [← chk_eq k n _ m hn (by omega)]
  unfold chkP
  rw [hl]
  have S0 := VS.start w k n s (.slice A m c)
  have HB := Lib.hid S0.2.2.2.2.1
  have S1 := Lib.hid S0.draw
  have T := fun W => textof_any k s W (by omega)
  by_cases h1 : k < 1
  · rw [if_pos (.inl h1)]
    unfold vC at *
    clear hs hn hl T S0
    go_in
    go_wp2_with fail
    go_ret
    exact ⟨rfl, HB.out⟩
  by_cases h2 : 21 < k
  · rw [if_pos (.inr h2)]
    unfold vC at *
    clear hs hn hl T S0
    go_in
    go_wp2_with fail
    go_ret
    exact ⟨rfl, HB.out⟩
  rw [if_neg (by omega)]
  have WD := Lib.hid (fun V (h : VS w k n s (.slice A m c) V) => (widest_any k V).mono fun e W' hh => (⟨hh.1, h.call hh.2⟩ : _ ∧ VS w k n s (.slice A m c) W'))
  have RM := fun V (h : VS w k n s (.slice A m c) V) => (room_any (lastK tabS k) k n s (.slice A m c) V hn (by omega) (wid_last (by omega) (by omega))).mono fun e W' hh => (⟨hh.1, h.call hh.2⟩ : _ ∧ VS w k n s (.slice A m c) W')
  have NM := fun V (h : VS w k n s (.slice A m c) V) => (numof_any k n V).mono fun e W' (hh : _ ∧ V = W') => (⟨hh.1, hh.2 ▸ h⟩ : _ ∧ VS w k n s (.slice A m c) W')
  obtain ⟨r, hr⟩ : ∃ r, roomP (lastK tabS k) k n s.data.toList = r := ⟨_, rfl⟩
  obtain ⟨q, hq⟩ : ∃ q, numP k n = q := ⟨_, rfl⟩
  obtain ⟨u, hu⟩ : ∃ u, textP k s.data.toList = u := ⟨_, rfl⟩
  rw [hr] at RM ⊢
  rw [hq] at NM ⊢
  rw [hu] at T ⊢
  have hs1 : (s.size : Int) < 4294967296 := by omega
  clear hl hn hr hq hu S0 hs
  replace RM := Lib.hid RM
  replace NM := Lib.hid NM
  replace T := Lib.hid T
  cases r
  · rw [Bool.false_and, Bool.false_and, if_pos rfl]
    unfold vC at S1 ⊢
    go_in
    go_wp2_with fail
    refine chk_room (S := fun V => VS w k n s (.slice A m c) V) (g := w.heap.size) (C := vC k n s (.slice A m c)) (D := ctC (lastK tabS k)) (k := k) S1.out rfl (fun W h => h.2.2.2.2.2) (fun W h => h.1) WD.out RM.out ?_
    intro W h
    have HW := Lib.hid h.2.2.2.2.1
    clear h
    go_wp2_with fail
    go_ret
    exact ⟨rfl, HW.out⟩
  · rw [Bool.true_and]
    cases q
    · rw [Bool.false_and, if_pos rfl]
      unfold vC at S1 ⊢
      go_in
      go_wp2_with fail
      refine chk_num (S := fun V => VS w k n s (.slice A m c) V) (g := w.heap.size) (C := vC k n s (.slice A m c)) (D := ctC (lastK tabS k)) (k := k) (n := (n : Nat)) S1.out rfl (fun W h => h.2.2.2.2.2) (fun W h => h.1) (fun W h => h.2.1) WD.out RM.out NM.out ?_
      intro W h
      have HW := Lib.hid h.2.2.2.2.1
      clear h
      go_wp2_with fail
      go_ret
      exact ⟨rfl, HW.out⟩
    · rw [Bool.true_and]
      by_cases hm : m = 0
      · subst hm
        rw [if_neg (by simp)]
        by_cases h4 : 1048576 < s.size
        · rw [if_pos h4]
          have e4 : (1048576 : Int) < (s.size : Int) := by omega
          clear h4
          unfold vC at S1 ⊢
          go_in
          go_wp2_with fail
          refine chk_len (S := fun V => VS w k n s (.slice A 0 c) V) (g := w.heap.size) (m := 0) (c := c) (A := A) (z := false) (C := vC k n s (.slice A 0 c)) (D := ctC (lastK tabS k)) (k := k) (n := (n : Nat)) S1.out rfl (fun W h => h.2.2.2.2.2) (fun W h => h.1) (fun W h => h.2.1) (fun W h => h.2.2.2.1) rfl WD.out RM.out NM.out ?_
          intro W h
          have HW := Lib.hid h.2.2.2.2.1
          obtain ⟨c0, c1, c2, c3, -⟩ := h
          go_wp2_with fail
          go_ret
          exact ⟨rfl, HW.out⟩
        · rw [if_neg h4]
          have e4 : ((1048576 : Int) < (s.size : Int)) = False := eq_false (by omega)
          clear h4
          cases u
          all_goals
            unfold vC at S1 ⊢
            go_in
            go_wp2_with fail
            refine chk_len (S := fun V => VS w k n s (.slice A 0 c) V) (g := w.heap.size) (m := 0) (c := c) (A := A) (z := false) (C := vC k n s (.slice A 0 c)) (D := ctC (lastK tabS k)) (k := k) (n := (n : Nat)) S1.out rfl (fun W h => h.2.2.2.2.2) (fun W h => h.1) (fun W h => h.2.1) (fun W h => h.2.2.2.1) rfl WD.out RM.out NM.out ?_
            intro W h
            have HW := Lib.hid h.2.2.2.2.1
            obtain ⟨c0, c1, c2, c3, -⟩ := h
            clear HB S1 h1 h2 WD RM NM c1 c3
            go_wp2_with fail
            refine (T.out _).mono ?_
            rintro e w2 ⟨rfl, hb2⟩
            replace hb2 := Lib.hid hb2
            clear c0 c2 e4 hs1 T
            go_wp2_with fail
            go_ret
            exact ⟨rfl, HW.out.trans (hb2.out.mono HW.out.size)⟩
      · rw [if_pos (by simpa using hm)]
        unfold vC at S1 ⊢
        go_in
        go_wp2_with fail
        refine chk_len (S := fun V => VS w k n s (.slice A m c) V) (g := w.heap.size) (m := m) (c := c) (A := A) (z := true) (C := vC k n s (.slice A m c)) (D := ctC (lastK tabS k)) (k := k) (n := (n : Nat)) S1.out rfl (fun W h => h.2.2.2.2.2) (fun W h => h.1) (fun W h => h.2.1) (fun W h => h.2.2.2.1) (by simp; omega) WD.out RM.out NM.out ?_
        intro W h
        have HW := Lib.hid h.2.2.2.2.1
        clear h
        go_wp2_with fail
        go_ret
        exact ⟨rfl, HW.out⟩
open Go.RowKit

/-- What amqprim.fits goes by. -/
def fitB (c k : Int) (n : Nat) (l : List UInt8) : Bool := match ofA c with | none => false | some t => (t.kind : Int) == k && roomP t k n l
theorem of_two (c : Int) : (ofT c = (Ct.zero, false) ∧ ofA c = none) ∨ ∃ t, ofT c = (t, true) ∧ ofA c = some t ∧ t ∈ tabA ∧ (t.code : Int) = c := by
  unfold ofT
  cases h : ofA c with
  | none => exact .inl ⟨rfl, rfl⟩
  | some t => exact .inr ⟨t, rfl, rfl, of_mem h⟩
theorem fit_eq {c : Int} {v : Sv} (hn : v.n < 18446744073709551616) (h : checkV v = 0) : fitB c v.kind v.n v.text = fitsV c v := by
  unfold fitB fitsV
  cases hc : ofA c with
  | none => rfl
  | some t =>
    simp only
    by_cases hk : (t.kind : Int) = v.kind
    · rw [room_fits t (of_mem hc).1 v hk hn h, h]; simp
    · rw [show ((t.kind : Int) == v.kind) = false by simpa using hk]; simp
theorem fit_bad {c : Int} {v : Sv} (h : checkV v ≠ 0) : fitsV c v = false := by
  unfold fitsV
  cases ofA c with
  | none => rfl
  | some t => simp [h]
set_option maxRecDepth 100000 in
set_option maxHeartbeats 2000000 in
theorem fits_small (c k : Int) (n : Nat) (s : ByteArray) (A : Option Addr) (m cp : Nat) (w : World) (hk : 1 ≤ k ∧ k ≤ 21) (hn : n < 18446744073709551616) (hs : s.size < 4294967296) :
    Calls Tryd.prog 43 #[.int .i64 c, .agg (vC k n s (.slice A m cp))] w fun e W => e = .returned (.bool (fitB c k n s.data.toList)) ∧ Below w.heap.size w W := by
  have OF := of_any c (w.alloc (.cells (vC k n s (.slice A m cp)) 26))
  have S0 := VS.start w k n s (.slice A m cp)
  unfold fitB
  rcases of_two c with ⟨e1, e2⟩ | ⟨t, e1, e2, ht, -⟩
  · rw [e1] at OF
    rw [e2]
    have OF := Lib.hid OF
    have HB := Lib.hid S0.2.2.2.2.1
    clear S0
    unfold vC at *
    unfold Ct.zero ctC at *
    go_in
    go_wp2_with (go_at_call 13; refine (OF.out).mono ?_; rintro e W ⟨rfl, hb⟩)
    go_ret
    exact ⟨rfl, (HB.out.trans (hb.mono HB.out.size)).alloc (by have := HB.out.size; have := hb.size; omega) _⟩
  · rw [e1] at OF
    rw [e2]
    have OF := Lib.hid OF
    have HS := Lib.hid S0
    simp only
    by_cases hkk : (t.kind : Int) = k
    · have RM := fun W => room_any t k n s (.slice A m cp) W hn (by omega) (by rw [← hkk]; exact tab_small t ht (by omega))
      rw [show ((t.kind : Int) == k) = true by simpa using hkk, Bool.true_and]
      unfold RoomC at RM
      generalize roomP t k n s.data.toList = b at *
      replace RM := Lib.hid RM
      subst hkk
      clear ht hn hs hk S0 e1 e2
      unfold vC ctC at *
      go_in
      go_wp2_with fail
      refine (OF.out).mono ?_
      rintro e W ⟨rfl, hb⟩
      have HV := Lib.hid ((HS.out.call hb).call (below_box (.cells (ctC t) 32)))
      unfold ctC at HV
      obtain ⟨c0, c1, c2, c3, -⟩ := HV.out
      clear hb
      go_wp2_with (go_at_call 32; refine (RM.out _).mono ?_; rintro e W' ⟨rfl, hb2⟩)
      go_ret
      exact ⟨by simp, HV.out.2.2.2.2.1.trans (hb2.mono HV.out.2.2.2.2.1.size)⟩
    · have e3 : ((t.kind : Int) == k) = false := by simpa using hkk
      rw [e3, Bool.false_and]
      clear ht hn hs hk S0 e1 e2 hkk
      unfold vC ctC at *
      go_in
      go_wp2_with fail
      refine (OF.out).mono ?_
      rintro e W ⟨rfl, hb⟩
      have HV := Lib.hid ((HS.out.call hb).call (below_box (.cells (ctC t) 32)))
      unfold ctC at HV
      obtain ⟨c0, c1, c2, c3, -⟩ := HV.out
      clear hb
      go_wp2_with fail
      go_ret
      exact ⟨by simp_all, HV.out.2.2.2.2.1⟩
set_option maxRecDepth 100000 in
set_option maxHeartbeats 2000000 in
theorem fits_any (c k : Int) (n : Nat) (s : ByteArray) (A : Option Addr) (m cp : Nat) (w : World) (hn : n < 18446744073709551616) (hs : s.size < 4294967296) :
    Calls Tryd.prog 20 #[.int .i64 c, .agg (vC k n s (.slice A m cp))] w fun e W => e = .returned (.bool (fitsV c (svC k n s.data.toList m))) ∧ Below w.heap.size w W := by
  have CH := check_any k n s A m cp (w.alloc (.cells (vC k n s (.slice A m cp)) 26)) hn hs
  have HS := Lib.hid (VS.start w k n s (.slice A m cp))
  by_cases h : checkV (svC k n s.data.toList m) = 0
  · have hk := (check_v h).1
    have FS := fun W => fits_small c k n s A m cp W hk hn hs
    have E := fit_eq (c := c) (v := svC k n s.data.toList m) hn h
    rw [show fitB c (svC k n s.data.toList m).kind (svC k n s.data.toList m).n (svC k n s.data.toList m).text = fitB c k n s.data.toList from rfl] at E
    rw [E] at FS
    rw [h] at CH
    generalize fitsV c (svC k n s.data.toList m) = b at *
    replace FS := Lib.hid FS
    replace CH := Lib.hid CH
    clear hn hs h hk E
    unfold vC at *
    go_in
    go_wp2_with fail
    refine (CH.out).mono ?_
    rintro e W ⟨rfl, hb⟩
    have HV := Lib.hid (HS.out.call hb)
    obtain ⟨c0, c1, c2, c3, -⟩ := HV.out
    clear hb
    go_wp2_with (go_at_call 43; refine (FS.out _).mono ?_; rintro e W' ⟨rfl, hb2⟩)
    go_ret
    exact ⟨by simp, HV.out.2.2.2.2.1.trans (hb2.mono HV.out.2.2.2.2.1.size)⟩
  · rw [fit_bad h]
    obtain ⟨z, hz⟩ : ∃ z, checkV (svC k n s.data.toList m) = z := ⟨_, rfl⟩
    rw [hz] at CH h
    have h0 : ((z : Int) == 0) = false := by simp; omega
    replace CH := Lib.hid CH
    clear hn hs h hz
    unfold vC at *
    go_in
    go_wp2_with fail
    refine (CH.out).mono ?_
    rintro e W ⟨rfl, hb⟩
    have HV := Lib.hid (HS.out.call hb)
    clear hb
    go_wp2_with fail
    go_ret
    exact ⟨by simp_all, HV.out.2.2.2.2.1⟩
end Go.Proofs.YtjbgnlnchchgcaaDoor
