/-
  The contracts of amqprim.fits and Fits. Condition: a text is below 2^32 bytes, a number what its type holds.
-/
import Derived.Test.YtjbgnlnchchgcaaDoorAmCheck
namespace Go.Proofs.YtjbgnlnchchgcaaDoor
open Go.RowKit

/-- What amqprim.fits goes by. -/
def fitB (c k : Int) (n : Nat) (l : List UInt8) : Bool := match ofA c with | none => false | some t => (t.kind : Int) == k && roomP t k n l
theorem of_two (c : Int) : (ofT c = (Ct.zero, false) ∧ ofA c = none) ∨ ∃ t, ofT c = (t, true) ∧ ofA c = some t ∧ t ∈ tabA ∧ (t.code : Int) = c := by
  unfold ofT
  cases h : ofA c with
  | none => exact .inl ⟨rfl, rfl⟩
  | some t => exact .inr ⟨t, rfl, rfl, of_mem h⟩
theorem fit_eq {c : Int} {v : Sv} (hn : v.n < 18446744073709551616) (h : checkV v = 0) : fitB c v.kind v.n v.text = fitsV c v := by
  unfold fitB fitsV
  cases hc : ofA c with
  | none => rfl
  | some t =>
    simp only
    by_cases hk : (t.kind : Int) = v.kind
    · rw [room_fits t (of_mem hc).1 v hk hn h, h]; simp
    · rw [show ((t.kind : Int) == v.kind) = false by simpa using hk]; simp
theorem fit_bad {c : Int} {v : Sv} (h : checkV v ≠ 0) : fitsV c v = false := by
  unfold fitsV
  cases ofA c with
  | none => rfl
  | some t => simp [h]
set_option maxRecDepth 100000 in
set_option maxHeartbeats 2000000 in
theorem fits_small (c k : Int) (n : Nat) (s : ByteArray) (A : Option Addr) (m cp : Nat) (w : World) (hk : 1 ≤ k ∧ k ≤ 21) (hn : n < 18446744073709551616) (hs : s.size < 4294967296) :
    Calls Tryd.prog 43 #[.int .i64 c, .agg (vC k n s (.slice A m cp))] w fun e W => e = .returned (.bool (fitB c k n s.data.toList)) ∧ Below w.heap.size w W := by
  have OF := of_any c (w.alloc (.cells (vC k n s (.slice A m cp)) 26))
  have S0 := VS.start w k n s (.slice A m cp)
  unfold fitB
  rcases of_two c with ⟨e1, e2⟩ | ⟨t, e1, e2, ht, -⟩
  · rw [e1] at OF
    rw [e2]
    have OF := Lib.hid OF
    have HB := Lib.hid S0.2.2.2.2.1
    clear S0
    unfold vC at *
    unfold Ct.zero ctC at *
    go_in
    go_wp2_with (go_at_call 13; refine (OF.out).mono ?_; rintro e W ⟨rfl, hb⟩)
    go_ret
    exact ⟨rfl, (HB.out.trans (hb.mono HB.out.size)).alloc (by have := HB.out.size; have := hb.size; omega) _⟩
  · rw [e1] at OF
    rw [e2]
    have OF := Lib.hid OF
    have HS := Lib.hid S0
    simp only
    by_cases hkk : (t.kind : Int) = k
    · have RM := fun W => room_any t k n s (.slice A m cp) W hn (by omega) (by rw [← hkk]; exact tab_small t ht (by omega))
      rw [show ((t.kind : Int) == k) = true by simpa using hkk, Bool.true_and]
      unfold RoomC at RM
      generalize roomP t k n s.data.toList = b at *
      replace RM := Lib.hid RM
      subst hkk
      clear ht hn hs hk S0 e1 e2
      unfold vC ctC at *
      go_in
      go_wp2_with fail
      refine (OF.out).mono ?_
      rintro e W ⟨rfl, hb⟩
      have HV := Lib.hid ((HS.out.call hb).call (below_box (.cells (ctC t) 32)))
      unfold ctC at HV
      obtain ⟨c0, c1, c2, c3, -⟩ := HV.out
      clear hb
      go_wp2_with (go_at_call 32; refine (RM.out _).mono ?_; rintro e W' ⟨rfl, hb2⟩)
      go_ret
      exact ⟨by simp, HV.out.2.2.2.2.1.trans (hb2.mono HV.out.2.2.2.2.1.size)⟩
    · have e3 : ((t.kind : Int) == k) = false := by simpa using hkk
      rw [e3, Bool.false_and]
      clear ht hn hs hk S0 e1 e2 hkk
      unfold vC ctC at *
      go_in
      go_wp2_with fail
      refine (OF.out).mono ?_
      rintro e W ⟨rfl, hb⟩
      have HV := Lib.hid ((HS.out.call hb).call (below_box (.cells (ctC t) 32)))
      unfold ctC at HV
      obtain ⟨c0, c1, c2, c3, -⟩ := HV.out
      clear hb
      go_wp2_with fail
      go_ret
      exact ⟨by simp_all, HV.out.2.2.2.2.1⟩
set_option maxRecDepth 100000 in
set_option maxHeartbeats 2000000 in
theorem fits_any (c k : Int) (n : Nat) (s : ByteArray) (A : Option Addr) (m cp : Nat) (w : World) (hn : n < 18446744073709551616) (hs : s.size < 4294967296) :
    Calls Tryd.prog 20 #[.int .i64 c, .agg (vC k n s (.slice A m cp))] w fun e W => e = .returned (.bool (fitsV c (svC k n s.data.toList m))) ∧ Below w.heap.size w W := by
  have CH := check_any k n s A m cp (w.alloc (.cells (vC k n s (.slice A m cp)) 26)) hn hs
  have HS := Lib.hid (VS.start w k n s (.slice A m cp))
  by_cases h : checkV (svC k n s.data.toList m) = 0
  · have hk := (check_v h).1
    have FS := fun W => fits_small c k n s A m cp W hk hn hs
    have E := fit_eq (c := c) (v := svC k n s.data.toList m) hn h
    rw [show fitB c (svC k n s.data.toList m).kind (svC k n s.data.toList m).n (svC k n s.data.toList m).text = fitB c k n s.data.toList from rfl] at E
    rw [E] at FS
    rw [h] at CH
    generalize fitsV c (svC k n s.data.toList m) = b at *
    replace FS := Lib.hid FS
    replace CH := Lib.hid CH
    clear hn hs h hk E
    unfold vC at *
    go_in
    go_wp2_with fail
    refine (CH.out).mono ?_
    rintro e W ⟨rfl, hb⟩
    have HV := Lib.hid (HS.out.call hb)
    obtain ⟨c0, c1, c2, c3, -⟩ := HV.out
    clear hb
    go_wp2_with (go_at_call 43; refine (FS.out _).mono ?_; rintro e W' ⟨rfl, hb2⟩)
    go_ret
    exact ⟨by simp, HV.out.2.2.2.2.1.trans (hb2.mono HV.out.2.2.2.2.1.size)⟩
  · rw [fit_bad h]
    obtain ⟨z, hz⟩ : ∃ z, checkV (svC k n s.data.toList m) = z := ⟨_, rfl⟩
    rw [hz] at CH h
    have h0 : ((z : Int) == 0) = false := by simp; omega
    replace CH := Lib.hid CH
    clear hn hs h hz
    unfold vC at *
    go_in
    go_wp2_with fail
    refine (CH.out).mono ?_
    rintro e W ⟨rfl, hb⟩
    have HV := Lib.hid (HS.out.call hb)
    clear hb
    go_wp2_with fail
    go_ret
    exact ⟨by simp_all, HV.out.2.2.2.2.1⟩
end Go.Proofs.YtjbgnlnchchgcaaDoor
