/-
  The walk of ConnectAnswers. No condition.
-/
import Derived.Test.YtbgpcmbaodjibaaK52
namespace Go.Proofs.Ytbgpcmbaodjibaa
open Go.RowKit

theorem ack_used (b : Bool) (c : Int) : ackP b c = usedC (ackP b c) := by
  have hk : (ackP b c).kind = 2 := rfl
  unfold usedC
  rw [if_pos hk]
  rfl
theorem ack_valid (v : Int) (b : Bool) (c : Int) (hv : v = 4 ∨ v = 5) : validC v (ackP b c) = if ((if v = 4 then returnR c else mayR 2 c) && (!b || c == 0)) = true then 0 else 2 := by
  have hok : okC v (ackP b c) = ((if v = 4 then returnR c else mayR 2 c) && (!b || c == 0)) := by
    unfold okC
    rw [← ack_used]
    rcases hv with rfl | rfl <;> simp [versC, ackP, Pk.zero]
  unfold validC
  rw [hok]
  cases ((if v = 4 then returnR c else mayR 2 c) && (!b || c == 0)) with
  | false => rfl
  | true =>
    have a1 : ¬ (validOf (ackP b c).client && validOf (ackP b c).user) = false := (by decide +kernel : ¬ (validOf [] && validOf []) = false)
    have a2 : ¬ ((ackP b c).hasWill && !nameL (ackP b c).wTopic) = true := (by decide : ¬ (false && !nameL []) = true)
    have a3 : ¬ (65535 < (ackP b c).wPayload.length ∨ 65535 < (ackP b c).pass.length) := (by decide : ¬ (65535 < ([] : List UInt8).length ∨ 65535 < ([] : List UInt8).length))
    rw [if_neg (by decide), if_neg a1, if_neg a2, if_neg a3]
    have h1 : rightC v (ackP b c).kind (ackP b c).props = 0 := by unfold rightC; split <;> rfl
    have h2 : rightC v 16 (ackP b c).wProps = 0 := by unfold rightC; split <;> rfl
    rw [h1, h2]; rfl
theorem ack_yes (v : Int) (b : Bool) (c : Int) (hv : v = 4 ∨ v = 5) (h : ((if v = 4 then returnR c else mayR 2 c) && (!b || c == 0)) = true) : bodyC v (ackP b c) = (UInt8.ofNat (bitC b 1) :: UInt8.ofNat c.toNat :: (if v = 5 then [0] else []), 0) := by
  have hk : (ackP b c).kind = 2 := rfl
  unfold bodyC
  rw [ack_valid v b c hv, if_pos h, if_neg (by simp), rawC, if_pos hk]
  have : tailC v 2 (ackP b c).props = if v = 5 then [0] else [] := by
    unfold tailC
    split
    · exact (by decide : (bytesP 2 []).1 = [0])
    · rfl
  rw [this]; rfl
theorem ack_no (v : Int) (b : Bool) (c : Int) (hv : v = 4 ∨ v = 5) (h : ((if v = 4 then returnR c else mayR 2 c) && (!b || c == 0)) = false) : bodyC v (ackP b c) = ([], 2) := by
  unfold bodyC
  rw [ack_valid v b c hv, h]; rfl
/-- What Body answers. -/
structure AnsIs (b : Bool) (c : Int) (A B : ByteArray) (e f : Nat) : Prop where
  a : ∀ W, Calls Try.prog 5 #[.int .i64 4, .agg (pkC (ackP b c) adZ)] W fun x w' => x = .returned (.tuple #[.string A, .int .i64 (e : Nat)]) ∧ Below W.heap.size W w'
  b : ∀ W, Calls Try.prog 5 #[.int .i64 5, .agg (pkC (ackP b c) adZ)] W fun x w' => x = .returned (.tuple #[.string B, .int .i64 (f : Nat)]) ∧ Below W.heap.size W w'
theorem ans_is (b : Bool) (c : Int) {a d : List UInt8} {e f : Nat} (h4 : bodyC 4 (ackP b c) = (a, e)) (h5 : bodyC 5 (ackP b c) = (d, f)) : AnsIs b c (bs a) (bs d) e f :=
  ⟨fun W => by have := ack_body 4 b c W; rw [h4] at this; exact this, fun W => by have := ack_body 5 b c W; rw [h5] at this; exact this⟩
set_option maxRecDepth 100000 in
set_option maxHeartbeats 1000000 in
theorem ans_zero (b : Bool) (A B : ByteArray) (w : World) (h : AnsIs b 0 A B 0 0) (hA : A.size = 2) (hB : B.size = 3) (h2 : (B[2]'(by omega)).toNat = 0) (he : (A.toList == (B.extract 0 2).toList) = true) :
    Calls Try.prog 3 #[.bool b, .int .i64 0] w fun e w' => e = .returned (.bool true) ∧ Below w.heap.size w w' := by
  have HA := h.a
  have HBo := h.b
  obtain ⟨D, hD⟩ : ∃ D, pkC (ackP b 0) adZ = D := ⟨_, rfl⟩
  have hD1 := pkC_size (ackP b 0) adZ
  have hD2 := pkC_one (ackP b 0) adZ
  rw [hD] at HA HBo hD1 hD2
  have HA := Lib.hid HA
  have HBo := Lib.hid HBo
  have HD := Lib.hid hD
  have HD1 := Lib.hid hD1
  have HD2 := Lib.hid hD2
  have HZ := Lib.hid pkZ_size
  have hzv := zero_pk
  have hne : ¬ pkZ = #[] := by intro h; have := pkZ_size; rw [h] at this; cases this
  clear hD hD1 hD2 h
  go_enter Try.func3, Try.ntmps3
  go_wp2_with fail
  refine (lives_con _).mono ?_
  rintro e W ⟨rfl, hb⟩
  have B1 := Lib.hid hb
  clear hb
  go_wp2_with (first
    | (refine wpList_buildTo rfl 29 _ rfl (some 14) rfl D (by rw [← HD.out]; kernel_rfl) ?_)
    | (refine wpList_store_row rfl _ _ _ rfl W.heap.size D rfl rfl 29 _ (heap_alloc_new W _) (by rw [HD1.out]; exact info_pk) (by rw [HZ.out, HD1.out]) HD2.out ?_)
    | (refine wpList_load_row rfl _ _ rfl W.heap.size rfl 29 _ (0, 0) _ (setRow_heap _ _ _ _ _ _ (heap_alloc_new W _)) Try.underlying29 rfl (by rw [HD1.out]; exact info_pk) ?_))
  refine (HA.out _).mono ?_
  rintro e2 W2 ⟨rfl, hb⟩
  have B2 := Lib.hid (below_then (belowRow (below_then B1.out (below_box _)) B1.out.size D) hb)
  have R2 := Lib.hid ((hb.block _ (lt_of_block (setRow_heap _ _ _ _ _ _ (heap_alloc_new W _)))).trans (setRow_heap _ _ _ _ _ _ (heap_alloc_new W (.cells pkZ 29))))
  clear hb
  go_wp2_with (refine wpList_load_row rfl _ _ rfl W.heap.size rfl 29 D (0, 0) _ R2.out Try.underlying29 rfl (by rw [HD1.out]; exact info_pk) ?_)
  refine (HBo.out _).mono ?_
  rintro e3 W3 ⟨rfl, hb⟩
  have B3 := Lib.hid (below_then B2.out hb)
  clear hb
  go_wp2_with fail
  all_goals
    go_ret
    exact ⟨rfl, B3.out⟩
set_option maxRecDepth 100000 in
set_option maxHeartbeats 1000000 in
theorem ans_tneg (c : Int) (A B : ByteArray) (w : World) (h : AnsIs true c A B 2 2) (_hc : (c == 0) = false) (_hn : (c != 0) = true) (c0 : c < 0) :
    Calls Try.prog 3 #[.bool true, .int .i64 c] w fun e w' => e = .returned (.bool true) ∧ Below w.heap.size w w' := by
  have HA := h.a
  have HBo := h.b
  obtain ⟨D, hD⟩ : ∃ D, pkC (ackP true c) adZ = D := ⟨_, rfl⟩
  have hD1 := pkC_size (ackP true c) adZ
  have hD2 := pkC_one (ackP true c) adZ
  rw [hD] at HA HBo hD1 hD2
  have HA := Lib.hid HA
  have HBo := Lib.hid HBo
  have HD := Lib.hid hD
  have HD1 := Lib.hid hD1
  have HD2 := Lib.hid hD2
  have HZ := Lib.hid pkZ_size
  have hzv := zero_pk
  have hne : ¬ pkZ = #[] := by intro h; have := pkZ_size; rw [h] at this; cases this
  clear hD hD1 hD2 h
  go_enter Try.func3, Try.ntmps3
  go_wp2_with fail
  refine (lives_con _).mono ?_
  rintro e W ⟨rfl, hb⟩
  have B1 := Lib.hid hb
  clear hb
  go_wp2_with (first
    | (refine wpList_buildTo rfl 29 _ rfl (some 14) rfl D (by rw [← HD.out]; kernel_rfl) ?_)
    | (refine wpList_store_row rfl _ _ _ rfl W.heap.size D rfl rfl 29 _ (heap_alloc_new W _) (by rw [HD1.out]; exact info_pk) (by rw [HZ.out, HD1.out]) HD2.out ?_)
    | (refine wpList_load_row rfl _ _ rfl W.heap.size rfl 29 _ (0, 0) _ (setRow_heap _ _ _ _ _ _ (heap_alloc_new W _)) Try.underlying29 rfl (by rw [HD1.out]; exact info_pk) ?_))
  refine (HA.out _).mono ?_
  rintro e2 W2 ⟨rfl, hb⟩
  have B2 := Lib.hid (below_then (belowRow (below_then B1.out (below_box _)) B1.out.size D) hb)
  have R2 := Lib.hid ((hb.block _ (lt_of_block (setRow_heap _ _ _ _ _ _ (heap_alloc_new W _)))).trans (setRow_heap _ _ _ _ _ _ (heap_alloc_new W (.cells pkZ 29))))
  clear hb
  go_wp2_with (refine wpList_load_row rfl _ _ rfl W.heap.size rfl 29 D (0, 0) _ R2.out Try.underlying29 rfl (by rw [HD1.out]; exact info_pk) ?_)
  refine (HBo.out _).mono ?_
  rintro e3 W3 ⟨rfl, hb⟩
  have B3 := Lib.hid (below_then B2.out hb)
  clear hb
  go_wp2_with fail
  all_goals
    go_ret
    exact ⟨rfl, B3.out⟩
set_option maxRecDepth 100000 in
set_option maxHeartbeats 1000000 in
theorem ans_tlow (c : Int) (A B : ByteArray) (w : World) (h : AnsIs true c A B 2 2) (_hc : (c == 0) = false) (_hn : (c != 0) = true) (c0 : ¬ c < 0) (c5 : ¬ 5 < c) :
    Calls Try.prog 3 #[.bool true, .int .i64 c] w fun e w' => e = .returned (.bool true) ∧ Below w.heap.size w w' := by
  have HA := h.a
  have HBo := h.b
  obtain ⟨D, hD⟩ : ∃ D, pkC (ackP true c) adZ = D := ⟨_, rfl⟩
  have hD1 := pkC_size (ackP true c) adZ
  have hD2 := pkC_one (ackP true c) adZ
  rw [hD] at HA HBo hD1 hD2
  have HA := Lib.hid HA
  have HBo := Lib.hid HBo
  have HD := Lib.hid hD
  have HD1 := Lib.hid hD1
  have HD2 := Lib.hid hD2
  have HZ := Lib.hid pkZ_size
  have hzv := zero_pk
  have hne : ¬ pkZ = #[] := by intro h; have := pkZ_size; rw [h] at this; cases this
  clear hD hD1 hD2 h
  go_enter Try.func3, Try.ntmps3
  go_wp2_with fail
  refine (lives_con _).mono ?_
  rintro e W ⟨rfl, hb⟩
  have B1 := Lib.hid hb
  clear hb
  go_wp2_with (first
    | (refine wpList_buildTo rfl 29 _ rfl (some 14) rfl D (by rw [← HD.out]; kernel_rfl) ?_)
    | (refine wpList_store_row rfl _ _ _ rfl W.heap.size D rfl rfl 29 _ (heap_alloc_new W _) (by rw [HD1.out]; exact info_pk) (by rw [HZ.out, HD1.out]) HD2.out ?_)
    | (refine wpList_load_row rfl _ _ rfl W.heap.size rfl 29 _ (0, 0) _ (setRow_heap _ _ _ _ _ _ (heap_alloc_new W _)) Try.underlying29 rfl (by rw [HD1.out]; exact info_pk) ?_))
  refine (HA.out _).mono ?_
  rintro e2 W2 ⟨rfl, hb⟩
  have B2 := Lib.hid (below_then (belowRow (below_then B1.out (below_box _)) B1.out.size D) hb)
  have R2 := Lib.hid ((hb.block _ (lt_of_block (setRow_heap _ _ _ _ _ _ (heap_alloc_new W _)))).trans (setRow_heap _ _ _ _ _ _ (heap_alloc_new W (.cells pkZ 29))))
  clear hb
  go_wp2_with (refine wpList_load_row rfl _ _ rfl W.heap.size rfl 29 D (0, 0) _ R2.out Try.underlying29 rfl (by rw [HD1.out]; exact info_pk) ?_)
  refine (HBo.out _).mono ?_
  rintro e3 W3 ⟨rfl, hb⟩
  have B3 := Lib.hid (below_then B2.out hb)
  clear hb
  go_wp2_with fail
  all_goals
    go_ret
    exact ⟨rfl, B3.out⟩
set_option maxRecDepth 100000 in
set_option maxHeartbeats 1000000 in
theorem ans_thigh (c : Int) (A B : ByteArray) (w : World) (h : AnsIs true c A B 2 2) (_hc : (c == 0) = false) (_hn : (c != 0) = true) (c0 : ¬ c < 0) (c5 : 5 < c) :
    Calls Try.prog 3 #[.bool true, .int .i64 c] w fun e w' => e = .returned (.bool true) ∧ Below w.heap.size w w' := by
  have HA := h.a
  have HBo := h.b
  obtain ⟨D, hD⟩ : ∃ D, pkC (ackP true c) adZ = D := ⟨_, rfl⟩
  have hD1 := pkC_size (ackP true c) adZ
  have hD2 := pkC_one (ackP true c) adZ
  rw [hD] at HA HBo hD1 hD2
  have HA := Lib.hid HA
  have HBo := Lib.hid HBo
  have HD := Lib.hid hD
  have HD1 := Lib.hid hD1
  have HD2 := Lib.hid hD2
  have HZ := Lib.hid pkZ_size
  have hzv := zero_pk
  have hne : ¬ pkZ = #[] := by intro h; have := pkZ_size; rw [h] at this; cases this
  clear hD hD1 hD2 h
  go_enter Try.func3, Try.ntmps3
  go_wp2_with fail
  refine (lives_con _).mono ?_
  rintro e W ⟨rfl, hb⟩
  have B1 := Lib.hid hb
  clear hb
  go_wp2_with (first
    | (refine wpList_buildTo rfl 29 _ rfl (some 14) rfl D (by rw [← HD.out]; kernel_rfl) ?_)
    | (refine wpList_store_row rfl _ _ _ rfl W.heap.size D rfl rfl 29 _ (heap_alloc_new W _) (by rw [HD1.out]; exact info_pk) (by rw [HZ.out, HD1.out]) HD2.out ?_)
    | (refine wpList_load_row rfl _ _ rfl W.heap.size rfl 29 _ (0, 0) _ (setRow_heap _ _ _ _ _ _ (heap_alloc_new W _)) Try.underlying29 rfl (by rw [HD1.out]; exact info_pk) ?_))
  refine (HA.out _).mono ?_
  rintro e2 W2 ⟨rfl, hb⟩
  have B2 := Lib.hid (below_then (belowRow (below_then B1.out (below_box _)) B1.out.size D) hb)
  have R2 := Lib.hid ((hb.block _ (lt_of_block (setRow_heap _ _ _ _ _ _ (heap_alloc_new W _)))).trans (setRow_heap _ _ _ _ _ _ (heap_alloc_new W (.cells pkZ 29))))
  clear hb
  go_wp2_with (refine wpList_load_row rfl _ _ rfl W.heap.size rfl 29 D (0, 0) _ R2.out Try.underlying29 rfl (by rw [HD1.out]; exact info_pk) ?_)
  refine (HBo.out _).mono ?_
  rintro e3 W3 ⟨rfl, hb⟩
  have B3 := Lib.hid (below_then B2.out hb)
  clear hb
  go_wp2_with fail
  all_goals
    go_ret
    exact ⟨rfl, B3.out⟩
set_option maxRecDepth 100000 in
set_option maxHeartbeats 1000000 in
theorem ans_fneg (c : Int) (A B : ByteArray) (w : World) (h : AnsIs false c A B 2 2) (_hc : (c == 0) = false) (_hn : (c != 0) = true) (c0 : c < 0) :
    Calls Try.prog 3 #[.bool false, .int .i64 c] w fun e w' => e = .returned (.bool true) ∧ Below w.heap.size w w' := by
  have HA := h.a
  have HBo := h.b
  obtain ⟨D, hD⟩ : ∃ D, pkC (ackP false c) adZ = D := ⟨_, rfl⟩
  have hD1 := pkC_size (ackP false c) adZ
  have hD2 := pkC_one (ackP false c) adZ
  rw [hD] at HA HBo hD1 hD2
  have HA := Lib.hid HA
  have HBo := Lib.hid HBo
  have HD := Lib.hid hD
  have HD1 := Lib.hid hD1
  have HD2 := Lib.hid hD2
  have HZ := Lib.hid pkZ_size
  have hzv := zero_pk
  have hne : ¬ pkZ = #[] := by intro h; have := pkZ_size; rw [h] at this; cases this
  clear hD hD1 hD2 h
  go_enter Try.func3, Try.ntmps3
  go_wp2_with fail
  refine (lives_con _).mono ?_
  rintro e W ⟨rfl, hb⟩
  have B1 := Lib.hid hb
  clear hb
  go_wp2_with (first
    | (refine wpList_buildTo rfl 29 _ rfl (some 14) rfl D (by rw [← HD.out]; kernel_rfl) ?_)
    | (refine wpList_store_row rfl _ _ _ rfl W.heap.size D rfl rfl 29 _ (heap_alloc_new W _) (by rw [HD1.out]; exact info_pk) (by rw [HZ.out, HD1.out]) HD2.out ?_)
    | (refine wpList_load_row rfl _ _ rfl W.heap.size rfl 29 _ (0, 0) _ (setRow_heap _ _ _ _ _ _ (heap_alloc_new W _)) Try.underlying29 rfl (by rw [HD1.out]; exact info_pk) ?_))
  refine (HA.out _).mono ?_
  rintro e2 W2 ⟨rfl, hb⟩
  have B2 := Lib.hid (below_then (belowRow (below_then B1.out (below_box _)) B1.out.size D) hb)
  have R2 := Lib.hid ((hb.block _ (lt_of_block (setRow_heap _ _ _ _ _ _ (heap_alloc_new W _)))).trans (setRow_heap _ _ _ _ _ _ (heap_alloc_new W (.cells pkZ 29))))
  clear hb
  go_wp2_with (refine wpList_load_row rfl _ _ rfl W.heap.size rfl 29 D (0, 0) _ R2.out Try.underlying29 rfl (by rw [HD1.out]; exact info_pk) ?_)
  refine (HBo.out _).mono ?_
  rintro e3 W3 ⟨rfl, hb⟩
  have B3 := Lib.hid (below_then B2.out hb)
  clear hb
  go_wp2_with fail
  all_goals
    go_ret
    exact ⟨rfl, B3.out⟩
set_option maxRecDepth 100000 in
set_option maxHeartbeats 1000000 in
theorem ans_flow (c : Int) (A B : ByteArray) (w : World) (h : AnsIs false c A B 0 2) (_hc : (c == 0) = false) (_hn : (c != 0) = true) (c0 : ¬ c < 0) (c5 : ¬ 5 < c) (hA : A.size = 2) :
    Calls Try.prog 3 #[.bool false, .int .i64 c] w fun e w' => e = .returned (.bool true) ∧ Below w.heap.size w w' := by
  have HA := h.a
  have HBo := h.b
  obtain ⟨D, hD⟩ : ∃ D, pkC (ackP false c) adZ = D := ⟨_, rfl⟩
  have hD1 := pkC_size (ackP false c) adZ
  have hD2 := pkC_one (ackP false c) adZ
  rw [hD] at HA HBo hD1 hD2
  have HA := Lib.hid HA
  have HBo := Lib.hid HBo
  have HD := Lib.hid hD
  have HD1 := Lib.hid hD1
  have HD2 := Lib.hid hD2
  have HZ := Lib.hid pkZ_size
  have hzv := zero_pk
  have hne : ¬ pkZ = #[] := by intro h; have := pkZ_size; rw [h] at this; cases this
  clear hD hD1 hD2 h
  go_enter Try.func3, Try.ntmps3
  go_wp2_with fail
  refine (lives_con _).mono ?_
  rintro e W ⟨rfl, hb⟩
  have B1 := Lib.hid hb
  clear hb
  go_wp2_with (first
    | (refine wpList_buildTo rfl 29 _ rfl (some 14) rfl D (by rw [← HD.out]; kernel_rfl) ?_)
    | (refine wpList_store_row rfl _ _ _ rfl W.heap.size D rfl rfl 29 _ (heap_alloc_new W _) (by rw [HD1.out]; exact info_pk) (by rw [HZ.out, HD1.out]) HD2.out ?_)
    | (refine wpList_load_row rfl _ _ rfl W.heap.size rfl 29 _ (0, 0) _ (setRow_heap _ _ _ _ _ _ (heap_alloc_new W _)) Try.underlying29 rfl (by rw [HD1.out]; exact info_pk) ?_))
  refine (HA.out _).mono ?_
  rintro e2 W2 ⟨rfl, hb⟩
  have B2 := Lib.hid (below_then (belowRow (below_then B1.out (below_box _)) B1.out.size D) hb)
  have R2 := Lib.hid ((hb.block _ (lt_of_block (setRow_heap _ _ _ _ _ _ (heap_alloc_new W _)))).trans (setRow_heap _ _ _ _ _ _ (heap_alloc_new W (.cells pkZ 29))))
  clear hb
  go_wp2_with (refine wpList_load_row rfl _ _ rfl W.heap.size rfl 29 D (0, 0) _ R2.out Try.underlying29 rfl (by rw [HD1.out]; exact info_pk) ?_)
  refine (HBo.out _).mono ?_
  rintro e3 W3 ⟨rfl, hb⟩
  have B3 := Lib.hid (below_then B2.out hb)
  clear hb
  go_wp2_with fail
  all_goals
    go_ret
    exact ⟨rfl, B3.out⟩
set_option maxRecDepth 100000 in
set_option maxHeartbeats 1000000 in
theorem ans_fhigh (c : Int) (A B : ByteArray) (w : World) (h : AnsIs false c A B 2 2) (_hc : (c == 0) = false) (_hn : (c != 0) = true) (c0 : ¬ c < 0) (c5 : 5 < c) :
    Calls Try.prog 3 #[.bool false, .int .i64 c] w fun e w' => e = .returned (.bool true) ∧ Below w.heap.size w w' := by
  have HA := h.a
  have HBo := h.b
  obtain ⟨D, hD⟩ : ∃ D, pkC (ackP false c) adZ = D := ⟨_, rfl⟩
  have hD1 := pkC_size (ackP false c) adZ
  have hD2 := pkC_one (ackP false c) adZ
  rw [hD] at HA HBo hD1 hD2
  have HA := Lib.hid HA
  have HBo := Lib.hid HBo
  have HD := Lib.hid hD
  have HD1 := Lib.hid hD1
  have HD2 := Lib.hid hD2
  have HZ := Lib.hid pkZ_size
  have hzv := zero_pk
  have hne : ¬ pkZ = #[] := by intro h; have := pkZ_size; rw [h] at this; cases this
  clear hD hD1 hD2 h
  go_enter Try.func3, Try.ntmps3
  go_wp2_with fail
  refine (lives_con _).mono ?_
  rintro e W ⟨rfl, hb⟩
  have B1 := Lib.hid hb
  clear hb
  go_wp2_with (first
    | (refine wpList_buildTo rfl 29 _ rfl (some 14) rfl D (by rw [← HD.out]; kernel_rfl) ?_)
    | (refine wpList_store_row rfl _ _ _ rfl W.heap.size D rfl rfl 29 _ (heap_alloc_new W _) (by rw [HD1.out]; exact info_pk) (by rw [HZ.out, HD1.out]) HD2.out ?_)
    | (refine wpList_load_row rfl _ _ rfl W.heap.size rfl 29 _ (0, 0) _ (setRow_heap _ _ _ _ _ _ (heap_alloc_new W _)) Try.underlying29 rfl (by rw [HD1.out]; exact info_pk) ?_))
  refine (HA.out _).mono ?_
  rintro e2 W2 ⟨rfl, hb⟩
  have B2 := Lib.hid (below_then (belowRow (below_then B1.out (below_box _)) B1.out.size D) hb)
  have R2 := Lib.hid ((hb.block _ (lt_of_block (setRow_heap _ _ _ _ _ _ (heap_alloc_new W _)))).trans (setRow_heap _ _ _ _ _ _ (heap_alloc_new W (.cells pkZ 29))))
  clear hb
  go_wp2_with (refine wpList_load_row rfl _ _ rfl W.heap.size rfl 29 D (0, 0) _ R2.out Try.underlying29 rfl (by rw [HD1.out]; exact info_pk) ?_)
  refine (HBo.out _).mono ?_
  rintro e3 W3 ⟨rfl, hb⟩
  have B3 := Lib.hid (below_then B2.out hb)
  clear hb
  go_wp2_with fail
  all_goals
    go_ret
    exact ⟨rfl, B3.out⟩
set_option maxRecDepth 100000 in
set_option maxHeartbeats 1000000 in
theorem ans_fcode (c : Int) (A B : ByteArray) (w : World) (h : AnsIs false c A B 2 0) (_hc : (c == 0) = false) (_hn : (c != 0) = true) (c0 : ¬ c < 0) (c5 : 5 < c) (hB : B.size = 3) (h2 : (B[2]'(by omega)).toNat = 0) :
    Calls Try.prog 3 #[.bool false, .int .i64 c] w fun e w' => e = .returned (.bool true) ∧ Below w.heap.size w w' := by
  have HA := h.a
  have HBo := h.b
  obtain ⟨D, hD⟩ : ∃ D, pkC (ackP false c) adZ = D := ⟨_, rfl⟩
  have hD1 := pkC_size (ackP false c) adZ
  have hD2 := pkC_one (ackP false c) adZ
  rw [hD] at HA HBo hD1 hD2
  have HA := Lib.hid HA
  have HBo := Lib.hid HBo
  have HD := Lib.hid hD
  have HD1 := Lib.hid hD1
  have HD2 := Lib.hid hD2
  have HZ := Lib.hid pkZ_size
  have hzv := zero_pk
  have hne : ¬ pkZ = #[] := by intro h; have := pkZ_size; rw [h] at this; cases this
  clear hD hD1 hD2 h
  go_enter Try.func3, Try.ntmps3
  go_wp2_with fail
  refine (lives_con _).mono ?_
  rintro e W ⟨rfl, hb⟩
  have B1 := Lib.hid hb
  clear hb
  go_wp2_with (first
    | (refine wpList_buildTo rfl 29 _ rfl (some 14) rfl D (by rw [← HD.out]; kernel_rfl) ?_)
    | (refine wpList_store_row rfl _ _ _ rfl W.heap.size D rfl rfl 29 _ (heap_alloc_new W _) (by rw [HD1.out]; exact info_pk) (by rw [HZ.out, HD1.out]) HD2.out ?_)
    | (refine wpList_load_row rfl _ _ rfl W.heap.size rfl 29 _ (0, 0) _ (setRow_heap _ _ _ _ _ _ (heap_alloc_new W _)) Try.underlying29 rfl (by rw [HD1.out]; exact info_pk) ?_))
  refine (HA.out _).mono ?_
  rintro e2 W2 ⟨rfl, hb⟩
  have B2 := Lib.hid (below_then (belowRow (below_then B1.out (below_box _)) B1.out.size D) hb)
  have R2 := Lib.hid ((hb.block _ (lt_of_block (setRow_heap _ _ _ _ _ _ (heap_alloc_new W _)))).trans (setRow_heap _ _ _ _ _ _ (heap_alloc_new W (.cells pkZ 29))))
  clear hb
  go_wp2_with (refine wpList_load_row rfl _ _ rfl W.heap.size rfl 29 D (0, 0) _ R2.out Try.underlying29 rfl (by rw [HD1.out]; exact info_pk) ?_)
  refine (HBo.out _).mono ?_
  rintro e3 W3 ⟨rfl, hb⟩
  have B3 := Lib.hid (below_then B2.out hb)
  clear hb
  go_wp2_with fail
  all_goals
    go_ret
    exact ⟨rfl, B3.out⟩
theorem conans_walk (b : Bool) (c : Int) (w : World) : Calls Try.prog 3 #[.bool b, .int .i64 c] w fun e w' => e = .returned (.bool true) ∧ Below w.heap.size w w' := by
  have r4 : returnR c = (decide (0 ≤ c) && decide (c < 6)) := rfl
  have m5 : c < 128 → c ≠ 0 → mayR 2 c = false := fun h1 h2 => by
    by_cases h0 : c < 0
    · unfold mayR; rw [decide_eq_false (by omega)]; rfl
    · obtain ⟨n, rfl⟩ := Int.eq_ofNat_of_zero_le (show 0 ≤ c by omega)
      have hn : n < 128 := by omega
      have hn0 : n ≠ 0 := by omega
      have : ∀ n : Nat, n < 128 → n ≠ 0 → mayR 2 (n : Int) = false := by decide +kernel
      exact this n hn hn0
  by_cases hz : c = 0
  · subst hz
    have h4 := ack_yes 4 b 0 (.inl rfl) (by cases b <;> decide +kernel)
    have h5 := ack_yes 5 b 0 (.inr rfl) (by cases b <;> decide +kernel)
    exact ans_zero b _ _ w (ans_is b 0 h4 h5) rfl rfl rfl (by rw [beq_iff_eq, bs_toList, toList_data]; cases b <;> rfl)
  · have hc : (c == 0) = false := beq_eq_false_iff_ne.2 hz
    have hn : (c != 0) = true := by rw [show (c != 0) = !(c == 0) from rfl, hc]; rfl
    cases b with
    | true =>
      have h4 := ack_no 4 true c (.inl rfl) (by rw [hc]; simp)
      have h5 := ack_no 5 true c (.inr rfl) (by rw [hc]; simp)
      by_cases c0 : c < 0
      · exact ans_tneg c _ _ w (ans_is true c h4 h5) hc hn c0
      by_cases c5 : 5 < c
      · exact ans_thigh c _ _ w (ans_is true c h4 h5) hc hn c0 c5
      · exact ans_tlow c _ _ w (ans_is true c h4 h5) hc hn c0 c5
    | false =>
      by_cases c0 : c < 0
      · have h4 := ack_no 4 false c (.inl rfl) (by rw [if_pos rfl, r4, decide_eq_false (show ¬ 0 ≤ c by omega)]; rfl)
        have h5 := ack_no 5 false c (.inr rfl) (by rw [if_neg (by decide), m5 (by omega) hz]; rfl)
        exact ans_fneg c _ _ w (ans_is false c h4 h5) hc hn c0
      by_cases c5 : 5 < c
      · have h4 := ack_no 4 false c (.inl rfl) (by rw [if_pos rfl, r4, decide_eq_false (show ¬ c < 6 by omega)]; simp)
        cases hm : mayR 2 c with
        | true =>
          have h5 := ack_yes 5 false c (.inr rfl) (by rw [if_neg (by decide), hm]; rfl)
          exact ans_fcode c _ _ w (ans_is false c h4 h5) hc hn c0 c5 rfl rfl
        | false =>
          have h5 := ack_no 5 false c (.inr rfl) (by rw [if_neg (by decide), hm]; rfl)
          exact ans_fhigh c _ _ w (ans_is false c h4 h5) hc hn c0 c5
      · have h4 := ack_yes 4 false c (.inl rfl) (by rw [if_pos rfl, r4, decide_eq_true (show 0 ≤ c by omega), decide_eq_true (show c < 6 by omega)]; rfl)
        have h5 := ack_no 5 false c (.inr rfl) (by rw [if_neg (by decide), m5 (by omega) hz]; rfl)
        exact ans_flow c _ _ w (ans_is false c h4 h5) hc hn c0 c5 rfl
end Go.Proofs.Ytbgpcmbaodjibaa
