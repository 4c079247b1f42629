/-
  What the laws of layer 8 begin with: the chapter's example. No condition.
  The walk of ConnectBack. Condition: the packet's fields are what their types hold; the length of the string.
  The walk of ConnectFlags. Condition: the packet's fields are what their types hold.
-/
import Derived.Deep.DeepCutAuto
import Derived.Test.YtbgpcmbaodjibaaGreatK51
import Derived.Test.YtbgpcmbaodjibaaGreatK21
import Derived.Test.YtbgpcmbaodjibaaGreatK49
import Derived.Test.YtbgpcmbaodjibaaGreatK23
import Derived.Test.YtbgpcmbaodjibaaGreatK16
import Derived.Test.YtbgpcmbaodjibaaGreatK13
namespace Go.Proofs.YtbgpcmbaodjibaaGreat
open Go.RowKit

/-- A CONNACK without properties. -/
def ackP (b : Bool) (c : Int) : Pk := { Pk.zero with kind := 2, session := b, code := c }
theorem ackP_at (w : World) (b : Bool) (c : Int) : PkAt w (ackP b c) adZ := ⟨fun e => absurd rfl e, fun e => absurd rfl e, fun e => absurd rfl e, fun e => absurd rfl e⟩
theorem ackP_short (b : Bool) (c : Int) : Short (ackP b c) := ⟨Nat.zero_le _, Nat.zero_le _, Nat.zero_le _, Nat.zero_le _⟩
theorem ackP_ok (b : Bool) (c : Int) : PkOk (ackP b c) := by
  refine ⟨⟨(show (-9223372036854775808 : Int) ≤ 2 by decide), (show (2 : Int) ≤ 9223372036854775807 by decide)⟩, ⟨(show (-9223372036854775808 : Int) ≤ 0 by decide), (show (0 : Int) ≤ 9223372036854775807 by decide)⟩, fun t ht => ?_, fun x hx => (nomatch hx), fun x hx => (nomatch hx), fun x hx => (nomatch hx)⟩
  have : t = [] := by simpa [Pk.texts, ackP, Pk.zero] using ht
  rw [this]; decide
theorem ackP_cap (b : Bool) (c : Int) : PkCap (ackP b c) adZ := ⟨Nat.zero_le _, Nat.zero_le _, (show (-9223372036854775808 : Int) ≤ 0 by decide), (show (0 : Int) ≤ 9223372036854775807 by decide)⟩
theorem ack_body (v : Int) (b : Bool) (c : Int) (w : World) :
    Calls Tryz.prog 8 #[.int .i64 v, pkV (ackP b c) adZ] w fun e w' => e = .returned (.tuple #[.string (bs (bodyC v (ackP b c)).1), .int .i64 ((bodyC v (ackP b c)).2 : Nat)]) ∧ Below w.heap.size w w' :=
  con_body v (ackP b c) adZ w (ackP_at w b c) (ackP_short b c) (ackP_ok b c) (ackP_cap b c)
set_option maxRecDepth 100000 in
theorem lives_con (w : World) : Calls Tryz.prog 7 #[] w fun e w' => e = .returned (.bool true) ∧ Below w.heap.size w w' := by
  have BO := ack_body 4 false 5 w
  have e1 : bodyC 4 (ackP false 5) = ([0, 5], 0) := by decide +kernel
  rw [e1] at BO
  unfold pkV at BO
  obtain ⟨D, hD⟩ : ∃ D, pkC (ackP false 5) adZ = D := ⟨_, rfl⟩
  rw [hD] at BO
  have HD := Lib.hid hD
  have BO := Lib.hid BO
  have HQ := Lib.hid (show ((bs [0, 5]).toList == [0, 5]) = true by rw [bs_toList]; rfl)
  have hzv := zero_pk
  clear hD e1
  go_enter Tryz.func7, Tryz.ntmps7
  go_wp2_with (refine wpList_buildTo rfl 32 _ rfl (some 4) rfl D (by rw [← HD.out]; kernel_rfl) ?_)
  refine (BO.out).mono ?_
  rintro e w' ⟨rfl, hb⟩
  go_wp2_with fail
  go_ret
  exact ⟨congrArg (fun b => Ending.returned (Value.bool b)) HQ.out, hb⟩
end Go.Proofs.YtbgpcmbaodjibaaGreat
namespace Go.Proofs.YtbgpcmbaodjibaaGreat
open Go.RowKit

theorem raw_len {v : Int} {p : Pk} (hv : validC v p = 0) : 0 < (rawC v p).length ∧ (rawC v p).length ≤ 1000000000 := by
  rcases (ok_c (valid_c hv).1).2.1 with hk | hk
  · obtain ⟨_, _, _, l1, l2, l3, l4, l5, l6, l7⟩ := con_facts hv hk
    have hz : (if p.hasWill then tailC v 16 p.wProps ++ (enc2 p.wTopic ++ enc2 p.wPayload) else []).length ≤ 400000000 := by split <;> simp [enc2_length] <;> omega
    have hu : (if p.hasUser then enc2 p.user else []).length ≤ 70000 := by split <;> simp [enc2_length] <;> omega
    have ha : (if p.hasPass then enc2 p.pass else []).length ≤ 70000 := by split <;> simp [enc2_length] <;> omega
    have hc : (enc2 p.client).length ≤ 70000 := by rw [enc2_length]; omega
    have hb2 : (be p.keep.toNat 2).length = 2 := be_length 2 _
    have h6 : (enc2 mqttL).length = 6 := by decide
    rw [rawC, if_neg (by omega)]
    simp only [List.length_append, List.length_singleton]
    omega
  · have h := tail_len (valid_c hv).2.2.2.2.2.2.1
    rw [hk] at h
    rw [rawC, if_pos hk]
    simp only [List.length_cons]
    omega
theorem none_of {e : Nat} {x : Pk} (h : ((if e ≠ 0 then (Pk.zero, e) else (x, 0)) : Pk × Nat).2 ≠ 0) : ((if e ≠ 0 then (Pk.zero, e) else (x, 0)) : Pk × Nat).1 = Pk.zero := by
  by_cases he : e ≠ 0
  · rw [if_pos he]
  · rw [if_neg he] at h; exact absurd rfl h
theorem read_none {v k : Int} {l : List UInt8} (h : (readC v k l).2 ≠ 0) : (readC v k l).1 = Pk.zero := by
  unfold readC at h ⊢
  split
  · rfl
  · rename_i h1
    rw [if_neg h1] at h
    exact none_of h
theorem light_short {p : Pk} (h : lightK p = true) : Short p := by
  obtain ⟨h1, h2, h3, h4⟩ := lightK_short h
  exact ⟨by omega, by omega, by omega, by omega⟩
theorem cut_list (l : List UInt8) (n : Nat) : ((bs l).extract 0 n).data.toList = l.take n := by simp [bs, List.extract_eq_take_drop]
set_option maxHeartbeats 2000000 in
set_option maxRecDepth 100000 in
/-- The law's last part: what is read of the string. -/
theorem conback_walk (v c kk : Int) (p : Pk) (a : Ad) (s : ByteArray) (w : World) (hp : PkAt w p a) (ok : PkOk p) (ca : PkCap p a) (hs : s.size ≤ 9223372036854775807) :
    Calls Tryz.prog 5 #[.int .i64 v, pkV p a, .int .i64 kk, .string s, .int .i64 c] w fun e w' => e = .returned (.bool true) ∧ Below w.heap.size w w' := by
  have S0 := Lib.hid (BxS.made w p a)
  have LG := fun W (h : BxS w p a W) => light_pk p a W (hp.below h.low) ok
  have C1 := Lib.hid (pkC_size p a)
  have C2 := Lib.hid (pkC_one p a)
  have HZ := Lib.hid pkZ_size
  have hzv := zero_pk
  have hne : ¬ pkZ = #[] := by intro h; have := pkZ_size; rw [h] at this; cases this
  cases hl : lightK p with
  | false =>
    rw [hl] at LG
    have LG := Lib.hid LG
    clear hl
    unfold pkV at *
    go_enter Tryz.func5, Tryz.ntmps5
    go_wp2_with fail
    refine (lives_con _).mono ?_
    rintro e W ⟨rfl, hb⟩
    have S1 := Lib.hid (S0.out.call hb)
    clear hb
    go_wp2_with (refine wpList_load_row rfl _ _ rfl w.heap.size rfl 32 _ (0, 0) _ S1.out.box Tryz.underlying32 rfl (by rw [C1.out]; exact info_pk) ?_)
    refine (LG.out _ S1.out).mono ?_
    rintro e W2 ⟨rfl, hb⟩
    have L2 := Lib.hid (below_then S1.out.low hb)
    clear hb
    go_wp2_with fail
    go_ret
    exact ⟨rfl, L2.out⟩
  | true =>
    rw [hl] at LG
    have sp := light_short hl
    have LG := Lib.hid LG
    clear hl
    by_cases h2 : 2000 < s.size
    · have hd : decide ((2000 : Int) < (s.size : Int)) = true := decide_eq_true (by omega)
      clear h2
      unfold pkV at *
      go_enter Tryz.func5, Tryz.ntmps5
      go_wp2_with fail
      refine (lives_con _).mono ?_
      rintro e W ⟨rfl, hb⟩
      have S1 := Lib.hid (S0.out.call hb)
      clear hb
      go_wp2_with (refine wpList_load_row rfl _ _ rfl w.heap.size rfl 32 _ (0, 0) _ S1.out.box Tryz.underlying32 rfl (by rw [C1.out]; exact info_pk) ?_)
      refine (LG.out _ S1.out).mono ?_
      rintro e W2 ⟨rfl, hb⟩
      have L2 := Lib.hid (below_then S1.out.low hb)
      clear hb
      go_wp2_with fail
      go_ret
      exact ⟨rfl, L2.out⟩
    · have hd : decide ((2000 : Int) < (s.size : Int)) = false := decide_eq_false (by omega)
      have BO := fun W (h : BxS w p a W) => con_body v p a W (hp.below h.low) sp ok ca
      have VA := fun W (h : BxS w p a W) => con_valid v p a W (hp.below h.low) sp ok ca
      have HP := Lib.hid hp
      have SP := Lib.hid sp
      have HS := Lib.hid hs
      have hE : ∃ AA : List UInt8, bodyC v p = (AA, validC v p) ∧ (validC v p ≠ 0 → AA = []) ∧ (validC v p = 0 → readC v p.kind AA = (p, 0) ∧ (∀ i, i < AA.length → (readC v p.kind (AA.take i)).2 ≠ 0) ∧ 0 < AA.length ∧ AA.length ≤ 1000000000) := by
        unfold bodyC
        by_cases h : validC v p = 0
        · rw [if_neg (by simpa using h), h]
          exact ⟨_, rfl, fun h => absurd rfl h, fun _ => ⟨read_con h, fun i hi => con_cut h hi, raw_len h⟩⟩
        · rw [if_pos h]
          exact ⟨[], rfl, fun _ => rfl, fun h' => absurd h' h⟩
      obtain ⟨AA, hE, R0, R1⟩ := hE
      rw [hE] at BO
      generalize validC v p = E at *
      have R0 := Lib.hid R0
      have BO := Lib.hid BO
      have VA := Lib.hid VA
      have R1 := Lib.hid R1
      have hEE : ((E : Int) != (E : Int)) = false := by simp
      clear h2 hp sp hs hE
      unfold pkV at *
      go_enter Tryz.func5, Tryz.ntmps5
      go_wp2_with fail
      refine (lives_con _).mono ?_
      rintro e W ⟨rfl, hb⟩
      have S1 := Lib.hid (S0.out.call hb)
      clear hb
      go_wp2_with (refine wpList_load_row rfl _ _ rfl w.heap.size rfl 32 _ (0, 0) _ S1.out.box Tryz.underlying32 rfl (by rw [C1.out]; exact info_pk) ?_)
      refine (LG.out _ S1.out).mono ?_
      rintro e W2 ⟨rfl, hb⟩
      have S2 := Lib.hid (S1.out.call hb)
      clear hb
      go_wp2_with (refine wpList_load_row rfl _ _ rfl w.heap.size rfl 32 _ (0, 0) _ S2.out.box Tryz.underlying32 rfl (by rw [C1.out]; exact info_pk) ?_)
      refine (BO.out _ S2.out).mono ?_
      rintro e W3 ⟨rfl, hb⟩
      have S3 := Lib.hid (S2.out.call hb)
      clear hb
      go_wp2_with (refine wpList_load_row rfl _ _ rfl w.heap.size rfl 32 _ (0, 0) _ S3.out.box Tryz.underlying32 rfl (by rw [C1.out]; exact info_pk) ?_)
      refine (VA.out _ S3.out).mono ?_
      rintro e W4 ⟨rfl, hb⟩
      have S4 := Lib.hid (S3.out.call hb)
      clear hb
      go_upto_if 43 with fail
      go_cut [] (fun wx => Below w.heap.size w wx)
      case first =>
        by_cases h0 : E = 0
        · obtain ⟨q1, q2, q3, q4⟩ := R1.out h0
          subst h0
          have RE := fun W => con_read v p.kind (bs AA) W (by rw [bs_size]; omega)
          rw [bs_data, q1] at RE
          have RE := Lib.hid RE
          have Q2 := Lib.hid q2
          have Q3 := Lib.hid q3
          have Q4 := Lib.hid q4
          have k0 : W4.cell? ⟨w.heap.size, 0, none⟩ = some (.int .i64 p.kind) := S4.out.cell 0
          clear q1 q2 q3 q4
          go_wp2_with fail
          refine (RE.out _).mono ?_
          rintro e W5 ⟨a5, rfl, at5, _, _, hb, _⟩
          have S5 := S4.out.call hb
          have hbx : Below W5.heap.size W5 ((W5.alloc (.cells pkZ 32)).setRow W5.heap.size (pkC p a5)) := belowRow (below_box _) (Nat.le_refl _) _
          have S6 := Lib.hid (S5.call hbx)
          have AT6 := Lib.hid (at5.below hbx)
          have R6 := Lib.hid (setRow_heap _ _ _ (pkC p a5) _ _ (heap_alloc_new W5 (.cells pkZ 32)))
          have hD1 := pkC_size p a5
          have hD2 := pkC_one p a5
          have SM := ksame_pk p a5 a _ AT6.out (HP.out.below S6.out.low) (by have := SP.out.1; omega) (by have := SP.out.2.1; omega) (by have := SP.out.2.2.1; omega) (by have := SP.out.2.2.2; omega)
          unfold pkV at SM
          generalize pkC p a5 = D5 at *
          have HD1 := Lib.hid hD1
          have HD2 := Lib.hid hD2
          have SM := Lib.hid SM
          clear hb hD1 hD2 at5 S5 k0 hbx
          go_wp2_with (first
            | (refine wpList_store_row rfl _ _ _ rfl W5.heap.size D5 rfl rfl 32 _ (heap_alloc_new W5 _) (by rw [HD1.out]; exact info_pk) (by rw [HZ.out, HD1.out]) HD2.out ?_)
            | (refine wpList_load_row_g rfl _ _ rfl W5.heap.size rfl 32 D5 (0, 0) _ R6.out Tryz.underlying32 rfl (by rw [HD1.out]; exact info_pk) ?_)
            | (refine wpList_load_row_g rfl _ _ rfl w.heap.size rfl 32 _ (0, 0) _ S6.out.box Tryz.underlying32 rfl (by rw [C1.out]; exact info_pk) ?_))
          refine (SM.out).mono ?_
          rintro e W7 ⟨rfl, hb⟩
          have S7 := Lib.hid (S6.out.call hb)
          clear hb SM
          have hm0 : 0 ≤ c % (AA.length : Int) := Int.emod_nonneg _ (by have := Q3.out; omega)
          have hm1 : c % (AA.length : Int) < (AA.length : Int) := Int.emod_lt_of_pos _ (by have := Q3.out; omega)
          obtain ⟨m, hm⟩ : ∃ m, c % (AA.length : Int) = m := ⟨_, rfl⟩
          rw [hm] at hm0 hm1
          have hcut2 := Q2.out m.toNat (by omega)
          have RC := fun W => con_read v p.kind ((bs AA).extract 0 m.toNat) W (by simp only [ByteArray.size_extract, bs_size]; have := Q4.out; omega)
          rw [cut_list] at RC
          have PI := fun W => pick_any c (AA.length : Int) W (by have := Q3.out; omega) (by have := Q4.out; omega)
          rw [hm] at PI
          obtain ⟨R, hR⟩ : ∃ R, readC v p.kind (AA.take m.toNat) = R := ⟨_, rfl⟩
          rw [hR] at RC hcut2
          have RC := Lib.hid RC
          have PI := Lib.hid PI
          have hsz : ((bs AA).size : Int) = (AA.length : Int) := by rw [bs_size]
          have HSZ := Lib.hid hsz
          have HM := Lib.hid (And.intro hm0 hm1)
          have hv1 : ((R.2 : Int) == 0) = false := by simp; omega
          clear hR hm hcut2 hm0 hm1 hsz
          go_upto_region 12 with fail
          refine back_cut (S := fun x W => BxS w p a W ∧ ∀ g, x.b = some g → ∃ old, W.heap[g]? = some (.cells old 32 (0, 0)) ∧ old.size = 25 ∧ w.heap.size < g) (R := R) (B := w.heap.size) (m := m) ⟨S7.out.draw, fun g e => by cases e⟩ (fun x W h => h.1.cell 0) HM.out.1 (by rw [HSZ.out]; exact Int.le_of_lt HM.out.2)
            (fun x W h => by
              rw [HSZ.out]
              exact (PI.out W).mono fun e w' ⟨he, hw⟩ => ⟨he, hw ▸ h⟩)
            (fun x W h => (RC.out W).mono fun e w' ⟨a', he, _, _, _, hb, _⟩ => ⟨a', he, h.1.call hb, fun g hg => by
              obtain ⟨old, ho, h25, hlt⟩ := h.2 g hg
              exact ⟨old, (hb.block g (lt_of_block ho)).trans ho, h25, hlt⟩⟩)
            (fun x W h => ⟨h.1.call (below_box _), fun g hg => by
              obtain rfl := Option.some.inj hg
              exact ⟨pkZ, heap_alloc_new W _, rfl, lt_of_block h.1.box⟩⟩)
            (fun x W h g hg => by
              obtain ⟨old, ho, h25, _⟩ := h.2 g hg
              exact ⟨old, ho, h25⟩)
            (fun x W h a' g ha hg => by
              obtain ⟨old, ho, h25, hlt⟩ := h.2 g hg
              refine ⟨⟨belowRow h.1.low (by omega) _, (setRow_other _ _ _ _ (by omega)).trans h.1.box⟩, fun g' hg' => ?_⟩
              rw [hg] at hg'
              obtain rfl := Option.some.inj hg'
              exact ⟨_, setRow_heap _ _ _ _ _ _ ho, pkC_size _ _, hlt⟩) ?_
          intro x xa xb W8 hS
          have L8 := Lib.hid hS.1.low
          clear hS
          go_wp2_with fail
          go_meet
          exact L8.out
        · have hv1 : ((E : Int) == 0) = false := by simp; omega
          have hAA := R0.out h0
          subst hAA
          have hbe : (bs ([] : List UInt8)).toList.isEmpty = true := by rw [bs_toList]; rfl
          have L4 := Lib.hid S4.out.low
          generalize bs ([] : List UInt8) = Z at *
          clear h0
          go_wp2_with fail
          go_meet
          exact L4.out
      case rest =>
        have L1 := Lib.hid hcut
        clear hcut
        have RE := fun W => con_read v kk s W HS.out
        obtain ⟨R, hR⟩ : ∃ R, readC v kk s.data.toList = R := ⟨_, rfl⟩
        have N0 : R.2 ≠ 0 → R.1 = Pk.zero := by rw [← hR]; exact read_none
        have N1 : R.2 = 0 → validC v R.1 = 0 ∧ rawC v R.1 = s.data.toList ∧ R.1.kind = kk := fun h => con_back (l := s.data.toList) (show readC v kk s.data.toList = (R.1, 0) by rw [hR, ← h])
        rw [hR] at RE
        obtain ⟨q, F⟩ := R
        have RE := Lib.hid RE
        have N0 := Lib.hid N0
        have N1 := Lib.hid N1
        clear hR
        go_wp2_with fail
        refine (RE.out _).mono ?_
        rintro e W5 ⟨a5, rfl, at5, ca5, fi5, hb, hz5⟩
        have L5 := Lib.hid (below_then L1.out hb)
        have hbx : Below W5.heap.size W5 ((W5.alloc (.cells pkZ 32)).setRow W5.heap.size (pkC q a5)) := belowRow (below_box _) (Nat.le_refl _) _
        have L6 := Lib.hid (below_then L5.out hbx)
        have R6 := Lib.hid (setRow_heap _ _ _ (pkC q a5) _ _ (heap_alloc_new W5 (.cells pkZ 32)))
        have hD1 := pkC_size q a5
        have hD2 := pkC_one q a5
        clear hb
        by_cases hF : F = 0
        · obtain ⟨n1, n2, n3⟩ := N1.out hF
          subst hF
          simp only at n1 n2 n3 at5 ca5 fi5
          have BQ := fun W (h : PkAt W q a5) => con_body v q a5 W h fi5.2.1 fi5.1 ca5
          have hbo : bodyC v q = (s.data.toList, 0) := by unfold bodyC; rw [if_neg (by simpa using n1), n2]
          rw [hbo, bs_mk] at BQ
          unfold pkV at BQ
          have BQ := Lib.hid (BQ _ (at5.below hbx))
          have hk0 : (pkC q a5)[0]? = some (.int .i64 kk) := by rw [← n3]; rfl
          generalize pkC q a5 = D5 at *
          have HD1 := Lib.hid hD1
          have HD2 := Lib.hid hD2
          have K0 := Lib.hid hk0
          clear hD1 hD2 hk0 n1 n2 n3 at5 ca5 fi5 hbo hbx hz5
          go_wp2_with (first
            | (refine wpList_store_row rfl _ _ _ rfl W5.heap.size D5 rfl rfl 32 _ (heap_alloc_new W5 _) (by rw [HD1.out]; exact info_pk) (by rw [HZ.out, HD1.out]) HD2.out ?_)
            | (refine wpList_load_row rfl _ _ rfl W5.heap.size rfl 32 D5 (0, 0) _ R6.out Tryz.underlying32 rfl (by rw [HD1.out]; exact info_pk) ?_))
          refine (BQ.out).mono ?_
          rintro e W7 ⟨rfl, hb⟩
          have L7 := Lib.hid (below_then L6.out hb)
          have k0 : W7.cell? ⟨W5.heap.size, 0, none⟩ = some (.int .i64 kk) := (cell_of_row _ _ 0 _ _ _ ((hb.block _ (lt_of_block R6.out)).trans R6.out)).trans K0.out
          clear hb BQ
          go_wp2_with fail
          go_ret
          exact ⟨rfl, L7.out⟩
        · have hq : q = Pk.zero := N0.out hF
          have ha : a5 = adZ := hz5 hF
          subst hq ha
          have hv1 : ((F : Int) == 0) = false := by simp; omega
          have hv2 : ((F : Int) != 0) = true := by simp; omega
          rw [pkC_zero] at *
          have NZ := Lib.hid none_zero
          have HD1 := Lib.hid pkZ_size
          have HD2 := Lib.hid hD2
          have R6 := Lib.hid R6.out
          clear hF hz5 at5 ca5 fi5 hbx hD1 hD2
          go_wp2_with (first
            | (refine wpList_store_row rfl _ _ _ rfl W5.heap.size pkZ rfl rfl 32 _ (heap_alloc_new W5 _) (by rw [HZ.out]; exact info_pk) rfl HD2.out ?_)
            | (refine wpList_load_row rfl _ _ rfl W5.heap.size rfl 32 pkZ (0, 0) _ R6.out Tryz.underlying32 rfl (by rw [HD1.out]; exact info_pk) ?_))
          refine (NZ.out _).mono ?_
          rintro e W7 ⟨rfl, hb⟩
          have L7 := Lib.hid (below_then L6.out hb)
          clear hb
          go_wp2_with fail
          go_ret
          exact ⟨rfl, L7.out⟩
end Go.Proofs.YtbgpcmbaodjibaaGreat
namespace Go.Proofs.YtbgpcmbaodjibaaGreat
open Go.RowKit

/-- polyglotkit.Version. -/
theorem vers_k (k : Nat) (hk : k < 2) (w : World) :
    Calls Tryz.prog 22 #[.int .i64 (k : Int)] w fun e w' => e = .returned (.int .i64 ((4 + k : Nat) : Int)) ∧ w = w' := by
  obtain rfl | rfl : k = 0 ∨ k = 1 := by omega
  all_goals
    go_enter Tryz.func22, Tryz.ntmps22
    go_wp2
    go_ret
    exact ⟨rfl, rfl⟩
set_option maxHeartbeats 4000000 in
set_option maxRecDepth 100000 in
theorem conflags_walk (p : Pk) (a : Ad) (c : UInt8) (w : World) (hp : PkAt w p a) (ok : PkOk p) (ca : PkCap p a) :
    Calls Tryz.prog 6 #[pkV p a, .int .u8 c.toNat] w fun e w' => e = .returned (.bool true) ∧ Below w.heap.size w w' := by
  have S0 := Lib.hid (BxS.made w p a)
  have LG := fun W (h : BxS w p a W) => light_pk p a W (hp.below h.low) ok
  have C1 := Lib.hid (pkC_size p a)
  cases hl : lightK p with
  | false =>
    rw [hl] at LG
    have LG := Lib.hid LG
    clear hl
    unfold pkV at *
    go_enter Tryz.func6, Tryz.ntmps6
    go_wp2_with fail
    refine (lives_con _).mono ?_
    rintro e W ⟨rfl, hb⟩
    have S1 := Lib.hid (S0.out.call hb)
    clear hb
    go_wp2_with (refine wpList_load_row rfl _ _ rfl w.heap.size rfl 32 _ (0, 0) _ S1.out.box Tryz.underlying32 rfl (by rw [C1.out]; exact info_pk) ?_)
    refine (LG.out _ S1.out).mono ?_
    rintro e W2 ⟨rfl, hb⟩
    have L2 := Lib.hid (below_then S1.out.low hb)
    clear hb
    go_wp2_with fail
    go_ret
    exact ⟨rfl, L2.out⟩
  | true =>
    rw [hl] at LG
    have sp := light_short hl
    have LG := Lib.hid LG
    clear hl
    by_cases h1 : p.kind = 1
    · have hk1 : (p.kind != 1) = false := by rw [h1]; rfl
      have VK := Lib.hid vers_k
      have BO := fun v W (h : BxS w p a W) => con_body v p a W (hp.below h.low) sp ok ca
      have FL := Lib.hid (fun W => con_flags p a W)
      have H1 := Lib.hid h1
      have BO := Lib.hid BO
      clear h1 hp sp ok ca
      unfold pkV at *
      go_enter Tryz.func6, Tryz.ntmps6
      go_wp2_with fail
      refine (lives_con _).mono ?_
      rintro e W ⟨rfl, hb⟩
      have S1 := Lib.hid (S0.out.call hb)
      clear hb
      go_wp2_with (refine wpList_load_row rfl _ _ rfl w.heap.size rfl 32 _ (0, 0) _ S1.out.box Tryz.underlying32 rfl (by rw [C1.out]; exact info_pk) ?_)
      refine (LG.out _ S1.out).mono ?_
      rintro e W2 ⟨rfl, hb⟩
      have S2 := Lib.hid (S1.out.call hb)
      have k0 : W2.cell? ⟨w.heap.size, 0, none⟩ = some (.int .i64 p.kind) := S2.out.cell 0
      clear hb LG
      go_wp2_with fail
      clear k0
      go_loopg [5] 2 (fun gk s5 wx => ∃ k : Nat, k ≤ 2 ∧ gk = 2 - k ∧ s5 = .int .i64 (k : Int) ∧ BxS w p a wx)
      case atStart => exact ⟨0, by omega, by omega, rfl, S2.out⟩
      case round =>
        clear S0 S1 S2
        obtain ⟨k, hk, hgk, rfl, hs⟩ := hrel
        have S3 := Lib.hid hs
        clear hs
        by_cases hlt : k < 2
        · have g1 : (k : Int) < 2 := by omega
          have vk := fun W => VK.out k hlt W
          obtain ⟨v, hv⟩ : ∃ v : Int, ((4 + k : Nat) : Int) = v := ⟨_, rfl⟩
          rw [hv] at vk
          have HV := Lib.hid (show v = 4 ∨ v = 5 by omega)
          have bo := fun W h => BO.out v W h
          unfold bodyC at bo
          have vk := Lib.hid vk
          clear hv VK
          by_cases hE : validC v p = 0
          · obtain ⟨T, hT, hT4, hf, _⟩ := raw_eight hE H1.out
            rw [if_neg (by simpa using hE), hT] at bo
            have hle := (raw_len hE).2
            rw [hT] at hle
            obtain ⟨f, hff⟩ : ∃ f : UInt8, UInt8.ofNat (flagsC p) = f := ⟨_, rfl⟩
            have hfn : flagsC p = f.toNat := by rw [← hff]; simp; omega
            have fl := fun W => FL.out W
            rw [hfn] at fl
            rw [hff] at bo hle
            change (flB v f T).length ≤ 1000000000 at hle
            change ∀ W, BxS w p a W → Calls _ _ _ _ (fun e w' => e = .returned (.tuple #[.string (bs (flB v f T)), .int .i64 0]) ∧ _) at bo
            have hsz : (bs (flB v f T)).size = 8 + T.length := by rw [bs_size, flB_length]
            rw [flB_length] at hle
            have b12 : ¬ ((bs (flB v f T)).size : Int) < 12 := by rw [hsz]; omega
            have b7 : 7 ≤ (bs (flB v f T)).size := by omega
            have b8 : 7 < (bs (flB v f T)).size := by omega
            have b9 : (bs (flB v f T))[7] = f := flB_at v f T b8
            have e7 := flB_seven v f T
            have hwr : IntKind.u8.wrap v = ((UInt8.ofNat v.toNat).toNat : Int) := by rcases HV.out with rfl | rfl <;> decide
            have n1 : ¬ 9223372036854775807 < ((bs (flB v f T)).extract 0 7).size + (⟨#[c]⟩ : ByteArray).size := by
              simp only [ByteArray.size_extract, hsz, show (⟨#[c]⟩ : ByteArray).size = 1 from rfl]; omega
            have n2 : ¬ 9223372036854775807 < ((bs (flB v f T)).extract 0 7 ++ ⟨#[c]⟩ : ByteArray).size + ((bs (flB v f T)).extract 8 (bs (flB v f T)).size).size := by
              simp only [ByteArray.size_append, ByteArray.size_extract, hsz, show (⟨#[c]⟩ : ByteArray).size = 1 from rfl]; omega
            have RE := fun W => con_read v 1 ((bs (flB v f T)).extract 0 7 ++ ⟨#[c]⟩ ++ (bs (flB v f T)).extract 8 (bs (flB v f T)).size) W (by
              simp only [ByteArray.size_append, ByteArray.size_extract, hsz, show (⟨#[c]⟩ : ByteArray).size = 1 from rfl]; omega)
            rw [flB_put] at RE
            have h7 : (readC v 1 (flB v c T)).2 = 7 ↔ wrongC v c.toNat = true := con_seven HV.out c T
            generalize readC v 1 (flB v c T) = R at RE h7
            have L12 := Lib.hid b12
            have L7 := Lib.hid b7
            have L8 := Lib.hid b8
            have L9 := Lib.hid b9
            have E7 := Lib.hid e7
            have WR := Lib.hid hwr
            have N1 := Lib.hid n1
            have N2 := Lib.hid n2
            have RE := Lib.hid RE
            have H7 := Lib.hid h7
            have bo := Lib.hid bo
            have fl := Lib.hid fl
            clear b12 b7 b9 e7 hwr n1 n2 h7 hT hT4 hf hle hff hfn hsz hE BO FL
            generalize bs (flB v f T) = A at *
            go_wp2_with fail
            refine (vk.out _).mono ?_
            rintro e W ⟨rfl, rfl⟩
            go_wp2_with (refine wpList_load_row rfl _ _ rfl w.heap.size rfl 32 _ (0, 0) _ S3.out.box Tryz.underlying32 rfl (by rw [C1.out]; exact info_pk) ?_)
            refine (bo.out _ S3.out).mono ?_
            rintro e W4 ⟨rfl, hb⟩
            have S4 := Lib.hid (S3.out.call hb)
            clear hb
            go_upto_region 11 with fail
            refine fl_look (S := fun x W => BxS w p a W ∧ ∀ g, x.s = some g → W.heap[g]? = some (.cells #[.int .u8 (UInt8.ofNat v.toNat).toNat] 5 (0, 0))) (B := w.heap.size) (b := f) (y := UInt8.ofNat v.toNat) (D := pkC p a) ⟨S4.out.draw, fun g e => by cases e⟩ C1.out (by have := L12.out; omega) L7.out L8.out L9.out WR.out E7.out
              (fun x W h => h.1.box)
              (fun x W h => ⟨h.1.call (below_box _), fun g hg => by
                obtain rfl := Option.some.inj hg
                exact heap_alloc_new W _⟩)
              (fun x W h g hg => h.2 g hg)
              (fun x W h => (fl.out W).mono fun e w' ⟨he, hb⟩ => ⟨he, h.1.call hb, fun g hg => (hb.block g (lt_of_block (h.2 g hg))).trans (h.2 g hg)⟩) ?_
            intro x xs W5 hS
            have S5 := Lib.hid hS.1
            clear hS x
            go_upto_region 13 with fail
            refine fl_read (S := fun x W => BxS w p a W ∧ (∀ g, x.b = some g → ∃ old, W.heap[g]? = some (.cells old 32 (0, 0)) ∧ old.size = 25 ∧ w.heap.size < g) ∧ (∀ g, x.s = some g → W.heap[g]? = some (.cells #[.int .u8 c.toNat] 5 (0, 0)))) (R := R) ⟨S5.out.draw, (fun g e => by cases e), (fun g e => by cases e)⟩ L7.out (by have := L8.out; omega) N1.out N2.out
              (fun x W h => ⟨h.1.call (below_box _), fun g hg => by
                obtain ⟨old, ho, h25, hlt⟩ := h.2.1 g hg
                exact ⟨old, ((below_box (w := W) _).block g (lt_of_block ho)).trans ho, h25, hlt⟩, fun g hg => by
                obtain rfl := Option.some.inj hg
                exact heap_alloc_new W _⟩)
              (fun x W h g hg => h.2.2 g hg)
              (fun x W h => (RE.out W).mono fun e w' ⟨a', he, _, _, _, hb, _⟩ => ⟨a', he, h.1.call hb, fun g hg => by
                obtain ⟨old, ho, h25, hlt⟩ := h.2.1 g hg
                exact ⟨old, (hb.block g (lt_of_block ho)).trans ho, h25, hlt⟩, fun g hg => (hb.block g (lt_of_block (h.2.2 g hg))).trans (h.2.2 g hg)⟩)
              (fun x W h => ⟨h.1.call (below_box _), fun g hg => by
                obtain rfl := Option.some.inj hg
                exact ⟨pkZ, heap_alloc_new W _, rfl, lt_of_block h.1.box⟩, fun g hg => ((below_box (w := W) _).block g (lt_of_block (h.2.2 g hg))).trans (h.2.2 g hg)⟩)
              (fun x W h g hg => by
                obtain ⟨old, ho, h25, _⟩ := h.2.1 g hg
                exact ⟨old, ho, h25⟩)
              (fun x W h a' g ha hg => by
                obtain ⟨old, ho, h25, hlt⟩ := h.2.1 g hg
                refine ⟨⟨belowRow h.1.low (by omega) _, (setRow_other _ _ _ _ (by omega)).trans h.1.box⟩, fun g' hg' => ?_, fun g' hg' => ?_⟩
                · rw [hg] at hg'
                  obtain rfl := Option.some.inj hg'
                  exact ⟨_, setRow_heap _ _ _ _ _ _ ho, pkC_size _ _, hlt⟩
                · have h3 := h.2.2 g' hg'
                  have hne : g' ≠ g := by
                    rintro rfl
                    rw [ho] at h3
                    have h4 := congrArg (fun o : Option _ => match o with | some (Obj.cells C _ _) => C.size | _ => 0) h3
                    simp at h4
                    omega
                  exact (setRow_other _ _ _ _ hne).trans h3) ?_
            intro x xa xb xs2 W6 hS
            have S6 := Lib.hid hS.1
            clear hS x S3 S4 S5 vk bo fl L12 L7 L8 L9 E7 WR N1 N2 RE
            go_upto_region 14 with fail
            clear H1 HV b8
            obtain ⟨n, hn⟩ : ∃ n, c.toNat = n := ⟨_, rfl⟩
            have hn0 : (n : Int) < 256 := by have := c.toNat_lt; omega
            rw [hn] at H7 ⊢
            have hw7 : R.2 = 7 ↔ (n % 2 = 1 ∨ n / 8 % 4 = 3 ∨ (n / 4 % 2 = 0 ∧ ¬ n / 8 % 8 = 0) ∨ (v = 4 ∧ n / 64 = 1)) := by
              rw [H7.out]
              simp only [wrongC, Bool.or_eq_true, Bool.and_eq_true, beq_iff_eq, bne_iff_ne, or_assoc]
            have HW7 := Lib.hid hw7
            clear hw7 H7
            go_wp2_with fail
            all_goals first
              | (exfalso
                 have hw7 := HW7.out
                 rename_i h
                 by_cases hR : (R.2 : Int) = 7
                 · rw [beq_iff_eq.2 hR] at h
                   first | (simp at h; done) | (simp at h; omega)
                 · rw [beq_eq_false_iff_ne.2 hR] at h
                   first | (simp at h; done) | (simp at h; omega))
              | (subst hn
                 go_roundg (2 - (k + 1))
                 case measure => omega
                 case rel => exact ⟨k + 1, by omega, rfl, by go_num, S6.out⟩)
          · rw [if_pos hE] at bo
            have he0 : (((validC v p : Nat) : Int) != 0) = true := by simp; omega
            generalize validC v p = E at *
            have bo := Lib.hid bo
            clear hE BO FL
            go_wp2_with fail
            refine (vk.out _).mono ?_
            rintro e W ⟨rfl, rfl⟩
            go_wp2_with (refine wpList_load_row rfl _ _ rfl w.heap.size rfl 32 _ (0, 0) _ S3.out.box Tryz.underlying32 rfl (by rw [C1.out]; exact info_pk) ?_)
            refine (bo.out _ S3.out).mono ?_
            rintro e W4 ⟨rfl, hb⟩
            have S4 := Lib.hid (S3.out.call hb)
            clear hb
            go_wp2_with fail
            go_roundg (2 - (k + 1))
            case measure => omega
            case rel => exact ⟨k + 1, by omega, rfl, by go_num, S4.out⟩
        · obtain rfl : k = 2 := by omega
          go_wp2_with fail
          go_ret
          exact ⟨rfl, S3.out.low⟩
    · have hk1 : (p.kind != 1) = true := by simpa using h1
      clear h1
      unfold pkV at *
      go_enter Tryz.func6, Tryz.ntmps6
      go_wp2_with fail
      refine (lives_con _).mono ?_
      rintro e W ⟨rfl, hb⟩
      have S1 := Lib.hid (S0.out.call hb)
      clear hb
      go_wp2_with (refine wpList_load_row rfl _ _ rfl w.heap.size rfl 32 _ (0, 0) _ S1.out.box Tryz.underlying32 rfl (by rw [C1.out]; exact info_pk) ?_)
      refine (LG.out _ S1.out).mono ?_
      rintro e W2 ⟨rfl, hb⟩
      have S2 := Lib.hid (S1.out.call hb)
      have k0 : W2.cell? ⟨w.heap.size, 0, none⟩ = some (.int .i64 p.kind) := S2.out.cell 0
      clear hb
      go_wp2_with fail
      go_ret
      exact ⟨rfl, S2.out.low⟩
theorem conflags_byte (b : Int) (p : Pk) (a : Ad) (w : World) (hp : PkAt w p a) (ok : PkOk p) (ca : PkCap p a) (hb : 0 ≤ b ∧ b ≤ 255) :
    Calls Tryz.prog 6 #[pkV p a, .int .u8 b] w fun e w' => e = .returned (.bool true) ∧ Below w.heap.size w w' := by
  have e : ((UInt8.ofNat b.toNat).toNat : Int) = b := by rw [n8 (by omega)]; omega
  have h := conflags_walk p a (UInt8.ofNat b.toNat) w hp ok ca
  rw [e] at h
  exact h
end Go.Proofs.YtbgpcmbaodjibaaGreat
