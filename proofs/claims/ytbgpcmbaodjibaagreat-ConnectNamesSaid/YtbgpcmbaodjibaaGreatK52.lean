/-
  What the laws of layer 8 use of polyglotkit: None, SamePacket at a packet that was read. No condition.
  The walk of ConnectBack. Condition: the packet's fields are what their types hold; the length of the string.
  ConnectNames' packets, and what is asked of them. No condition.
-/
import Derived.Great.BuildSlice
import Derived.Deep.DeepCutAuto
import Derived.Deep.MidRow
import Derived.Test.YtbgpcmbaodjibaaGreatK26
import Derived.Test.YtbgpcmbaodjibaaGreatK51
import Derived.Test.YtbgpcmbaodjibaaGreatK41
import Derived.Test.YtbgpcmbaodjibaaGreatK40
import Derived.Test.YtbgpcmbaodjibaaGreatK27
import Derived.Test.YtbgpcmbaodjibaaGreatK15
namespace Go.Proofs.YtbgpcmbaodjibaaGreat
open Go.RowKit

set_option maxRecDepth 100000 in
/-- polyglotkit.None at the packet that is nothing. -/
theorem none_zero (w : World) : Calls Tryz.prog 21 #[.agg pkZ] w fun e w' => e = .returned (.bool true) ∧ Below w.heap.size w w' := by
  have B0 := Lib.hid (below_box (w := w) (.cells pkZ 32))
  have SM := fun W => ksame_pk Pk.zero adZ adZ W (zero_at W) (zero_at W) (by decide) (by decide) (by decide) (by decide)
  unfold pkV at SM
  rw [pkC_zero] at SM
  have SM := Lib.hid SM
  have HZ := Lib.hid pkZ_size
  have hzv := zero_pk
  have hne : ¬ pkZ = #[] := by intro h; have := pkZ_size; rw [h] at this; cases this
  go_enter Tryz.func21, Tryz.ntmps21
  go_wp2_with (first
    | (refine wpList_load_row rfl _ _ rfl w.heap.size rfl 32 pkZ (0, 0) _ (heap_alloc_new w _) Tryz.underlying32 rfl (by rw [HZ.out]; exact info_pk) ?_)
    | (refine wpList_buildTo rfl 32 _ rfl (some 4) rfl pkZ (by kernel_rfl) ?_))
  refine (SM.out _).mono ?_
  rintro e W ⟨rfl, hb⟩
  have LO := Lib.hid (below_then B0.out hb)
  clear hb
  go_wp2_with fail
  go_ret
  exact ⟨rfl, LO.out⟩
end Go.Proofs.YtbgpcmbaodjibaaGreat
namespace Go.Proofs.YtbgpcmbaodjibaaGreat
open Go.RowKit

theorem raw_len {v : Int} {p : Pk} (hv : validC v p = 0) : 0 < (rawC v p).length ∧ (rawC v p).length ≤ 1000000000 := by
  rcases (ok_c (valid_c hv).1).2.1 with hk | hk
  · obtain ⟨_, _, _, l1, l2, l3, l4, l5, l6, l7⟩ := con_facts hv hk
    have hz : (if p.hasWill then tailC v 16 p.wProps ++ (enc2 p.wTopic ++ enc2 p.wPayload) else []).length ≤ 400000000 := by split <;> simp [enc2_length] <;> omega
    have hu : (if p.hasUser then enc2 p.user else []).length ≤ 70000 := by split <;> simp [enc2_length] <;> omega
    have ha : (if p.hasPass then enc2 p.pass else []).length ≤ 70000 := by split <;> simp [enc2_length] <;> omega
    have hc : (enc2 p.client).length ≤ 70000 := by rw [enc2_length]; omega
    have hb2 : (be p.keep.toNat 2).length = 2 := be_length 2 _
    have h6 : (enc2 mqttL).length = 6 := by decide
    rw [rawC, if_neg (by omega)]
    simp only [List.length_append, List.length_singleton]
    omega
  · have h := tail_len (valid_c hv).2.2.2.2.2.2.1
    rw [hk] at h
    rw [rawC, if_pos hk]
    simp only [List.length_cons]
    omega
theorem none_of {e : Nat} {x : Pk} (h : ((if e ≠ 0 then (Pk.zero, e) else (x, 0)) : Pk × Nat).2 ≠ 0) : ((if e ≠ 0 then (Pk.zero, e) else (x, 0)) : Pk × Nat).1 = Pk.zero := by
  by_cases he : e ≠ 0
  · rw [if_pos he]
  · rw [if_neg he] at h; exact absurd rfl h
theorem read_none {v k : Int} {l : List UInt8} (h : (readC v k l).2 ≠ 0) : (readC v k l).1 = Pk.zero := by
  unfold readC at h ⊢
  split
  · rfl
  · rename_i h1
    rw [if_neg h1] at h
    exact none_of h
theorem light_short {p : Pk} (h : lightK p = true) : Short p := by
  obtain ⟨h1, h2, h3, h4⟩ := lightK_short h
  exact ⟨by omega, by omega, by omega, by omega⟩
theorem cut_list (l : List UInt8) (n : Nat) : ((bs l).extract 0 n).data.toList = l.take n := by simp [bs, List.extract_eq_take_drop]
set_option maxHeartbeats 2000000 in
set_option maxRecDepth 100000 in
/-- The law's last part: what is read of the string. -/
theorem conback_walk (v c kk : Int) (p : Pk) (a : Ad) (s : ByteArray) (w : World) (hp : PkAt w p a) (ok : PkOk p) (ca : PkCap p a) (hs : s.size ≤ 9223372036854775807) :
    Calls Tryz.prog 5 #[.int .i64 v, pkV p a, .int .i64 kk, .string s, .int .i64 c] w fun e w' => e = .returned (.bool true) ∧ Below w.heap.size w w' := by
  have S0 := Lib.hid (BxS.made w p a)
  have LG := fun W (h : BxS w p a W) => light_pk p a W (hp.below h.low) ok
  have C1 := Lib.hid (pkC_size p a)
  have C2 := Lib.hid (pkC_one p a)
  have HZ := Lib.hid pkZ_size
  have hzv := zero_pk
  have hne : ¬ pkZ = #[] := by intro h; have := pkZ_size; rw [h] at this; cases this
  cases hl : lightK p with
  | false =>
    rw [hl] at LG
    have LG := Lib.hid LG
    clear hl
    unfold pkV at *
    go_enter Tryz.func5, Tryz.ntmps5
    go_wp2_with fail
    refine (lives_con _).mono ?_
    rintro e W ⟨rfl, hb⟩
    have S1 := Lib.hid (S0.out.call hb)
    clear hb
    go_wp2_with (refine wpList_load_row rfl _ _ rfl w.heap.size rfl 32 _ (0, 0) _ S1.out.box Tryz.underlying32 rfl (by rw [C1.out]; exact info_pk) ?_)
    refine (LG.out _ S1.out).mono ?_
    rintro e W2 ⟨rfl, hb⟩
    have L2 := Lib.hid (below_then S1.out.low hb)
    clear hb
    go_wp2_with fail
    go_ret
    exact ⟨rfl, L2.out⟩
  | true =>
    rw [hl] at LG
    have sp := light_short hl
    have LG := Lib.hid LG
    clear hl
    by_cases h2 : 2000 < s.size
    · have hd : decide ((2000 : Int) < (s.size : Int)) = true := decide_eq_true (by omega)
      clear h2
      unfold pkV at *
      go_enter Tryz.func5, Tryz.ntmps5
      go_wp2_with fail
      refine (lives_con _).mono ?_
      rintro e W ⟨rfl, hb⟩
      have S1 := Lib.hid (S0.out.call hb)
      clear hb
      go_wp2_with (refine wpList_load_row rfl _ _ rfl w.heap.size rfl 32 _ (0, 0) _ S1.out.box Tryz.underlying32 rfl (by rw [C1.out]; exact info_pk) ?_)
      refine (LG.out _ S1.out).mono ?_
      rintro e W2 ⟨rfl, hb⟩
      have L2 := Lib.hid (below_then S1.out.low hb)
      clear hb
      go_wp2_with fail
      go_ret
      exact ⟨rfl, L2.out⟩
    · have hd : decide ((2000 : Int) < (s.size : Int)) = false := decide_eq_false (by omega)
      have BO := fun W (h : BxS w p a W) => con_body v p a W (hp.below h.low) sp ok ca
      have VA := fun W (h : BxS w p a W) => con_valid v p a W (hp.below h.low) sp ok ca
      have HP := Lib.hid hp
      have SP := Lib.hid sp
      have HS := Lib.hid hs
      have hE : ∃ AA : List UInt8, bodyC v p = (AA, validC v p) ∧ (validC v p ≠ 0 → AA = []) ∧ (validC v p = 0 → readC v p.kind AA = (p, 0) ∧ (∀ i, i < AA.length → (readC v p.kind (AA.take i)).2 ≠ 0) ∧ 0 < AA.length ∧ AA.length ≤ 1000000000) := by
        unfold bodyC
        by_cases h : validC v p = 0
        · rw [if_neg (by simpa using h), h]
          exact ⟨_, rfl, fun h => absurd rfl h, fun _ => ⟨read_con h, fun i hi => con_cut h hi, raw_len h⟩⟩
        · rw [if_pos h]
          exact ⟨[], rfl, fun _ => rfl, fun h' => absurd h' h⟩
      obtain ⟨AA, hE, R0, R1⟩ := hE
      rw [hE] at BO
      generalize validC v p = E at *
      have R0 := Lib.hid R0
      have BO := Lib.hid BO
      have VA := Lib.hid VA
      have R1 := Lib.hid R1
      have hEE : ((E : Int) != (E : Int)) = false := by simp
      clear h2 hp sp hs hE
      unfold pkV at *
      go_enter Tryz.func5, Tryz.ntmps5
      go_wp2_with fail
      refine (lives_con _).mono ?_
      rintro e W ⟨rfl, hb⟩
      have S1 := Lib.hid (S0.out.call hb)
      clear hb
      go_wp2_with (refine wpList_load_row rfl _ _ rfl w.heap.size rfl 32 _ (0, 0) _ S1.out.box Tryz.underlying32 rfl (by rw [C1.out]; exact info_pk) ?_)
      refine (LG.out _ S1.out).mono ?_
      rintro e W2 ⟨rfl, hb⟩
      have S2 := Lib.hid (S1.out.call hb)
      clear hb
      go_wp2_with (refine wpList_load_row rfl _ _ rfl w.heap.size rfl 32 _ (0, 0) _ S2.out.box Tryz.underlying32 rfl (by rw [C1.out]; exact info_pk) ?_)
      refine (BO.out _ S2.out).mono ?_
      rintro e W3 ⟨rfl, hb⟩
      have S3 := Lib.hid (S2.out.call hb)
      clear hb
      go_wp2_with (refine wpList_load_row rfl _ _ rfl w.heap.size rfl 32 _ (0, 0) _ S3.out.box Tryz.underlying32 rfl (by rw [C1.out]; exact info_pk) ?_)
      refine (VA.out _ S3.out).mono ?_
      rintro e W4 ⟨rfl, hb⟩
      have S4 := Lib.hid (S3.out.call hb)
      clear hb
      go_upto_if 43 with fail
      go_cut [] (fun wx => Below w.heap.size w wx)
      case first =>
        by_cases h0 : E = 0
        · obtain ⟨q1, q2, q3, q4⟩ := R1.out h0
          subst h0
          have RE := fun W => con_read v p.kind (bs AA) W (by rw [bs_size]; omega)
          rw [bs_data, q1] at RE
          have RE := Lib.hid RE
          have Q2 := Lib.hid q2
          have Q3 := Lib.hid q3
          have Q4 := Lib.hid q4
          have k0 : W4.cell? ⟨w.heap.size, 0, none⟩ = some (.int .i64 p.kind) := S4.out.cell 0
          clear q1 q2 q3 q4
          go_wp2_with fail
          refine (RE.out _).mono ?_
          rintro e W5 ⟨a5, rfl, at5, _, _, hb, _⟩
          have S5 := S4.out.call hb
          have hbx : Below W5.heap.size W5 ((W5.alloc (.cells pkZ 32)).setRow W5.heap.size (pkC p a5)) := belowRow (below_box _) (Nat.le_refl _) _
          have S6 := Lib.hid (S5.call hbx)
          have AT6 := Lib.hid (at5.below hbx)
          have R6 := Lib.hid (setRow_heap _ _ _ (pkC p a5) _ _ (heap_alloc_new W5 (.cells pkZ 32)))
          have hD1 := pkC_size p a5
          have hD2 := pkC_one p a5
          have SM := ksame_pk p a5 a _ AT6.out (HP.out.below S6.out.low) (by have := SP.out.1; omega) (by have := SP.out.2.1; omega) (by have := SP.out.2.2.1; omega) (by have := SP.out.2.2.2; omega)
          unfold pkV at SM
          generalize pkC p a5 = D5 at *
          have HD1 := Lib.hid hD1
          have HD2 := Lib.hid hD2
          have SM := Lib.hid SM
          clear hb hD1 hD2 at5 S5 k0 hbx
          go_wp2_with (first
            | (refine wpList_store_row rfl _ _ _ rfl W5.heap.size D5 rfl rfl 32 _ (heap_alloc_new W5 _) (by rw [HD1.out]; exact info_pk) (by rw [HZ.out, HD1.out]) HD2.out ?_)
            | (refine wpList_load_row_g rfl _ _ rfl W5.heap.size rfl 32 D5 (0, 0) _ R6.out Tryz.underlying32 rfl (by rw [HD1.out]; exact info_pk) ?_)
            | (refine wpList_load_row_g rfl _ _ rfl w.heap.size rfl 32 _ (0, 0) _ S6.out.box Tryz.underlying32 rfl (by rw [C1.out]; exact info_pk) ?_))
          refine (SM.out).mono ?_
          rintro e W7 ⟨rfl, hb⟩
          have S7 := Lib.hid (S6.out.call hb)
          clear hb SM
          have hm0 : 0 ≤ c % (AA.length : Int) := Int.emod_nonneg _ (by have := Q3.out; omega)
          have hm1 : c % (AA.length : Int) < (AA.length : Int) := Int.emod_lt_of_pos _ (by have := Q3.out; omega)
          obtain ⟨m, hm⟩ : ∃ m, c % (AA.length : Int) = m := ⟨_, rfl⟩
          rw [hm] at hm0 hm1
          have hcut2 := Q2.out m.toNat (by omega)
          have RC := fun W => con_read v p.kind ((bs AA).extract 0 m.toNat) W (by simp only [ByteArray.size_extract, bs_size]; have := Q4.out; omega)
          rw [cut_list] at RC
          have PI := fun W => pick_any c (AA.length : Int) W (by have := Q3.out; omega) (by have := Q4.out; omega)
          rw [hm] at PI
          obtain ⟨R, hR⟩ : ∃ R, readC v p.kind (AA.take m.toNat) = R := ⟨_, rfl⟩
          rw [hR] at RC hcut2
          have RC := Lib.hid RC
          have PI := Lib.hid PI
          have hsz : ((bs AA).size : Int) = (AA.length : Int) := by rw [bs_size]
          have HSZ := Lib.hid hsz
          have HM := Lib.hid (And.intro hm0 hm1)
          have hv1 : ((R.2 : Int) == 0) = false := by simp; omega
          clear hR hm hcut2 hm0 hm1 hsz
          go_upto_region 12 with fail
          refine back_cut (S := fun x W => BxS w p a W ∧ ∀ g, x.b = some g → ∃ old, W.heap[g]? = some (.cells old 32 (0, 0)) ∧ old.size = 25 ∧ w.heap.size < g) (R := R) (B := w.heap.size) (m := m) ⟨S7.out.draw, fun g e => by cases e⟩ (fun x W h => h.1.cell 0) HM.out.1 (by rw [HSZ.out]; exact Int.le_of_lt HM.out.2)
            (fun x W h => by
              rw [HSZ.out]
              exact (PI.out W).mono fun e w' ⟨he, hw⟩ => ⟨he, hw ▸ h⟩)
            (fun x W h => (RC.out W).mono fun e w' ⟨a', he, _, _, _, hb, _⟩ => ⟨a', he, h.1.call hb, fun g hg => by
              obtain ⟨old, ho, h25, hlt⟩ := h.2 g hg
              exact ⟨old, (hb.block g (lt_of_block ho)).trans ho, h25, hlt⟩⟩)
            (fun x W h => ⟨h.1.call (below_box _), fun g hg => by
              obtain rfl := Option.some.inj hg
              exact ⟨pkZ, heap_alloc_new W _, rfl, lt_of_block h.1.box⟩⟩)
            (fun x W h g hg => by
              obtain ⟨old, ho, h25, _⟩ := h.2 g hg
              exact ⟨old, ho, h25⟩)
            (fun x W h a' g ha hg => by
              obtain ⟨old, ho, h25, hlt⟩ := h.2 g hg
              refine ⟨⟨belowRow h.1.low (by omega) _, (setRow_other _ _ _ _ (by omega)).trans h.1.box⟩, fun g' hg' => ?_⟩
              rw [hg] at hg'
              obtain rfl := Option.some.inj hg'
              exact ⟨_, setRow_heap _ _ _ _ _ _ ho, pkC_size _ _, hlt⟩) ?_
          intro x xa xb W8 hS
          have L8 := Lib.hid hS.1.low
          clear hS
          go_wp2_with fail
          go_meet
          exact L8.out
        · have hv1 : ((E : Int) == 0) = false := by simp; omega
          have hAA := R0.out h0
          subst hAA
          have hbe : (bs ([] : List UInt8)).toList.isEmpty = true := by rw [bs_toList]; rfl
          have L4 := Lib.hid S4.out.low
          generalize bs ([] : List UInt8) = Z at *
          clear h0
          go_wp2_with fail
          go_meet
          exact L4.out
      case rest =>
        have L1 := Lib.hid hcut
        clear hcut
        have RE := fun W => con_read v kk s W HS.out
        obtain ⟨R, hR⟩ : ∃ R, readC v kk s.data.toList = R := ⟨_, rfl⟩
        have N0 : R.2 ≠ 0 → R.1 = Pk.zero := by rw [← hR]; exact read_none
        have N1 : R.2 = 0 → validC v R.1 = 0 ∧ rawC v R.1 = s.data.toList ∧ R.1.kind = kk := fun h => con_back (l := s.data.toList) (show readC v kk s.data.toList = (R.1, 0) by rw [hR, ← h])
        rw [hR] at RE
        obtain ⟨q, F⟩ := R
        have RE := Lib.hid RE
        have N0 := Lib.hid N0
        have N1 := Lib.hid N1
        clear hR
        go_wp2_with fail
        refine (RE.out _).mono ?_
        rintro e W5 ⟨a5, rfl, at5, ca5, fi5, hb, hz5⟩
        have L5 := Lib.hid (below_then L1.out hb)
        have hbx : Below W5.heap.size W5 ((W5.alloc (.cells pkZ 32)).setRow W5.heap.size (pkC q a5)) := belowRow (below_box _) (Nat.le_refl _) _
        have L6 := Lib.hid (below_then L5.out hbx)
        have R6 := Lib.hid (setRow_heap _ _ _ (pkC q a5) _ _ (heap_alloc_new W5 (.cells pkZ 32)))
        have hD1 := pkC_size q a5
        have hD2 := pkC_one q a5
        clear hb
        by_cases hF : F = 0
        · obtain ⟨n1, n2, n3⟩ := N1.out hF
          subst hF
          simp only at n1 n2 n3 at5 ca5 fi5
          have BQ := fun W (h : PkAt W q a5) => con_body v q a5 W h fi5.2.1 fi5.1 ca5
          have hbo : bodyC v q = (s.data.toList, 0) := by unfold bodyC; rw [if_neg (by simpa using n1), n2]
          rw [hbo, bs_mk] at BQ
          unfold pkV at BQ
          have BQ := Lib.hid (BQ _ (at5.below hbx))
          have hk0 : (pkC q a5)[0]? = some (.int .i64 kk) := by rw [← n3]; rfl
          generalize pkC q a5 = D5 at *
          have HD1 := Lib.hid hD1
          have HD2 := Lib.hid hD2
          have K0 := Lib.hid hk0
          clear hD1 hD2 hk0 n1 n2 n3 at5 ca5 fi5 hbo hbx hz5
          go_wp2_with (first
            | (refine wpList_store_row rfl _ _ _ rfl W5.heap.size D5 rfl rfl 32 _ (heap_alloc_new W5 _) (by rw [HD1.out]; exact info_pk) (by rw [HZ.out, HD1.out]) HD2.out ?_)
            | (refine wpList_load_row rfl _ _ rfl W5.heap.size rfl 32 D5 (0, 0) _ R6.out Tryz.underlying32 rfl (by rw [HD1.out]; exact info_pk) ?_))
          refine (BQ.out).mono ?_
          rintro e W7 ⟨rfl, hb⟩
          have L7 := Lib.hid (below_then L6.out hb)
          have k0 : W7.cell? ⟨W5.heap.size, 0, none⟩ = some (.int .i64 kk) := (cell_of_row _ _ 0 _ _ _ ((hb.block _ (lt_of_block R6.out)).trans R6.out)).trans K0.out
          clear hb BQ
          go_wp2_with fail
          go_ret
          exact ⟨rfl, L7.out⟩
        · have hq : q = Pk.zero := N0.out hF
          have ha : a5 = adZ := hz5 hF
          subst hq ha
          have hv1 : ((F : Int) == 0) = false := by simp; omega
          have hv2 : ((F : Int) != 0) = true := by simp; omega
          rw [pkC_zero] at *
          have NZ := Lib.hid none_zero
          have HD1 := Lib.hid pkZ_size
          have HD2 := Lib.hid hD2
          have R6 := Lib.hid R6.out
          clear hF hz5 at5 ca5 fi5 hbx hD1 hD2
          go_wp2_with (first
            | (refine wpList_store_row rfl _ _ _ rfl W5.heap.size pkZ rfl rfl 32 _ (heap_alloc_new W5 _) (by rw [HZ.out]; exact info_pk) rfl HD2.out ?_)
            | (refine wpList_load_row rfl _ _ rfl W5.heap.size rfl 32 pkZ (0, 0) _ R6.out Tryz.underlying32 rfl (by rw [HD1.out]; exact info_pk) ?_))
          refine (NZ.out _).mono ?_
          rintro e W7 ⟨rfl, hb⟩
          have L7 := Lib.hid (below_then L6.out hb)
          clear hb
          go_wp2_with fail
          go_ret
          exact ⟨rfl, L7.out⟩
end Go.Proofs.YtbgpcmbaodjibaaGreat
namespace Go.Proofs.YtbgpcmbaodjibaaGreat
open Go.RowKit

/-- A CONNECT of a client, by itself; with a will, a user and a password; with a wrong topic; with a user that isn't told; with a password only. -/
def plainP : Pk := { Pk.zero with kind := 1, clean := true, keep := 10, client := [99] }
def fullP : Pk := { plainP with hasWill := true, wTopic := [119], wPayload := [112], wQos := 1, wRetain := true, hasUser := true, user := [117], hasPass := true, pass := [115] }
def oddP : Pk := { fullP with wTopic := [35] }
def lostP : Pk := { plainP with user := [117] }
def oldP : Pk := { plainP with hasPass := true }
/-- A packet without lists, of short texts and small numbers. -/
def bareP (p : Pk) : Bool := p.codes.isEmpty && p.filters.isEmpty && p.props.isEmpty && p.wProps.isEmpty && p.texts.all (fun t => decide (t.length ≤ 100)) && decide (0 ≤ p.kind ∧ p.kind ≤ 100) && decide (0 ≤ p.qos ∧ p.qos ≤ 100) && decide (0 ≤ p.wQos ∧ p.wQos ≤ 100)
theorem bare_parts {p : Pk} (h : bareP p = true) : (∀ w, PkAt w p adZ) ∧ Short p ∧ PkOk p ∧ PkCap p adZ := by
  simp only [bareP, Bool.and_eq_true, List.isEmpty_iff, decide_eq_true_eq, List.all_eq_true] at h
  obtain ⟨⟨⟨⟨⟨⟨⟨h1, h2⟩, h3⟩, h4⟩, h5⟩, h6⟩, h7⟩, h8⟩ := h
  refine ⟨fun w => ⟨fun e => absurd h4 e, fun e => absurd (by rw [h1]; rfl) e, fun e => absurd (by rw [h2]; rfl) e, fun e => absurd h3 e⟩, ⟨by rw [h1]; decide, by rw [h2]; decide, by rw [h3]; decide, by rw [h4]; decide⟩, ⟨⟨by omega, by omega⟩, ⟨by omega, by omega⟩, fun t ht => ?_, fun x hx => ?_, fun x hx => ?_, fun x hx => ?_⟩, ⟨by rw [h3]; decide, by rw [h4]; decide, by omega, by omega⟩⟩
  · have := h5 t ht; omega
  · rw [h4] at hx; nomatch hx
  · rw [h3] at hx; nomatch hx
  · rw [h2] at hx; nomatch hx
theorem nm_body {p : Pk} (hb : bareP p = true) (v : Int) {l : List UInt8} (h : bodyC v p = (l, 0)) : ∀ W, Calls Tryz.prog 8 #[.int .i64 v, .agg (pkC p adZ)] W fun e w' => e = .returned (.tuple #[.string (bs l), .int .i64 0]) ∧ Below W.heap.size W w' := fun W => by
  obtain ⟨h1, h2, h3, h4⟩ := bare_parts hb
  have := con_body v p adZ W (h1 W) h2 h3 h4
  rw [h] at this
  exact this
theorem nm_valid {p : Pk} (hb : bareP p = true) (v : Int) {k : Int} (h : ((validC v p : Nat) : Int) = k) : ∀ W, Calls Tryz.prog 13 #[.int .i64 v, .agg (pkC p adZ)] W fun e w' => e = .returned (.int .i64 k) ∧ Below W.heap.size W w' := fun W => by
  obtain ⟨h1, h2, h3, h4⟩ := bare_parts hb
  have := con_valid v p adZ W (h1 W) h2 h3 h4
  rw [h] at this
  exact this
theorem nm_flags (p : Pk) {k : Int} (h : ((flagsC p : Nat) : Int) = k) : ∀ W, Calls Tryz.prog 12 #[.agg (pkC p adZ)] W fun e w' => e = .returned (.int .i64 k) ∧ Below W.heap.size W w' := fun W => by
  have := con_flags p adZ W
  rw [h] at this
  exact this
theorem nm_read (v k : Int) (s : ByteArray) {n : Nat} {E : Int} (hm : s.size ≤ 9223372036854775807) (h : (readC v k s.data.toList).2 = n) (hn : n ≠ 0) (he : (n : Int) = E) : ∀ W, Calls Tryz.prog 10 #[.int .i64 v, .int .i64 k, .string s] W fun e w' => e = .returned (.tuple #[.agg pkZ, .int .i64 E]) ∧ Below W.heap.size W w' := fun W => by
  refine (con_read v k s W hm).mono ?_
  rintro e w' ⟨a, rfl, _, _, _, hb, hz⟩
  refine ⟨?_, hb⟩
  have h0 : (readC v k s.data.toList).2 ≠ 0 := by rw [h]; exact hn
  rw [hz h0, read_none h0, h, he, pkC_zero]
theorem nm_read0 (s : ByteArray) (hs : s.data.toList = [0, 4, 77, 81, 84, 84, 4, 2, 0, 10, 0, 1, 99]) : ∀ W, Calls Tryz.prog 10 #[.int .i64 4, .int .i64 1, .string s] W fun e w' => ∃ a, e = .returned (.tuple #[.agg (pkC plainP a), .int .i64 0]) ∧ PkAt w' plainP a ∧ Below W.heap.size W w' := fun W => by
  have hm : s.size ≤ 9223372036854775807 := by
    have : s.size = 13 := by
      show s.data.size = 13
      rw [← Array.length_toList, hs]; rfl
    omega
  refine (con_read 4 1 s W hm).mono ?_
  rw [hs, show readC 4 1 [0, 4, 77, 81, 84, 84, 4, 2, 0, 10, 0, 1, 99] = (plainP, 0) by decide +kernel]
  rintro e w' ⟨a, rfl, h1, _, _, hb, _⟩
  exact ⟨a, rfl, h1, hb⟩
/-- The law's plain. -/
theorem nm_plain (W : World) : Calls Tryz.prog 9 #[] W fun e w' => e = .returned (.agg (pkC plainP adZ)) ∧ Below W.heap.size W w' := by
  have HZ := Lib.hid pkZ_size
  have hzv := zero_pk
  have hne : ¬ pkZ = #[] := by intro h; have := pkZ_size; rw [h] at this; cases this
  obtain ⟨D, hD⟩ : ∃ D, pkC plainP adZ = D := ⟨_, rfl⟩
  have hD1 : D.size = 25 := by rw [← hD]; exact pkC_size _ _
  have hD2 : D.all (·.oneCell') = true := by rw [← hD]; exact pkC_one _ _
  rw [hD]
  have HD := Lib.hid hD
  have HD1 := Lib.hid hD1
  have HD2 := Lib.hid hD2
  have LO : Below W.heap.size W ((W.alloc (.cells pkZ 32)).setRow W.heap.size D) := belowRow (below_box _) (Nat.le_refl _) _
  have LO := Lib.hid LO
  clear hD hD1 hD2
  go_enter Tryz.func9, Tryz.ntmps9
  go_wp2_with (first
    | (refine wpList_buildTo rfl 32 _ rfl (some _) rfl D (by rw [← HD.out]; kernel_rfl) ?_)
    | (refine wpList_store_row rfl _ _ _ rfl W.heap.size D rfl rfl 32 _ (heap_alloc_new W _) (by rw [HD1.out]; exact info_pk) (by rw [HZ.out, HD1.out]) HD2.out ?_))
  exact ret_row (cs := D) rfl rfl rfl Tryz.underlying32 rfl (by rw [HD1.out]; exact info_pk) (setRow_heap _ _ _ _ _ _ (heap_alloc_new W _)) ⟨rfl, LO.out⟩
/-- What stands while ConnectNames runs: some packets. -/
structure NmS (w : World) (L : List (Nat × Array Value)) (W : World) : Prop where
  low : Below w.heap.size w W
  row : ∀ x ∈ L, w.heap.size ≤ x.1 ∧ W.heap[x.1]? = some (.cells x.2 32 (0, 0))
  dif : L.Pairwise fun x y => y.1 < x.1
theorem NmS.call {w W W' : World} {L : List (Nat × Array Value)} (h : NmS w L W) (hb : Below W.heap.size W W') : NmS w L W' := ⟨below_then h.low hb, fun x hx => ⟨(h.row x hx).1, (hb.block _ (lt_of_block (h.row x hx).2)).trans (h.row x hx).2⟩, h.dif⟩
theorem nm_box (W : World) (D : Array Value) : Below W.heap.size W ((W.alloc (.cells pkZ 32)).setRow W.heap.size D) := belowRow (below_box _) (Nat.le_refl _) _
theorem NmS.junk {w W : World} {L : List (Nat × Array Value)} (h : NmS w L W) : NmS w L ((W.alloc (.cells pkZ 32)).setRow W.heap.size pkZ) := h.call (nm_box W _)
theorem NmS.put {w W : World} {L : List (Nat × Array Value)} (h : NmS w L W) (D : Array Value) : NmS w ((W.heap.size, D) :: L) ((W.alloc (.cells pkZ 32)).setRow W.heap.size D) := by
  have h2 := h.call (nm_box W D)
  refine ⟨h2.low, fun x hx => ?_, List.pairwise_cons.2 ⟨fun x hx => lt_of_block (h.row x hx).2, h.dif⟩⟩
  rcases List.mem_cons.1 hx with rfl | hx
  · exact ⟨h.low.size, setRow_heap _ _ _ D _ _ (heap_alloc_new W (.cells pkZ 32))⟩
  · exact h2.row x hx
theorem NmS.set {w W : World} {L : List (Nat × Array Value)} {g : Nat} {D : Array Value} (h : NmS w ((g, D) :: L) W) (j : Nat) (v : Value) : NmS w ((g, D.setIfInBounds j v) :: L) (W.setCell ⟨g, j, none⟩ v) := by
  have hg := h.row (g, D) (List.mem_cons_self ..)
  have hd := List.pairwise_cons.1 h.dif
  refine ⟨h.low.setCell (p := ⟨g, j, none⟩) hg.1 v, fun x hx => ?_, List.pairwise_cons.2 hd⟩
  rcases List.mem_cons.1 hx with rfl | hx
  · exact ⟨hg.1, setCell_block hg.2 j v⟩
  · have hx2 := h.row x (List.mem_cons_of_mem _ hx)
    exact ⟨hx2.1, (heap_setCell_other W ⟨g, j, none⟩ _ v (show x.1 ≠ g from Nat.ne_of_lt (hd.1 x hx))).trans hx2.2⟩
theorem NmS.drew {w W : World} {L : List (Nat × Array Value)} (h : NmS w L W) : NmS w L W.drew := ⟨h.low.drew, h.row, h.dif⟩
theorem nm_there {W : World} {g : Nat} {D : Array Value} (h : W.heap[g]? = some (.cells D 32 (0, 0))) {o n : Nat} (hn : o + n ≤ D.size) : W.there g o n := fun j hj => ⟨by rw [cell_of_row _ _ (o + j) _ _ _ h, Array.getElem?_eq_getElem (by omega)]; rfl, frozen_of_row _ _ _ _ _ h⟩
theorem NmS.hd {w W : World} {L : List (Nat × Array Value)} {g : Nat} {D : Array Value} (h : NmS w ((g, D) :: L) W) : W.heap[g]? = some (.cells D 32 (0, 0)) := (h.row (g, D) (List.mem_cons_self ..)).2
theorem NmS.cell {w W : World} {L : List (Nat × Array Value)} {g : Nat} {D : Array Value} (h : NmS w ((g, D) :: L) W) (j : Nat) : W.cell? ⟨g, j, none⟩ = D[j]? := cell_of_row _ _ j _ _ _ h.hd
theorem NmS.open {w W : World} {L : List (Nat × Array Value)} {g : Nat} {D : Array Value} (h : NmS w ((g, D) :: L) W) (j : Nat) : W.frozen? ⟨g, j, none⟩ = false := frozen_of_row _ _ _ _ _ h.hd
end Go.Proofs.YtbgpcmbaodjibaaGreat
