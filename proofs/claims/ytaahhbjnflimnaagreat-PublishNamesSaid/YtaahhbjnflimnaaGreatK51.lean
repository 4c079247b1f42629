/-
  The contracts of publish's described, readTopic, readID, readProps. Condition: the bytes are no more than an int says.
-/
import Derived.Deep.DeepCutAuto
import Derived.Test.YtaahhbjnflimnaaGreatK49
import Derived.Test.YtaahhbjnflimnaaGreatK50
import Derived.Test.YtaahhbjnflimnaaGreatK04
namespace Go.Proofs.YtaahhbjnflimnaaGreat
open Go.RowKit

set_option maxRecDepth 100000 in
set_option maxHeartbeats 1000000 in
theorem pub_described (f : Int) (w : World) : Calls Tryz.prog 76 #[.int .i64 f] w fun e w' => e = .returned (.agg (pkC (descB f) adZ)) ∧ Below w.heap.size w w' := by
  obtain ⟨D, hD⟩ : ∃ D, pkC (descB f) adZ = D := ⟨_, rfl⟩
  have hD1 : D.size = 25 := by rw [← hD]; exact pkC_size _ _
  have hD2 : D.all (·.oneCell') = true := by rw [← hD]; exact pkC_one _ _
  rw [hD]
  have HD := Lib.hid hD
  have HD1 := Lib.hid hD1
  have HD2 := Lib.hid hD2
  have HZ := Lib.hid pkZ_size
  have hzv := zero_pk
  have hne : ¬ pkZ = #[] := by intro h; have := pkZ_size; rw [h] at this; cases this
  have LO := Lib.hid (belowRow (below_box (w := w) (.cells pkZ 28)) (Nat.le_refl _) D)
  clear hD hD1 hD2
  go_enter Tryz.func76, Tryz.ntmps76
  go_wp2_with (first
    | (refine wpList_buildTo rfl 28 _ rfl (some _) rfl D (by rw [← HD.out]; kernel_rfl) ?_)
    | (refine wpList_store_row rfl _ _ _ rfl w.heap.size D rfl rfl 28 _ (heap_alloc_new w _) (by rw [HD1.out]; exact info_pk) (by rw [HZ.out, HD1.out]) HD2.out ?_))
  exact ret_row (cs := D) rfl rfl rfl Tryz.underlying28 rfl (by rw [HD1.out]; exact info_pk) (setRow_heap _ _ _ _ _ _ (heap_alloc_new w _)) ⟨rfl, LO.out⟩
theorem bs_drop (s : ByteArray) (i : Nat) (hi : i ≤ s.size) : s.extract i s.size = bs (s.data.toList.drop i) := by
  have h := extract_take s i (s.size - i)
  rw [Nat.add_sub_cancel' hi] at h
  rw [h, List.take_of_length_le (by rw [List.length_drop, ← size_list]; exact Nat.le_refl _)]
/-- Three results, the second one a string. -/
def Ret3 (w : World) (v : Value) (r : List UInt8) (f : Nat) (e : Ending) (w' : World) : Prop := e = .returned (.tuple #[v, .string (bs r), .int .i64 (f : Int)]) ∧ Below w.heap.size w w'
set_option maxRecDepth 100000 in
set_option maxHeartbeats 1000000 in
theorem pub_read_topic (s : ByteArray) (w : World) (hm : s.size ≤ 9223372036854775807) : Calls Tryz.prog 81 #[.string s] w (Ret3 w (.string (bs (rdT s.data.toList).1)) (s.data.toList.drop (rdT s.data.toList).2.1) (rdT s.data.toList).2.2) := by
  have RD := us_read_any s w hm
  have hz : (rdT s.data.toList).2.1 ≤ s.size := by rw [size_list]; exact (rdT_le _).1
  unfold ok3 at RD
  obtain ⟨t, ht⟩ : ∃ t, rdT s.data.toList = t := ⟨_, rfl⟩
  rw [ht] at RD hz ⊢
  obtain ⟨x, z, f⟩ := t
  have hz : z ≤ s.size := hz
  have hd := bs_drop s z hz
  have hz2 : (z : Int) ≤ (s.size : Int) := by omega
  obtain ⟨R, hR⟩ : ∃ R, bs (s.data.toList.drop z) = R := ⟨_, rfl⟩
  rw [hR] at hd
  have HR := Lib.hid hR
  replace RD := Lib.hid RD
  have HZ := Lib.hid hz
  clear hz ht hR
  simp only at RD ⊢
  go_enter Tryz.func81, Tryz.ntmps81
  go_wp2_with fail
  refine (RD.out).mono ?_
  rintro e W ⟨rfl, hb⟩
  have L := Lib.hid hb
  clear hb
  have hz := HZ.out
  go_upto_region 2 with fail
  go_region
  go_wp2_with fail
  go_ret3
  refine ⟨?_, L.out.drew⟩
  rw [HR.out]
  rfl
set_option maxRecDepth 100000 in
set_option maxHeartbeats 1000000 in
theorem pub_read_id (q : Int) (s : ByteArray) (w : World) (hm : s.size ≤ 9223372036854775807) : Calls Tryz.prog 83 #[.int .i64 q, .string s] w (Ret3 w (.int .i64 (((Cs.mk s.data.toList 0).optN (q != 0)).1 : Nat)) ((Cs.mk s.data.toList 0).optN (q != 0)).2.r ((Cs.mk s.data.toList 0).optN (q != 0)).2.e) := by
  by_cases hq : q = 0
  · have e1 : (q == 0) = true := by simpa using hq
    have e2 : (q != 0) = false := by simpa using hq
    rw [e2]
    clear hq
    show Calls _ _ _ _ (Ret3 w (.int .i64 (0 : Nat)) s.data.toList 0)
    have LO := Lib.hid (Below.refl w.heap.size w)
    go_enter Tryz.func83, Tryz.ntmps83
    go_wp2_with fail
    go_ret3
    exact ⟨rfl, LO.out⟩
  · have e1 : (q == 0) = false := by simpa using hq
    have e2 : (q != 0) = true := by simpa using hq
    rw [e2]
    clear hq
    show Calls _ _ _ _ (Ret3 w (.int .i64 (((Cs.mk s.data.toList 0).num 2).1 : Nat)) ((Cs.mk s.data.toList 0).num 2).2.r ((Cs.mk s.data.toList 0).num 2).2.e)
    have hn : ((Cs.mk s.data.toList 0).num 2).1 < 65536 := Nat.lt_of_lt_of_le (num_lt (((Cs.mk s.data.toList 0).take 2).1)) (by
      have : ((Cs.mk s.data.toList 0).take 2).1.length ≤ 2 := by
        unfold Cs.take
        split
        · exact Nat.zero_le _
        · split
          · exact Nat.zero_le _
          · simp; omega
      exact Nat.pow_le_pow_right (by decide) this)
    have NU := fun W cb (h : CsAt W cb s ⟨s.data.toList, 0⟩) => cs_num 2 (by decide) hm h
    obtain ⟨z, hz⟩ : ∃ z, (Cs.mk s.data.toList 0).num 2 = z := ⟨_, rfl⟩
    rw [hz] at NU hn ⊢
    obtain ⟨n, y⟩ := z
    simp only at NU hn ⊢
    have hn1 : (n : Int) < 65536 := by omega
    have RS := fun W cb (h : CsAt W cb s y) => (show Calls Tryz.prog 117 #[.pointer (some ⟨cb, 0, none⟩)] W fun e W' => e = .returned (.string (bs y.r)) ∧ ∃ k, W' = W.drewN k from by
      obtain ⟨i, hi, hc, hr⟩ := h
      have := rest_yes hc hi hm
      rw [bs_drop s i hi, hr] at this
      exact this)
    have ER := fun W cb (h : CsAt W cb s y) => cs_err h
    replace NU := Lib.hid NU
    replace RS := Lib.hid RS
    replace ER := Lib.hid ER
    clear hm hz hn
    go_enter Tryz.func83, Tryz.ntmps83
    go_wp2_with fail
    refine (new_any s _).mono ?_
    rintro e W ⟨rfl, hc, hb, hz⟩
    have C0 := Lib.hid (show CsAt W w.heap.size s ⟨s.data.toList, 0⟩ from ⟨0, Nat.zero_le _, hc, by simp⟩)
    have L0 := Lib.hid hb
    clear hc hb hz
    go_wp2_with fail
    refine (NU.out _ _ C0.out).mono ?_
    rintro e W2 ⟨rfl, hc, hg⟩
    have C1 := Lib.hid hc
    have L1 := Lib.hid (L0.out.grown hg L0.out.size (fun k e => by have := Option.some.inj e; omega))
    clear hc hg
    go_wp2_with fail
    refine (RS.out _ _ C1.out).mono ?_
    rintro e W3 ⟨rfl, k, rfl⟩
    have C2 := Lib.hid (C1.out.below (below_draws (Below.refl _ _) k))
    have L2 := Lib.hid (below_then L1.out (below_draws (Below.refl _ _) k))
    go_wp2_with fail
    refine (ER.out _ _ C2.out).mono ?_
    rintro e W4 ⟨rfl, rfl⟩
    go_wp2_with fail
    go_ret3
    exact ⟨rfl, L2.out⟩
set_option maxRecDepth 100000 in
set_option maxHeartbeats 1000000 in
theorem pub_read_props (v : Int) (s : ByteArray) (w : World) (hm : s.size ≤ 9223372036854775807) : Calls Tryz.prog 85 #[.int .i64 v, .string s] w fun e w' => ∃ A c, Ret3 w (.slice A ((Cs.mk s.data.toList 0).props v 3).1.length c) ((Cs.mk s.data.toList 0).props v 3).2.r ((Cs.mk s.data.toList 0).props v 3).2.e e w' ∧ ((Cs.mk s.data.toList 0).props v 3).1.length ≤ c ∧ PL w' A ((Cs.mk s.data.toList 0).props v 3).1 ∧ ∀ g i, A = some ⟨g, i, none⟩ → w.heap.size ≤ g := by
  by_cases h5 : v = 5
  · have e1 : (v == 5) = true := by simpa using h5
    have e2 : (v != 5) = false := by simpa using h5
    have ep : (Cs.mk s.data.toList 0).props v 3 = ((readP 3 s.data.toList).1, ⟨s.data.toList.drop (readP 3 s.data.toList).2.1, (readP 3 s.data.toList).2.2⟩) := by
      unfold Cs.props
      rw [if_neg (by simp [h5])]
    rw [ep]
    obtain ⟨L, k, F, hq⟩ : ∃ L k F, readP 3 s.data.toList = (L, k, F) := ⟨_, _, _, rfl⟩
    have RD := prop_read_far 3 s L k F (by decide) (by decide) hm hq w
    have hk2 : k ≤ s.size := by
      by_cases hF : F = 0
      · subst hF
        have := (read_back hq).2.1
        rw [size_list]; omega
      · have := read_err (kind := 3) (s := s.data.toList) (by rw [hq]; exact hF)
        rw [hq] at this
        have : k = 0 := congrArg (fun z => z.2.1) this
        omega
    rw [hq]
    have hd := bs_drop s k hk2
    have hz2 : (k : Int) ≤ (s.size : Int) := by omega
    obtain ⟨R, hR⟩ : ∃ R, bs (s.data.toList.drop k) = R := ⟨_, rfl⟩
    rw [hR] at hd
    have HR := Lib.hid hR
    have HK := Lib.hid hk2
    replace RD := Lib.hid RD
    clear hk2 hq hR ep h5 hm
    simp only
    go_enter Tryz.func85, Tryz.ntmps85
    go_wp2_with fail
    refine (RD.out).mono ?_
    rintro e W ⟨hb, A, c, rfl, hl, hP, _, _, hg⟩
    have X := Lib.hid (show L.length ≤ c ∧ PL W.drew A L ∧ (∀ g i, A = some ⟨g, i, none⟩ → w.heap.size ≤ g) ∧ Below w.heap.size w W.drew from ⟨hl, hP.below (Below.refl _ _).drew, hg, hb.drew⟩)
    have hz := HK.out
    clear hb hl hP hg
    go_upto_region 4 with fail
    go_region
    go_wp2_with fail
    go_ret3
    refine ⟨A, c, ⟨?_, X.out.2.2.2⟩, X.out.1, X.out.2.1, X.out.2.2.1⟩
    rw [HR.out]
    rfl
  · have e1 : (v == 5) = false := by simpa using h5
    have e2 : (v != 5) = true := by simpa using h5
    have ep : (Cs.mk s.data.toList 0).props v 3 = ([], ⟨s.data.toList, 0⟩) := by
      unfold Cs.props
      rw [if_pos (.inr h5)]
    rw [ep]
    have LO := Lib.hid (Below.refl w.heap.size w)
    clear ep h5
    go_enter Tryz.func85, Tryz.ntmps85
    go_wp2_with fail
    go_ret3
    exact ⟨none, 0, ⟨rfl, LO.out⟩, Nat.zero_le _, (fun e => absurd rfl e), (fun g i e => by cases e)⟩
end Go.Proofs.YtaahhbjnflimnaaGreat
