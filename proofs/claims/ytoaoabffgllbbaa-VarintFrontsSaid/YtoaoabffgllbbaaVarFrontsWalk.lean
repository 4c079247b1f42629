/-
  The walk of VarintFronts. No condition.
-/
import Derived.Test.YtoaoabffgllbbaaVarSt
import Derived.Test.YtoaoabffgllbbaaVarBackWalk
namespace Go.Proofs.Ytoaoabffgllbbaa
open Go.RowKit

/-- Behind k bytes of N, of c: the reader. -/
def FrAt (w : World) (R N c k : Nat) (W : World) : Prop := (k < c ∧ VSt w W R (N % 128 ^ k) k 0) ∨ (k = c ∧ VSt w W R N c 1)

set_option maxRecDepth 100000 in
set_option maxHeartbeats 4000000 in
theorem fronts_core (n m : Int) (N M c d : Nat) (A B : ByteArray) (w : World)
    (hN : n % 268435456 = N) (hM : m % 268435456 = M) (hc0 : 1 ≤ c) (hc4 : c ≤ 4) (hd4 : d ≤ 4) (hA : A.size = c) (hB : B.size = d)
    (hbyN : BytesOf N A) (hbyM : BytesOf M B) (hfront : ∀ k, k < c → ReadsAs (A.extract 0 k) 0 0 3)
    (hmore : ∀ k (h : k < A.size), k + 1 < c → nxt A[k] (k + 1) = 0 ∧ grow (N % 128 ^ k) k A[k] = N % 128 ^ (k + 1))
    (hend : ∀ k (h : k < A.size), k + 1 = c → nxt A[k] (k + 1) = 1 ∧ grow (N % 128 ^ k) k A[k] = N)
    (hcmp : N = M ∨ (N ≠ M ∧ d < c) ∨ (N ≠ M ∧ c ≤ d ∧ (A.toList == (B.extract 0 c).toList) = false)) :
    Calls Try.prog 7 #[.int .i64 n, .int .i64 m] w fun e w' => e = .returned (.bool true) ∧ Below w.heap.size w w' := by
  have HN := Lib.hid hN
  have HM := Lib.hid hM
  have BN := Lib.hid hbyN
  have BM := Lib.hid hbyM
  have FR := Lib.hid hfront
  have MO := Lib.hid hmore
  have EN := Lib.hid hend
  clear hN hM hbyN hbyM hfront hmore hend
  have CMP := Lib.hid hcmp
  clear hcmp
  go_enter Try.func7, Try.ntmps7
  go_wp2_with fail
  refine (lives2 _).mono ?_
  rintro e W ⟨rfl, hb⟩
  go_wp2_with fail
  refine (pick_any _ 268435456 _ (by decide) (by decide)).mono ?_
  rintro e W ⟨rfl, rfl⟩
  rw [HN.out]
  go_wp2_with fail
  refine (pick_any _ 268435456 _ (by decide) (by decide)).mono ?_
  rintro e W ⟨rfl, rfl⟩
  rw [HM.out]
  go_wp2_with fail
  refine (BN.out _).mono ?_
  rintro e W ⟨rfl, h⟩
  replace hb := hb.trans (h.mono hb.size)
  clear h
  go_wp2_with fail
  refine (BM.out _).mono ?_
  rintro e W ⟨rfl, h⟩
  replace hb := hb.trans (h.mono hb.size)
  clear h
  rcases CMP.out with h | ⟨h, h2⟩ | ⟨h, h2, h3⟩
  · have hne : ((N : Int) != (M : Int)) = false := by subst h; simp
    clear h
    go_wp2_with fail
    refine (vst_new hb).mono ?_
    rintro e W ⟨R, rfl, hv⟩
    clear hb
    have AT := Lib.hid (show FrAt w R N c 0 W from .inl ⟨by omega, by rw [Nat.pow_zero, Nat.mod_one]; exact hv⟩)
    clear hv
    go_wp2_with fail
    go_loopw [10] (fun i wr => ∃ k : Nat, k ≤ c ∧ i = .int .i64 k ∧ FrAt w R N c k wr) (fun i _ => c - (intOf i).toNat)
    case atStart => exact ⟨0, Nat.zero_le _, rfl, AT.out⟩
    case round =>
      obtain ⟨k, hk, rfl, hat⟩ := hrel
      clear AT
      by_cases hlt : k < c
      · have hv : VSt w wr R (N % 128 ^ k) k 0 := by
          rcases hat with ⟨_, h⟩ | ⟨h, _⟩
          · exact h
          · exact absurd h (by omega)
        clear hat
        have hkA : k < A.size := by omega
        have FK := Lib.hid (FR.out k hlt)
        have hv128 : N % 128 ^ k < 128 ^ k := Nat.mod_lt _ (Nat.pow_pos (by decide))
        have HV := Lib.hid hv128
        clear hv128
        by_cases hl : k + 1 < c
        · have hm := MO.out k hkA hl
          have NX := Lib.hid hm.1
          have GR := Lib.hid hm.2
          clear hm
          have hbe : ((k : Int) + 1 == (c : Int)) = false := by simp; omega
          go_wp2_with fail
          refine (vst_made hv (FK.out _)).mono ?_
          rintro e W ⟨rfl, hv⟩
          go_wp2_with fail
          refine (vst_same hv (rd_value_no hv.2.2 (by decide))).mono ?_
          rintro e W ⟨rfl, hv⟩
          go_wp2_with fail
          refine (vst_mut hv (rd_push_more A[k] hv.2.2 HV.out (by omega) NX.out)).mono ?_
          rintro e W ⟨rfl, hv⟩
          go_wp2_with fail
          go_roundw
          case rel => exact ⟨k + 1, by omega, by go_num, .inl ⟨hl, by rw [← GR.out]; exact hv⟩⟩
          case measure => simp [intOf]; omega
        · have hm := EN.out k hkA (by omega)
          have NX := Lib.hid hm.1
          have GR := Lib.hid hm.2
          clear hm
          have hbe : ((k : Int) + 1 == (c : Int)) = true := by simp; omega
          go_wp2_with fail
          refine (vst_made hv (FK.out _)).mono ?_
          rintro e W ⟨rfl, hv⟩
          go_wp2_with fail
          refine (vst_same hv (rd_value_no hv.2.2 (by decide))).mono ?_
          rintro e W ⟨rfl, hv⟩
          go_wp2_with fail
          refine (vst_mut hv (rd_push_last A[k] hv.2.2 HV.out (by omega) NX.out)).mono ?_
          rintro e W ⟨rfl, hv⟩
          go_wp2_with fail
          go_roundw
          case rel => exact ⟨k + 1, by omega, by go_num, .inr ⟨by omega, by rw [← GR.out, show c = k + 1 by omega]; exact hv⟩⟩
          case measure => simp [intOf]; omega
      · obtain rfl : k = c := by omega
        have hv : VSt w wr R N k 1 := by
          rcases hat with ⟨h, _⟩ | ⟨_, h⟩
          · exact absurd h (by omega)
          · exact h
        clear hat
        go_wp2_with fail
        refine (vst_same hv (rd_value_yes hv.2.2)).mono ?_
        rintro e W ⟨rfl, hv⟩
        go_wp2_with fail
        refine (vst_same hv (rd_size hv.2.2)).mono ?_
        rintro e W ⟨rfl, hv⟩
        go_wp2_with fail
        go_ret
        exact ⟨rfl, hv.1⟩
  · have hne : ((N : Int) != (M : Int)) = true := by simp; omega
    have hle : decide (c ≤ d) = false := decide_eq_false (by omega)
    have hle2 : ¬ c ≤ d := by omega
    clear h
    go_wp2_with fail
    refine (vst_new hb).mono ?_
    rintro e W ⟨R, rfl, hv⟩
    clear hb
    have AT := Lib.hid (show FrAt w R N c 0 W from .inl ⟨by omega, by rw [Nat.pow_zero, Nat.mod_one]; exact hv⟩)
    clear hv
    go_wp2_with fail
    go_loopw [10] (fun i wr => ∃ k : Nat, k ≤ c ∧ i = .int .i64 k ∧ FrAt w R N c k wr) (fun i _ => c - (intOf i).toNat)
    case atStart => exact ⟨0, Nat.zero_le _, rfl, AT.out⟩
    case round =>
      obtain ⟨k, hk, rfl, hat⟩ := hrel
      clear AT
      by_cases hlt : k < c
      · have hv : VSt w wr R (N % 128 ^ k) k 0 := by
          rcases hat with ⟨_, h⟩ | ⟨h, _⟩
          · exact h
          · exact absurd h (by omega)
        clear hat
        have hkA : k < A.size := by omega
        have FK := Lib.hid (FR.out k hlt)
        have hv128 : N % 128 ^ k < 128 ^ k := Nat.mod_lt _ (Nat.pow_pos (by decide))
        have HV := Lib.hid hv128
        clear hv128
        by_cases hl : k + 1 < c
        · have hm := MO.out k hkA hl
          have NX := Lib.hid hm.1
          have GR := Lib.hid hm.2
          clear hm
          have hbe : ((k : Int) + 1 == (c : Int)) = false := by simp; omega
          go_wp2_with fail
          refine (vst_made hv (FK.out _)).mono ?_
          rintro e W ⟨rfl, hv⟩
          go_wp2_with fail
          refine (vst_same hv (rd_value_no hv.2.2 (by decide))).mono ?_
          rintro e W ⟨rfl, hv⟩
          go_wp2_with fail
          refine (vst_mut hv (rd_push_more A[k] hv.2.2 HV.out (by omega) NX.out)).mono ?_
          rintro e W ⟨rfl, hv⟩
          go_wp2_with fail
          go_roundw
          case rel => exact ⟨k + 1, by omega, by go_num, .inl ⟨hl, by rw [← GR.out]; exact hv⟩⟩
          case measure => simp [intOf]; omega
        · have hm := EN.out k hkA (by omega)
          have NX := Lib.hid hm.1
          have GR := Lib.hid hm.2
          clear hm
          have hbe : ((k : Int) + 1 == (c : Int)) = true := by simp; omega
          go_wp2_with fail
          refine (vst_made hv (FK.out _)).mono ?_
          rintro e W ⟨rfl, hv⟩
          go_wp2_with fail
          refine (vst_same hv (rd_value_no hv.2.2 (by decide))).mono ?_
          rintro e W ⟨rfl, hv⟩
          go_wp2_with fail
          refine (vst_mut hv (rd_push_last A[k] hv.2.2 HV.out (by omega) NX.out)).mono ?_
          rintro e W ⟨rfl, hv⟩
          go_wp2_with fail
          go_roundw
          case rel => exact ⟨k + 1, by omega, by go_num, .inr ⟨by omega, by rw [← GR.out, show c = k + 1 by omega]; exact hv⟩⟩
          case measure => simp [intOf]; omega
      · obtain rfl : k = c := by omega
        have hv : VSt w wr R N k 1 := by
          rcases hat with ⟨h, _⟩ | ⟨_, h⟩
          · exact absurd h (by omega)
          · exact h
        clear hat
        go_wp2_with fail
        refine (vst_same hv (rd_value_yes hv.2.2)).mono ?_
        rintro e W ⟨rfl, hv⟩
        go_wp2_with fail
        refine (vst_same hv (rd_size hv.2.2)).mono ?_
        rintro e W ⟨rfl, hv⟩
        go_wp2_with fail
        go_ret
        exact ⟨rfl, hv.1⟩
  · have hne : ((N : Int) != (M : Int)) = true := by simp; omega
    have hle : decide (c ≤ d) = true := decide_eq_true (by omega)
    clear h
    go_wp2_with fail
    refine (vst_new hb).mono ?_
    rintro e W ⟨R, rfl, hv⟩
    clear hb
    have AT := Lib.hid (show FrAt w R N c 0 W from .inl ⟨by omega, by rw [Nat.pow_zero, Nat.mod_one]; exact hv⟩)
    clear hv
    go_wp2_with fail
    go_loopw [10] (fun i wr => ∃ k : Nat, k ≤ c ∧ i = .int .i64 k ∧ FrAt w R N c k wr) (fun i _ => c - (intOf i).toNat)
    case atStart => exact ⟨0, Nat.zero_le _, rfl, AT.out⟩
    case round =>
      obtain ⟨k, hk, rfl, hat⟩ := hrel
      clear AT
      by_cases hlt : k < c
      · have hv : VSt w wr R (N % 128 ^ k) k 0 := by
          rcases hat with ⟨_, h⟩ | ⟨h, _⟩
          · exact h
          · exact absurd h (by omega)
        clear hat
        have hkA : k < A.size := by omega
        have FK := Lib.hid (FR.out k hlt)
        have hv128 : N % 128 ^ k < 128 ^ k := Nat.mod_lt _ (Nat.pow_pos (by decide))
        have HV := Lib.hid hv128
        clear hv128
        by_cases hl : k + 1 < c
        · have hm := MO.out k hkA hl
          have NX := Lib.hid hm.1
          have GR := Lib.hid hm.2
          clear hm
          have hbe : ((k : Int) + 1 == (c : Int)) = false := by simp; omega
          go_wp2_with fail
          refine (vst_made hv (FK.out _)).mono ?_
          rintro e W ⟨rfl, hv⟩
          go_wp2_with fail
          refine (vst_same hv (rd_value_no hv.2.2 (by decide))).mono ?_
          rintro e W ⟨rfl, hv⟩
          go_wp2_with fail
          refine (vst_mut hv (rd_push_more A[k] hv.2.2 HV.out (by omega) NX.out)).mono ?_
          rintro e W ⟨rfl, hv⟩
          go_wp2_with fail
          go_roundw
          case rel => exact ⟨k + 1, by omega, by go_num, .inl ⟨hl, by rw [← GR.out]; exact hv⟩⟩
          case measure => simp [intOf]; omega
        · have hm := EN.out k hkA (by omega)
          have NX := Lib.hid hm.1
          have GR := Lib.hid hm.2
          clear hm
          have hbe : ((k : Int) + 1 == (c : Int)) = true := by simp; omega
          go_wp2_with fail
          refine (vst_made hv (FK.out _)).mono ?_
          rintro e W ⟨rfl, hv⟩
          go_wp2_with fail
          refine (vst_same hv (rd_value_no hv.2.2 (by decide))).mono ?_
          rintro e W ⟨rfl, hv⟩
          go_wp2_with fail
          refine (vst_mut hv (rd_push_last A[k] hv.2.2 HV.out (by omega) NX.out)).mono ?_
          rintro e W ⟨rfl, hv⟩
          go_wp2_with fail
          go_roundw
          case rel => exact ⟨k + 1, by omega, by go_num, .inr ⟨by omega, by rw [← GR.out, show c = k + 1 by omega]; exact hv⟩⟩
          case measure => simp [intOf]; omega
      · obtain rfl : k = c := by omega
        have hv : VSt w wr R N k 1 := by
          rcases hat with ⟨h, _⟩ | ⟨_, h⟩
          · exact absurd h (by omega)
          · exact h
        clear hat
        go_wp2_with fail
        refine (vst_same hv (rd_value_yes hv.2.2)).mono ?_
        rintro e W ⟨rfl, hv⟩
        go_wp2_with fail
        refine (vst_same hv (rd_size hv.2.2)).mono ?_
        rintro e W ⟨rfl, hv⟩
        go_wp2_with fail
        go_ret
        exact ⟨rfl, hv.1⟩
end Go.Proofs.Ytoaoabffgllbbaa
