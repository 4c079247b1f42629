/-
  VarintFronts answers true for every input: the bytes of no number are a prefix of those of another one; truncated they are short; pushed byte by byte they are the same number. No condition.
-/
import Derived.Test.YtoaoabffgllbbaaVarFrontsWalk
import Derived.Test.YtoaoabffgllbbaaLawKit
namespace Go.Proofs.Ytoaoabffgllbbaa
open Go.ChangeShapes Go.WideShapes Go.ChangeAt Go.RowKit

theorem bs_size (l : List UInt8) : (bs l).size = l.length := by simp [bs, ByteArray.size]
theorem bs_front (l : List UInt8) (k : Nat) : ((bs l).extract 0 k).data.toList = l.take k := by simp [bs, Array.toList_extract, List.extract_eq_take_drop]
theorem vb_at (n c k : Nat) (h : k < (bs (vb n c)).size) : (bs (vb n c))[k] = byt n c k := by
  have hk : k < (vb n c).length := by rwa [bs_size] at h
  show (vb n c)[k]'hk = byt n c k
  simp [vb]

theorem fronts_walk (n m : Int) (w : World) :
    Calls Try.prog 7 #[.int .i64 n, .int .i64 m] w fun e w' => e = .returned (.bool true) ∧ Below w.heap.size w w' := by
  obtain ⟨N, hN⟩ := Int.eq_ofNat_of_zero_le (Int.emod_nonneg n (show (268435456 : Int) ≠ 0 by decide))
  obtain ⟨M, hM⟩ := Int.eq_ofNat_of_zero_le (Int.emod_nonneg m (show (268435456 : Int) ≠ 0 by decide))
  have hN1 : N ≤ 268435455 := by have := Int.emod_lt_of_pos n (show (0 : Int) < 268435456 by decide); omega
  have hM1 : M ≤ 268435455 := by have := Int.emod_lt_of_pos m (show (0 : Int) < 268435456 by decide); omega
  have hc := sz_cases N hN1
  have hd := sz_cases M hM1
  refine fronts_core n m N M (sz N) (sz M) (bs (vb N (sz N))) (bs (vb M (sz M))) w hN hM (by omega) (by omega) (by omega) (by rw [bs_size, vb_length]) (by rw [bs_size, vb_length])
    (fun W => bytes_some N W hN1) (fun W => bytes_some M W hM1) ?_ ?_ ?_ ?_
  · intro k hk W
    have hr : run 0 0 ((bs (vb N (sz N))).extract 0 k).data.toList = (N % 128 ^ k, k, 0) := by
      rw [bs_front]
      have e : (vb N (sz N)).take k = (List.range k).map (byt N (sz N)) ++ [] := by
        unfold vb
        rw [← List.map_take, List.take_range, Nat.min_eq_left (by omega), List.append_nil]
      rw [e, run_front N (sz N) (by omega) k hk]
      rfl
    refine read_of W ?_ hr rfl rfl rfl
    have : ((bs (vb N (sz N))).extract 0 k).size ≤ (bs (vb N (sz N))).size := by simp; omega
    rw [bs_size, vb_length] at this
    omega
  · intro k h hk
    rw [vb_at N (sz N) k h]
    exact byt_more N (sz N) k (by omega) hk
  · intro k h hk
    rw [vb_at N (sz N) k h]
    exact byt_last N k hN1 hk
  · by_cases e : N = M
    · exact .inl e
    · refine .inr ?_
      by_cases hl : sz M < sz N
      · exact .inl ⟨e, hl⟩
      · refine .inr ⟨e, by omega, ?_⟩
        rw [bs_toList, toList_data, bs_front]
        simp only [beq_eq_false_iff_ne, ne_eq]
        exact fun h => e (vb_front N M hN1 hM1 h.symm)

set_option maxRecDepth 100000 in
theorem fronts_lifted (os : Os) (started : os.Started) (H : Type) (enc : TypeId × Value → H) :
    ReturnsInHanded {} Try.checked os 7 .any (Rows.varintFrontsSpec.pre6 enc Try.prog Try.f7 Rows.varintFrontsRow.domain false) (Rows.varintFrontsSpec.post enc Try.prog Try.f7 false true false false) := by
  refine returnsInHanded_of_change (C := Try.checked) own started (by kernel_rfl) Try.func7
    (ChangeSpec.witness6 (enc := enc) (C := Try.checked) false ⟨#[], #[.int .i64 0, .int .i64 0], []⟩ 8 (by kernel_rfl) (by kernel_rfl) (by kernel_rfl) (by kernel_rfl)) ?_
  intro W base args ds gs before hval0 hW hcnd _
  have hval : ∀ (j : Nat) t v, Try.f7.params[j]? = some t → args[j]? = some v → Value.okWide Try.prog W .any base t v := hval0
  have hW' := hW
  obtain ⟨p, q, hA0, hV, rfl, hfz, hnd⟩ := hW
  have hA : DataW.TrodAll enc Try.prog W 0 (fun _ => true) true Try.f7.params.toList args.toList ds p := hA0
  rw [Try.params7] at hA hval
  obtain ⟨v0, vs0, d0, ds0, p0, q0, hargs0, rfl, rfl, h0, r0⟩ := trodAll_cons hA
  obtain ⟨v1, vs1, d1, ds1, p1, q1, rfl, rfl, rfl, h1, r1⟩ := trodAll_cons r0
  obtain ⟨rfl, rfl, rfl⟩ := trodAll_nil r1
  obtain rfl : args = #[v0, v1] := by cases args; simp_all
  obtain ⟨rfl, rfl⟩ := trodVars_none hV
  obtain ⟨a0, rfl, rfl, rfl, w0⟩ := open_int Try.underlying3 (hval 0 3 v0 rfl rfl) h0
  obtain ⟨a1, rfl, rfl, rfl, w1⟩ := open_int Try.underlying3 (hval 1 3 v1 rfl rfl) h1
  refine (fronts_walk a0 a1 W).mono fun e W' ⟨he, hb⟩ => ?_
  subst he
  exact ⟨_, rfl, law_post (tb := 4) laidOut (by decide +kernel) (by kernel_rfl) Try.underlying4 rfl hW' rfl hb⟩

theorem varintFronts_holds : Rows.VarintFrontsSaid :=
  OpenClaim.holds_of_wide 7 Try.f7 rfl rfl rfl rfl rfl rfl rfl ⟨rfl, rfl, rfl, rfl, rfl⟩ rfl rfl rfl rfl rfl (by kernel_rfl) Try.func7 (by kernel_rfl)
    (of_decide_eq_true (by kernel_rfl)) (by unfold Func.isWrapper; first | (rw [if_pos (by decide +kernel)]; kernel_rfl) | (rw [if_neg (by decide +kernel)]; exact ⟨rfl, rfl⟩))
    (fun os started H enc _ => fronts_lifted os started H enc)
end Go.Proofs.Ytoaoabffgllbbaa
