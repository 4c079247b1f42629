/-
  VarintBack answers true for every input: a number is read from its bytes, whatever follows; what is read is written as the same; each has as many bytes as its size, and no fewer encode it. No condition.
-/
import Derived.Test.YtoaoabffgllbbaaVarBackWalk
import Derived.Test.YtoaoabffgllbbaaLawKit
namespace Go.Proofs.Ytoaoabffgllbbaa
open Go.ChangeShapes Go.WideShapes Go.ChangeAt Go.RowKit
open Go.ChangeMaps (open_string)

theorem back_walk (n : Int) (behind s : ByteArray) (w : World) (hb : behind.size ≤ 9223372036854775807) (hs : s.size ≤ 9223372036854775807) :
    Calls Try.prog 6 #[.int .i64 n, .string behind, .string s] w fun e w' => e = .returned (.bool true) ∧ Below w.heap.size w w' := by
  by_cases h60 : 60 < behind.size ∨ 60 < s.size
  · exact back_long n behind s w h60
  obtain ⟨N, hN⟩ := Int.eq_ofNat_of_zero_le (Int.emod_nonneg n (show (268435456 : Int) ≠ 0 by decide))
  have hN1 : N ≤ 268435455 := by have := Int.emod_lt_of_pos n (show (0 : Int) < 268435456 by decide); omega
  have hc := sz_cases N hN1
  have hlen : (bs (vb N (sz N))).size = sz N := by simp [bs, ByteArray.size, vb_length]
  have hlt : N < 128 ^ sz N := by rcases hc with ⟨h, _⟩ | ⟨h, _⟩ | ⟨h, _⟩ | ⟨h, _⟩ <;> rw [h] <;> omega
  have hge : 1 < sz N → 128 ^ sz N / 128 ≤ N := by rcases hc with ⟨h, _⟩ | ⟨h, _⟩ | ⟨h, _⟩ | ⟨h, _⟩ <;> rw [h] <;> omega
  refine back_short n behind s N (sz N) _ (bs (vb N (sz N))) w (by omega) (by omega) hN (by omega) (by omega) hlen rfl hlt hge (fun W => bytes_some N W hN1) (fun W => size_any N W) (fun W => read_of W ?_ (run_back_of N hN1 behind) rfl rfl rfl) ?_
  · rw [ByteArray.size_append, hlen]; omega
  · obtain ⟨v, u, st, hr⟩ : ∃ v u st, run 0 0 s.data.toList = (v, u, st) := ⟨_, _, _, rfl⟩
    have h3 := run_state s.data.toList 0 0
    rw [hr] at h3
    rcases h3 with h3 | h3 | h3
    · obtain rfl : st = 0 := h3
      exact .inl fun W => read_of W hs hr rfl rfl rfl
    · obtain rfl : st = 1 := h3
      obtain ⟨h4, h5, h6, h7⟩ := run_back _ _ _ hr
      refine .inr (.inr ⟨v, u, bs (vb v (sz v)), fun W => read_of W hs hr rfl rfl rfl, fun W => bytes_some v W h4, by simpa using h6, ?_⟩)
      rw [← h5, ← h7]
      apply ByteArray.ext
      exact Array.toList_inj.1 (by simp [bs, Array.toList_extract, List.extract_eq_take_drop])
    · obtain rfl : st = 2 := h3
      exact .inr (.inl fun W => read_of W hs hr rfl rfl rfl)

set_option maxRecDepth 100000 in
theorem back_lifted (os : Os) (started : os.Started) (H : Type) (enc : TypeId × Value → H) :
    ReturnsInHanded {} Try.checked os 6 .any (Rows.varintBackSpec.pre6 enc Try.prog Try.f6 Rows.varintBackRow.domain false) (Rows.varintBackSpec.post enc Try.prog Try.f6 false true false false) := by
  refine returnsInHanded_of_change (C := Try.checked) own started (by kernel_rfl) Try.func6
    (ChangeSpec.witness6 (enc := enc) (C := Try.checked) false ⟨#[], #[.int .i64 0, .string .empty, .string .empty], []⟩ 8 (by kernel_rfl) (by kernel_rfl) (by kernel_rfl) (by kernel_rfl)) ?_
  intro W base args ds gs before hval0 hW hcnd _
  have hval : ∀ (j : Nat) t v, Try.f6.params[j]? = some t → args[j]? = some v → Value.okWide Try.prog W .any base t v := hval0
  have hW' := hW
  obtain ⟨p, q, hA0, hV, rfl, hfz, hnd⟩ := hW
  have hA : DataW.TrodAll enc Try.prog W 0 (fun _ => true) true Try.f6.params.toList args.toList ds p := hA0
  rw [Try.params6] at hA hval
  obtain ⟨v0, vs0, d0, ds0, p0, q0, hargs0, rfl, rfl, h0, r0⟩ := trodAll_cons hA
  obtain ⟨v1, vs1, d1, ds1, p1, q1, rfl, rfl, rfl, h1, r1⟩ := trodAll_cons r0
  obtain ⟨v2, vs2, d2, ds2, p2, q2, rfl, rfl, rfl, h2, r2⟩ := trodAll_cons r1
  obtain ⟨rfl, rfl, rfl⟩ := trodAll_nil r2
  obtain rfl : args = #[v0, v1, v2] := by cases args; simp_all
  obtain ⟨rfl, rfl⟩ := trodVars_none hV
  obtain ⟨a0, rfl, rfl, rfl, w0⟩ := open_int Try.underlying3 (hval 0 3 v0 rfl rfl) h0
  obtain ⟨a1, rfl, rfl, rfl, w1⟩ := open_string Try.underlying9 (hval 1 9 v1 rfl rfl) h1
  unfold maxLen at w1
  obtain ⟨a2, rfl, rfl, rfl, w2⟩ := open_string Try.underlying9 (hval 2 9 v2 rfl rfl) h2
  unfold maxLen at w2
  refine (back_walk a0 a1 a2 W w1 w2).mono fun e W' ⟨he, hb⟩ => ?_
  subst he
  exact ⟨_, rfl, law_post (tb := 4) laidOut (by decide +kernel) (by kernel_rfl) Try.underlying4 rfl hW' rfl hb⟩

theorem varintBack_holds : Rows.VarintBackSaid :=
  OpenClaim.holds_of_wide 6 Try.f6 rfl rfl rfl rfl rfl rfl rfl ⟨rfl, rfl, rfl, rfl, rfl⟩ rfl rfl rfl rfl rfl (by kernel_rfl) Try.func6 (by kernel_rfl)
    (of_decide_eq_true (by kernel_rfl)) (by unfold Func.isWrapper; first | (rw [if_pos (by decide +kernel)]; kernel_rfl) | (rw [if_neg (by decide +kernel)]; exact ⟨rfl, rfl⟩))
    (fun os started H enc _ => back_lifted os started H enc)
end Go.Proofs.Ytoaoabffgllbbaa
