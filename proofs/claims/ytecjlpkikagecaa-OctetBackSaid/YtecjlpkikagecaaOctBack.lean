/-
  OctetBack answers true for every input: a number is recovered from its bytes, modulo 256 to the power of their number; bytes from their number; numbers are ordered as their bytes of one size are. No condition.
-/
import Derived.Test.YtecjlpkikagecaaOctBackWalk
import Derived.Test.YtecjlpkikagecaaOctPlain
import Derived.Test.YtecjlpkikagecaaLawKit
namespace Go.Proofs.Ytecjlpkikagecaa
open Go.ChangeShapes Go.WideShapes Go.ChangeAt Go.RowKit
open Go.ChangeMaps (open_string)

theorem back_walk (n m : Nat) (size : Int) (s : ByteArray) (w : World) (hn : n < 18446744073709551616) (hm : m < 18446744073709551616) (hsz : s.size ≤ 9223372036854775807) :
    Calls Try.prog 5 #[.int .u64 n, .int .u64 m, .int .i64 size, .string s] w fun e w' => e = .returned (.bool true) ∧ Below w.heap.size w w' := by
  have h0 := Int.emod_nonneg size (show (9 : Int) ≠ 0 by decide)
  have h9 := Int.emod_lt_of_pos size (show (0 : Int) < 9 by decide)
  obtain ⟨c, hc⟩ := Int.eq_ofNat_of_zero_le h0
  have hc9 : c < 9 := by omega
  have hmin : (min (c : Int) 16).toNat = c := by omega
  have put : ∀ (k : Nat), k < 18446744073709551616 → ∀ W, Calls Try.prog 17 #[.int .u64 k, .int .i64 c] W (RetOf (.string (bs (be k c))) W) := fun k hk W => by
    have h := put_any k c W hk
    rw [hmin] at h
    exact h
  have get : ∀ (k : Nat) W, Calls Try.prog 18 #[.string (bs (be k c))] W (RetSame (.int .u64 ((k % 256 ^ c : Nat) : Int)) W) := fun k W => by
    have hs : (bs (be k c)).size = c := by simp [bs, ByteArray.size, be_length]
    have h := get_any (bs (be k c)) W (by omega)
    rw [numOf_be k c (by omega)] at h
    exact h
  have put3 : s.size ≤ 8 → ∀ W, Calls Try.prog 17 #[.int .u64 (numOf s), .int .i64 s.size] W (RetOf (.string s) W) := fun h8 W => by
    have e : numOf s = num s.data.toList := by unfold numOf; rw [show s.size - 8 = 0 by omega]; rfl
    have hlt := num_lt s.data.toList
    have hl : s.data.toList.length = s.size := by simp
    have hp : (256 : Nat) ^ s.size ≤ 256 ^ 8 := Nat.pow_le_pow_right (by decide) h8
    have h := put_any (numOf s) s.size W (by rw [e]; rw [hl] at hlt; omega)
    have e2 : be (numOf s) (min (s.size : Int) 16).toNat = s.data.toList := by
      rw [show (min (s.size : Int) 16).toNat = s.size by omega, e]
      have := be_of_num s.data.toList
      rw [hl] at this
      exact this
    rw [e2] at h
    exact h
  have hA : (bs (be n c)).size = c := by simp [bs, ByteArray.size, be_length]
  by_cases h8 : c < 8
  · exact back_lo (bs (be n c)) (bs (be m c)) n m c (n % 256 ^ c) (m % 256 ^ c) (numOf s) size _ s w hc h8 rfl hA (and_mask n c hn h8) (and_mask m c hm h8) (put n hn) (put m hm) (get n)
      (less_be n m c) (eq_be n m c) (fun W => get_of s W hsz) put3 hsz
  · obtain rfl : c = 8 := by omega
    have e256 : 256 ^ 8 = 18446744073709551616 := by decide
    refine back_hi (bs (be n 8)) (bs (be m 8)) n m (n % 256 ^ 8) (m % 256 ^ 8) (numOf s) size s w hc hA ?_ ?_ (put n hn) (put m hm) (get n)
      (less_be n m 8) (eq_be n m 8) (fun W => get_of s W hsz) put3 hsz
    · rw [e256, Nat.mod_eq_of_lt hn]; exact and_all n hn
    · rw [e256, Nat.mod_eq_of_lt hm]; exact and_all m hm

set_option maxRecDepth 100000 in
theorem back_lifted (os : Os) (started : os.Started) (H : Type) (enc : TypeId × Value → H) :
    ReturnsInHanded {} Try.checked os 5 .any (Rows.octetBackSpec.pre6 enc Try.prog Try.f5 Rows.octetBackRow.domain false) (Rows.octetBackSpec.post enc Try.prog Try.f5 false true false false) := by
  refine returnsInHanded_of_change (C := Try.checked) own started (by kernel_rfl) Try.func5
    (ChangeSpec.witness6 (enc := enc) (C := Try.checked) false ⟨#[], #[.int .u64 0, .int .u64 0, .int .i64 0, .string .empty], []⟩ 8 (by kernel_rfl) (by kernel_rfl) (by kernel_rfl) (by kernel_rfl)) ?_
  intro W base args ds gs before hval0 hW hcnd _
  have hval : ∀ (j : Nat) t v, Try.f5.params[j]? = some t → args[j]? = some v → Value.okWide Try.prog W .any base t v := hval0
  have hW' := hW
  obtain ⟨p, q, hA0, hV, rfl, hfz, hnd⟩ := hW
  have hA : DataW.TrodAll enc Try.prog W 0 (fun _ => true) true Try.f5.params.toList args.toList ds p := hA0
  rw [Try.params5] at hA hval
  obtain ⟨v0, vs0, d0, ds0, p0, q0, hargs0, rfl, rfl, h0, r0⟩ := trodAll_cons hA
  obtain ⟨v1, vs1, d1, ds1, p1, q1, rfl, rfl, rfl, h1, r1⟩ := trodAll_cons r0
  obtain ⟨v2, vs2, d2, ds2, p2, q2, rfl, rfl, rfl, h2, r2⟩ := trodAll_cons r1
  obtain ⟨v3, vs3, d3, ds3, p3, q3, rfl, rfl, rfl, h3, r3⟩ := trodAll_cons r2
  obtain ⟨rfl, rfl, rfl⟩ := trodAll_nil r3
  obtain rfl : args = #[v0, v1, v2, v3] := by cases args; simp_all
  obtain ⟨rfl, rfl⟩ := trodVars_none hV
  obtain ⟨a0, rfl, rfl, rfl, w0⟩ := open_int Try.underlying26 (hval 0 26 v0 rfl rfl) h0
  obtain ⟨a1, rfl, rfl, rfl, w1⟩ := open_int Try.underlying26 (hval 1 26 v1 rfl rfl) h1
  obtain ⟨a2, rfl, rfl, rfl, w2⟩ := open_int Try.underlying3 (hval 2 3 v2 rfl rfl) h2
  obtain ⟨a3, rfl, rfl, rfl, w3⟩ := open_string Try.underlying9 (hval 3 9 v3 rfl rfl) h3
  unfold maxLen at w3
  have r0' := u64_range w0
  have r1' := u64_range w1
  obtain ⟨n, rfl⟩ := Int.eq_ofNat_of_zero_le r0'.1
  obtain ⟨m, rfl⟩ := Int.eq_ofNat_of_zero_le r1'.1
  refine (back_walk n m a2 a3 W (by omega) (by omega) w3).mono fun e W' ⟨he, hb⟩ => ?_
  subst he
  exact ⟨_, rfl, law_post (tb := 4) laidOut (by decide +kernel) (by kernel_rfl) Try.underlying4 rfl hW' rfl hb⟩

theorem octetBack_holds : Rows.OctetBackSaid :=
  OpenClaim.holds_of_wide 5 Try.f5 rfl rfl rfl rfl rfl rfl rfl ⟨rfl, rfl, rfl, rfl, rfl⟩ rfl rfl rfl rfl rfl (by kernel_rfl) Try.func5 (by kernel_rfl)
    (of_decide_eq_true (by kernel_rfl)) (by unfold Func.isWrapper; first | (rw [if_pos (by decide +kernel)]; kernel_rfl) | (rw [if_neg (by decide +kernel)]; exact ⟨rfl, rfl⟩))
    (fun os started H enc _ => back_lifted os started H enc)
end Go.Proofs.Ytecjlpkikagecaa
