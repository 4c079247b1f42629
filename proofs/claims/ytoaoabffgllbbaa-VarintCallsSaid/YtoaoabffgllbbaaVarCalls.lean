/-
  VarintCalls answers true for every input: sizes, bytes, and what is read, are what the document says. No condition.
-/
import Derived.Test.YtoaoabffgllbbaaVarLive
import Derived.Test.YtoaoabffgllbbaaVarRefBytes
import Derived.Test.YtoaoabffgllbbaaLawKit
namespace Go.Proofs.Ytoaoabffgllbbaa
open Go.ChangeShapes Go.WideShapes Go.ChangeAt Go.RowKit
open Go.ChangeMaps (open_string)

/-- What Bytes makes of any number: the bytes, and the error. -/
def byS (n : Int) : ByteArray := if n < 0 ∨ 268435455 < n then ⟨#[]⟩ else bs (vb n.toNat (sz n))
def byE (n : Int) : Int := if n < 0 ∨ 268435455 < n then 2 else 0
def ByPost (n : Int) (w : World) (e : Ending) (w' : World) : Prop := e = .returned (.tuple #[.string (byS n), .int .i64 (byE n)]) ∧ Below w.heap.size w w'
theorem bytes_any (n : Int) (w : World) : Calls Try.prog 9 #[.int .i64 n] w (ByPost n w) := by
  by_cases h : n < 0 ∨ 268435455 < n
  · exact (bytes_none n w h).mono fun _ _ ⟨a, b⟩ => ⟨by rw [a]; unfold byS byE; rw [if_pos h, if_pos h], b ▸ Below.refl _ _⟩
  · obtain ⟨k, rfl⟩ := Int.eq_ofNat_of_zero_le (show 0 ≤ n by omega)
    exact (bytes_some k w (by omega)).mono fun _ _ ⟨a, b⟩ => ⟨by rw [a]; unfold byS byE; rw [if_neg h, if_neg h]; rfl, b⟩
theorem ref_bytes_any (n : Int) (w : World) : Calls Try.prog 17 #[.int .i64 n] w (ByPost n w) := by
  by_cases h : n < 0 ∨ 268435455 < n
  · exact (ref_bytes_none n w h).mono fun _ _ ⟨a, b⟩ => ⟨by rw [a]; unfold byS byE; rw [if_pos h, if_pos h], b ▸ Below.refl _ _⟩
  · obtain ⟨k, rfl⟩ := Int.eq_ofNat_of_zero_le (show 0 ≤ n by omega)
    exact (ref_bytes_some k w (by omega)).mono fun _ _ ⟨a, b⟩ => ⟨by rw [a]; unfold byS byE; rw [if_neg h, if_neg h]; rfl, b⟩

set_option maxHeartbeats 1000000 in
theorem calls_walk (n : Int) (s : ByteArray) (w : World) (hs : s.size ≤ 9223372036854775807) :
    Calls Try.prog 4 #[.int .i64 n, .string s] w fun e w' => e = .returned (.bool true) ∧ Below w.heap.size w w' := by
  by_cases h60 : 60 < s.size
  · have hd : decide ((60 : Int) < (s.size : Int)) = true := decide_eq_true (by omega)
    go_enter Try.func4, Try.ntmps4
    go_wp2_with fail
    refine (lives2 _).mono ?_
    rintro e w1 ⟨rfl, hb1⟩
    go_wp2_with fail
    go_ret
    exact ⟨rfl, hb1⟩
  · have hd : decide ((60 : Int) < (s.size : Int)) = false := decide_eq_false (by omega)
    go_enter Try.func4, Try.ntmps4
    go_wp2_with fail
    refine (lives2 _).mono ?_
    rintro e W ⟨rfl, hb⟩
    go_wp2_with fail
    refine (bytes_any n _).mono ?_
    rintro e W ⟨rfl, h⟩
    replace hb := hb.trans (h.mono hb.size)
    clear h
    go_wp2_with fail
    refine (ref_bytes_any n _).mono ?_
    rintro e W ⟨rfl, h⟩
    replace hb := hb.trans (h.mono hb.size)
    clear h
    generalize byS n = B
    generalize byE n = E
    go_wp2_with fail
    refine (read_any s _ hs).mono ?_
    unfold ReadPost ReadRet
    rintro e W ⟨rfl, h⟩
    replace hb := hb.trans (h.mono hb.size)
    clear h
    go_wp2_with fail
    refine (ref_read_any s _ hs).mono ?_
    unfold ReadSame ReadRet
    rintro e W ⟨rfl, rfl⟩
    go_wp2_with fail
    refine (size_any n _).mono ?_
    rintro e W ⟨rfl, rfl⟩
    go_wp2_with fail
    refine (ref_size_any n _).mono ?_
    rintro e W ⟨rfl, rfl⟩
    go_wp2_with fail
    go_ret
    exact ⟨rfl, hb⟩

set_option maxRecDepth 100000 in
theorem calls_lifted (os : Os) (started : os.Started) (H : Type) (enc : TypeId × Value → H) :
    ReturnsInHanded {} Try.checked os 4 .any (Rows.varintCallsSpec.pre6 enc Try.prog Try.f4 Rows.varintCallsRow.domain false) (Rows.varintCallsSpec.post enc Try.prog Try.f4 false true false false) := by
  refine returnsInHanded_of_change (C := Try.checked) own started (by kernel_rfl) Try.func4
    (ChangeSpec.witness6 (enc := enc) (C := Try.checked) false ⟨#[], #[.int .i64 0, .string .empty], []⟩ 8 (by kernel_rfl) (by kernel_rfl) (by kernel_rfl) (by kernel_rfl)) ?_
  intro W base args ds gs before hval0 hW hcnd _
  have hval : ∀ (j : Nat) t v, Try.f4.params[j]? = some t → args[j]? = some v → Value.okWide Try.prog W .any base t v := hval0
  have hW' := hW
  obtain ⟨p, q, hA0, hV, rfl, hfz, hnd⟩ := hW
  have hA : DataW.TrodAll enc Try.prog W 0 (fun _ => true) true Try.f4.params.toList args.toList ds p := hA0
  rw [Try.params4] at hA hval
  obtain ⟨v0, vs0, d0, ds0, p0, q0, hargs0, rfl, rfl, h0, r0⟩ := trodAll_cons hA
  obtain ⟨v1, vs1, d1, ds1, p1, q1, rfl, rfl, rfl, h1, r1⟩ := trodAll_cons r0
  obtain ⟨rfl, rfl, rfl⟩ := trodAll_nil r1
  obtain rfl : args = #[v0, v1] := by cases args; simp_all
  obtain ⟨rfl, rfl⟩ := trodVars_none hV
  obtain ⟨a0, rfl, rfl, rfl, w0⟩ := open_int Try.underlying3 (hval 0 3 v0 rfl rfl) h0
  obtain ⟨a1, rfl, rfl, rfl, w1⟩ := open_string Try.underlying9 (hval 1 9 v1 rfl rfl) h1
  unfold maxLen at w1
  refine (calls_walk a0 a1 W w1).mono fun e W' ⟨he, hb⟩ => ?_
  subst he
  exact ⟨_, rfl, law_post (tb := 4) laidOut (by decide +kernel) (by kernel_rfl) Try.underlying4 rfl hW' rfl hb⟩

theorem varintCalls_holds : Rows.VarintCallsSaid :=
  OpenClaim.holds_of_wide 4 Try.f4 rfl rfl rfl rfl rfl rfl rfl ⟨rfl, rfl, rfl, rfl, rfl⟩ rfl rfl rfl rfl rfl (by kernel_rfl) Try.func4 (by kernel_rfl)
    (of_decide_eq_true (by kernel_rfl)) (by unfold Func.isWrapper; first | (rw [if_pos (by decide +kernel)]; kernel_rfl) | (rw [if_neg (by decide +kernel)]; exact ⟨rfl, rfl⟩))
    (fun os started H enc _ => calls_lifted os started H enc)
end Go.Proofs.Ytoaoabffgllbbaa
