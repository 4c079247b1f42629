/-
  The given statement UstringJoins: whatever the inputs, the law returns true and the arguments read as before. No condition.
-/
import Derived.Test.YtohbhmffgaijgaaUsLive
import Derived.Test.YtohbhmffgaijgaaLawKit
namespace Go.Proofs.Ytohbhmffgaijgaa
open Go.ChangeShapes Go.WideShapes Go.ChangeAt Go.RowKit
open Go.ChangeMaps (open_string)

theorem joins_walk (a b : ByteArray) (w : World) (ha : a.size ≤ 9223372036854775807) (hb : b.size ≤ 9223372036854775807) :
    Calls Try.prog 7 #[.string a, .string b] w fun e w' => e = .returned (.bool true) ∧ Below w.heap.size w w' := by
  by_cases h1 : 1000 < a.size
  · go_enter Try.func7, Try.ntmps7
    go_wp2_with fail
    refine (lives3 _).mono ?_
    rintro e w1 ⟨rfl, hb1⟩
    go_wp2_with fail
    go_ret
    exact ⟨rfl, hb1⟩
  by_cases h2 : 1000 < b.size
  · go_enter Try.func7, Try.ntmps7
    go_wp2_with fail
    refine (lives3 _).mono ?_
    rintro e w1 ⟨rfl, hb1⟩
    go_wp2_with fail
    go_ret
    exact ⟨rfl, hb1⟩
  have hsum : ¬ 9223372036854775807 < a.size + b.size := by omega
  have hsum2 : ¬ 9223372036854775807 < b.size + a.size := by omega
  have hab : (a ++ b).size ≤ 9223372036854775807 := by rw [ByteArray.size_append]; omega
  have hba : (b ++ a).size ≤ 9223372036854775807 := by rw [ByteArray.size_append]; omega
  have hla := size_list a
  have hlb := size_list b
  cases va : validOf a.data.toList with
  | true =>
    have VA := valid_is a true ha va
    cases vb : validOf b.data.toList with
    | true =>
      have VB := valid_is b true hb vb
      have VAB := valid_is (a ++ b) true hab (by rw [append_list]; exact valid_join va vb (by rw [List.length_append]; omega))
      have CA := count_is a _ ha va rfl
      have CB := count_is b _ hb vb rfl
      have CAB := count_is (a ++ b) ((pts a.data.toList).length + (pts b.data.toList).length) hab (by rw [append_list]; exact valid_join va vb (by rw [List.length_append]; omega)) (by rw [append_list, pts_join _ va, List.length_append])
      have k1 := pts_length_le a.data.toList
      have k2 := pts_length_le b.data.toList
      generalize (pts a.data.toList).length = x at *
      generalize (pts b.data.toList).length = y at *
      have hx : x ≤ 1000 := by omega
      have hy : y ≤ 1000 := by omega
      have hxy : ((x + y : Nat) : Int) = (x : Int) + (y : Int) := Int.natCast_add x y
      rw [hxy] at CAB
      have hw1 : -9223372036854775808 ≤ (x : Int) + (y : Int) := by omega
      have hw2 : (x : Int) + (y : Int) ≤ 9223372036854775807 := by omega
      clear va vb k1 k2 hla hlb hab hba hxy ha hb
      go_enter Try.func7, Try.ntmps7
      go_wp2_with fail
      refine (lives3 _).mono ?_
      rintro e w1 ⟨rfl, q1⟩
      go_wp2_with fail
      refine (VA.out _).mono ?_
      rintro e w2 ⟨rfl, q2⟩
      go_wp2_with fail
      refine (VB.out _).mono ?_
      rintro e w3 ⟨rfl, q3⟩
      go_wp2_with fail
      refine (VAB.out _).mono ?_
      rintro e w4 ⟨rfl, q4⟩
      go_wp2_with fail
      refine (CAB.out _).mono ?_
      rintro e w5 ⟨rfl, q5⟩
      go_wp2_with fail
      refine (CA.out _).mono ?_
      rintro e w6 ⟨rfl, q6⟩
      go_wp2_with fail
      refine (CB.out _).mono ?_
      rintro e w7 ⟨rfl, q7⟩
      go_wp2_with fail
      go_ret
      exact ⟨rfl, below_then (below_then (below_then (below_then (below_then (below_then q1 q2) q3) q4) q5) q6) q7⟩
    | false =>
      obtain ⟨j1, j2, j3⟩ := bad_join va vb (by omega)
      have VB := valid_is b false hb vb
      have VAB := valid_is (a ++ b) false hab (by rw [append_list]; exact j1)
      have BB := bad_is b _ hb rfl
      have BAB := bad_is (a ++ b) ((a.size : Int) + badOf b.data.toList) hab (by rw [append_list, j3, ← hla])
      have k2 : badOf b.data.toList ≤ (b.data.toList.length : Int) := by
        have := fin_le b.data.toList
        unfold badOf; split <;> omega
      generalize badOf b.data.toList = z at *
      have hw1 : -9223372036854775808 ≤ (a.size : Int) + z := by omega
      have hw2 : (a.size : Int) + z ≤ 9223372036854775807 := by omega
      clear va vb k2 hla hlb hab hba j1 j2 j3 ha hb
      go_enter Try.func7, Try.ntmps7
      go_wp2_with fail
      refine (lives3 _).mono ?_
      rintro e w1 ⟨rfl, q1⟩
      go_wp2_with fail
      refine (VA.out _).mono ?_
      rintro e w2 ⟨rfl, q2⟩
      go_wp2_with fail
      refine (VB.out _).mono ?_
      rintro e w3 ⟨rfl, q3⟩
      go_wp2_with fail
      refine (VA.out _).mono ?_
      rintro e w4 ⟨rfl, q4⟩
      go_wp2_with fail
      refine (VAB.out _).mono ?_
      rintro e w5 ⟨rfl, q5⟩
      go_wp2_with fail
      refine (BAB.out _).mono ?_
      rintro e w6 ⟨rfl, q6⟩
      go_wp2_with fail
      refine (BB.out _).mono ?_
      rintro e w7 ⟨rfl, q7⟩
      go_wp2_with fail
      go_ret
      exact ⟨rfl, below_then (below_then (below_then (below_then (below_then (below_then q1 q2) q3) q4) q5) q6) q7⟩
  | false =>
    have VA := valid_is a false ha va
    cases vb : validOf b.data.toList with
    | true =>
      have VBA := valid_is (b ++ a) false hba (by rw [append_list]; exact (bad_join vb va (by omega)).1)
      clear va vb hla hlb hab hba ha hb
      go_enter Try.func7, Try.ntmps7
      go_wp2_with fail
      refine (lives3 _).mono ?_
      rintro e w1 ⟨rfl, q1⟩
      go_wp2_with fail
      refine (VA.out _).mono ?_
      rintro e w2 ⟨rfl, q2⟩
      go_wp2_with fail
      refine (VA.out _).mono ?_
      rintro e w3 ⟨rfl, q3⟩
      go_wp2_with fail
      refine (VBA.out _).mono ?_
      rintro e w4 ⟨rfl, q4⟩
      go_wp2_with fail
      go_ret
      exact ⟨rfl, below_then (below_then (below_then q1 q2) q3) q4⟩
    | false =>
      have VB := valid_is b false hb vb
      obtain ⟨c, hc⟩ : ∃ c, validOf (b ++ a).data.toList = c := ⟨_, rfl⟩
      have VBA := valid_is (b ++ a) c hba hc
      clear va vb hla hlb hab hba hc ha hb
      go_enter Try.func7, Try.ntmps7
      go_wp2_with fail
      refine (lives3 _).mono ?_
      rintro e w1 ⟨rfl, q1⟩
      go_wp2_with fail
      refine (VA.out _).mono ?_
      rintro e w2 ⟨rfl, q2⟩
      go_wp2_with fail
      refine (VA.out _).mono ?_
      rintro e w3 ⟨rfl, q3⟩
      cases c with
      | false =>
        go_wp2_with fail
        refine (VBA.out _).mono ?_
        rintro e w4 ⟨rfl, q4⟩
        go_wp2_with fail
        go_ret
        exact ⟨rfl, below_then (below_then (below_then q1 q2) q3) q4⟩
      | true =>
        go_wp2_with fail
        refine (VBA.out _).mono ?_
        rintro e w4 ⟨rfl, q4⟩
        go_wp2_with fail
        refine (VB.out _).mono ?_
        rintro e w5 ⟨rfl, q5⟩
        go_wp2_with fail
        go_ret
        exact ⟨rfl, below_then (below_then (below_then (below_then q1 q2) q3) q4) q5⟩

set_option maxRecDepth 100000 in
theorem joins_lifted (os : Os) (started : os.Started) (H : Type) (enc : TypeId × Value → H) :
    ReturnsInHanded {} Try.checked os 7 .any (Rows.ustringJoinsSpec.pre6 enc Try.prog Try.f7 Rows.ustringJoinsRow.domain false) (Rows.ustringJoinsSpec.post enc Try.prog Try.f7 false true false false) := by
  refine returnsInHanded_of_change (C := Try.checked) own started (by kernel_rfl) Try.func7
    (ChangeSpec.witness6 (enc := enc) (C := Try.checked) false ⟨#[], #[.string .empty, .string .empty], []⟩ 8 (by kernel_rfl) (by kernel_rfl) (by kernel_rfl) (by kernel_rfl)) ?_
  intro W base args ds gs before hval0 hW hcnd _
  have hval : ∀ (j : Nat) t v, Try.f7.params[j]? = some t → args[j]? = some v → Value.okWide Try.prog W .any base t v := hval0
  have hW' := hW
  obtain ⟨p, q, hA0, hV, rfl, hfz, hnd⟩ := hW
  have hA : DataW.TrodAll enc Try.prog W 0 (fun _ => true) true Try.f7.params.toList args.toList ds p := hA0
  rw [Try.params7] at hA hval
  obtain ⟨v0, vs0, d0, ds0, p0, q0, hargs0, rfl, rfl, h0, r0⟩ := trodAll_cons hA
  obtain ⟨v1, vs1, d1, ds1, p1, q1, rfl, rfl, rfl, h1, r1⟩ := trodAll_cons r0
  obtain ⟨rfl, rfl, rfl⟩ := trodAll_nil r1
  obtain rfl : args = #[v0, v1] := by cases args; simp_all
  obtain ⟨rfl, rfl⟩ := trodVars_none hV
  obtain ⟨a0, rfl, rfl, rfl, w0⟩ := open_string Try.underlying9 (hval 0 9 v0 rfl rfl) h0
  unfold maxLen at w0
  obtain ⟨a1, rfl, rfl, rfl, w1⟩ := open_string Try.underlying9 (hval 1 9 v1 rfl rfl) h1
  unfold maxLen at w1
  refine (joins_walk a0 a1 W (by omega) (by omega)).mono fun e W' ⟨he, hb⟩ => ?_
  subst he
  exact ⟨_, rfl, law_post (tb := 4) laidOut (by decide +kernel) (by kernel_rfl) Try.underlying4 rfl hW' rfl hb⟩

theorem ustringJoins_holds : Rows.UstringJoinsSaid :=
  OpenClaim.holds_of_wide 7 Try.f7 rfl rfl rfl rfl rfl rfl rfl ⟨rfl, rfl, rfl, rfl, rfl⟩ rfl rfl rfl rfl rfl (by kernel_rfl) Try.func7 (by kernel_rfl)
    (of_decide_eq_true (by kernel_rfl)) (by unfold Func.isWrapper; first | (rw [if_pos (by decide +kernel)]; kernel_rfl) | (rw [if_neg (by decide +kernel)]; exact ⟨rfl, rfl⟩))
    (fun os started H enc _ => joins_lifted os started H enc)
end Go.Proofs.Ytohbhmffgaijgaa

