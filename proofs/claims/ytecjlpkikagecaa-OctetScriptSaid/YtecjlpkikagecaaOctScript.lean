/-
  OctetScript answers true for every input: whatever is taken, a cursor returns, and is, what the document says. No condition.
-/
import Derived.Test.YtecjlpkikagecaaOctScriptWalk
namespace Go.Proofs.Ytecjlpkikagecaa
open Go.ChangeShapes Go.WideShapes Go.ChangeAt Go.RowKit
open Go.ChangeMaps (open_string)

theorem script_far (w : World) (s : ByteArray) (A : Option Addr) (n cap : Nat) (hs : s.size ≤ 200 → 60 < n) (hm : s.size ≤ 9223372036854775807) (hn : n ≤ 9223372036854775807) :
    Calls Try.prog 4 #[.string s, .slice A n cap] w fun e w' => e = .returned (.bool true) ∧ Below w.heap.size w w' := by
  by_cases h1 : s.size ≤ 200
  · have h2 := hs h1
    clear hs
    go_enter Try.func4, Try.ntmps4
    go_wp2_with fail
    refine (lives_any _).mono ?_
    rintro e W ⟨rfl, h⟩
    go_wp2_with fail
    go_ret
    exact ⟨rfl, h⟩
  · clear hs
    go_enter Try.func4, Try.ntmps4
    go_wp2_with fail
    refine (lives_any _).mono ?_
    rintro e W ⟨rfl, h⟩
    go_wp2_with fail
    go_ret
    exact ⟨rfl, h⟩

theorem script_any (W : World) (s : ByteArray) (A : Option Addr) (n cap : Nat)
    (hcell : 0 < n → ∃ a, A = some a ∧ a.block < W.heap.size ∧ ∀ i, i < n → (∃ z, W.cell? (a.add (i * 2)) = some (.int .i64 z)) ∧ ∃ z, W.cell? ((a.add (i * 2)).add 1) = some (.int .i64 z))
    (hm : s.size ≤ 9223372036854775807) (hn : n ≤ 9223372036854775807) :
    Calls Try.prog 4 #[.string s, .slice A n cap] W fun e w' => e = .returned (.bool true) ∧ Below W.heap.size W w' := by
  by_cases hs : s.size ≤ 200 ∧ n ≤ 60
  · have ha : 0 < n → ∃ a, A = some a ∧ a.block < W.heap.size ∧ ∀ i, i < n → W.cell? (a.add (i * 2)) = some (.int .i64 (cellInt W ((A.getD default).add (i * 2)))) ∧
        W.cell? ((a.add (i * 2)).add 1) = some (.int .i64 (cellInt W (((A.getD default).add (i * 2)).add 1))) := fun h => by
      obtain ⟨a, rfl, hb, hc⟩ := hcell h
      refine ⟨a, rfl, hb, fun i hi => ?_⟩
      obtain ⟨⟨z, hz⟩, y, hy⟩ := hc i hi
      exact ⟨cellInt_eq hz, cellInt_eq hy⟩
    exact script_round W s A n cap _ _ hs.1 hs.2 ha
  · exact script_far W s A n cap (fun h => by omega) hm hn

set_option maxRecDepth 100000 in
theorem script_lifted (os : Os) (started : os.Started) (H : Type) (enc : TypeId × Value → H) :
    ReturnsInHanded {} Try.checked os 4 .any (Rows.octetScriptSpec.pre6 enc Try.prog Try.f4 Rows.octetScriptRow.domain false) (Rows.octetScriptSpec.post enc Try.prog Try.f4 false true false false) := by
  refine returnsInHanded_of_change (C := Try.checked) own started (by kernel_rfl) Try.func4
    (ChangeSpec.witness6 (enc := enc) (C := Try.checked) false ⟨#[], #[.string .empty, .slice none 0 0], []⟩ 8 (by kernel_rfl) (by kernel_rfl) (by kernel_rfl) (by kernel_rfl)) ?_
  intro W base args ds gs before hval0 hW hcnd _
  have hval : ∀ (j : Nat) t v, Try.f4.params[j]? = some t → args[j]? = some v → Value.okWide Try.prog W .any base t v := hval0
  have hW' := hW
  obtain ⟨p, q, hA0, hV, rfl, hfz, hnd⟩ := hW
  have hA : DataW.TrodAll enc Try.prog W 0 (fun _ => true) true Try.f4.params.toList args.toList ds p := hA0
  rw [Try.params4] at hA hval
  obtain ⟨v0, vs0, d0, ds0, p0, q0, hargs0, rfl, rfl, h0, r0⟩ := trodAll_cons hA
  obtain ⟨v1, vs1, d1, ds1, p1, q1, rfl, rfl, rfl, h1, r1⟩ := trodAll_cons r0
  obtain ⟨rfl, rfl, rfl⟩ := trodAll_nil r1
  obtain rfl : args = #[v0, v1] := by cases args; simp_all
  obtain ⟨rfl, rfl⟩ := trodVars_none hV
  obtain ⟨s, rfl, rfl, rfl, w0⟩ := open_string Try.underlying9 (hval 0 9 v0 rfl rfl) h0
  obtain ⟨A, n, cap, rfl, w1, hcell⟩ := structs_arg Try.underlying35 Try.underlying39 (by kernel_rfl) (by kernel_rfl) (by decide) (hval 1 35 v1 rfl rfl) h1
  have hC : Try.prog.cellsOf 39 = 2 := by kernel_rfl
  rw [hC] at hcell
  unfold maxLen at w0 w1
  have hcell' : 0 < n → ∃ a, A = some a ∧ a.block < W.heap.size ∧ ∀ i, i < n → (∃ z, W.cell? (a.add (i * 2)) = some (.int .i64 z)) ∧ ∃ z, W.cell? ((a.add (i * 2)).add 1) = some (.int .i64 z) := fun h => by
    obtain ⟨a, ha, hb, hc⟩ := hcell h
    refine ⟨a, ha, hb, fun i hi => ⟨?_, ?_⟩⟩
    · obtain ⟨u, y, m, hu, hy⟩ := hc i hi 0 _ rfl
      obtain ⟨z, hz, _, _⟩ := DataW.trod_int Try.underlying3 hy
      exact ⟨z, by injection hz with hz _; rw [← hz]; exact hu⟩
    · obtain ⟨u, y, m, hu, hy⟩ := hc i hi 1 _ rfl
      obtain ⟨z, hz, _, _⟩ := DataW.trod_int Try.underlying3 hy
      exact ⟨z, by injection hz with hz _; rw [← hz]; exact hu⟩
  have walk := script_any W s A n cap hcell' (by omega) (by omega)
  refine walk.mono fun e W' ⟨he, hb⟩ => ?_
  subst he
  exact ⟨_, rfl, law_post (tb := 4) laidOut (by decide +kernel) (by kernel_rfl) Try.underlying4 rfl hW' rfl hb⟩

theorem octetScript_holds : Rows.OctetScriptSaid :=
  OpenClaim.holds_of_wide 4 Try.f4 rfl rfl rfl rfl rfl rfl rfl ⟨rfl, rfl, rfl, rfl, rfl⟩ rfl rfl rfl rfl rfl (by kernel_rfl) Try.func4 (by kernel_rfl)
    (of_decide_eq_true (by kernel_rfl)) (by unfold Func.isWrapper; first | (rw [if_pos (by decide +kernel)]; kernel_rfl) | (rw [if_neg (by decide +kernel)]; exact ⟨rfl, rfl⟩))
    (fun os started H enc _ => script_lifted os started H enc)
end Go.Proofs.Ytecjlpkikagecaa
