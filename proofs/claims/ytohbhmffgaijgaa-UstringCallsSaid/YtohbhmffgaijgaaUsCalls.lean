/-
  The given statement UstringCalls: whatever the inputs, the law returns true and the arguments read as before. No condition.
-/
import Derived.Test.YtohbhmffgaijgaaUsRefRunes
import Derived.Test.YtohbhmffgaijgaaUsRefEnc
import Derived.Test.YtohbhmffgaijgaaUsSame
import Derived.Test.YtohbhmffgaijgaaLawKit
namespace Go.Proofs.Ytohbhmffgaijgaa
open Go.ChangeShapes Go.WideShapes Go.ChangeAt Go.RowKit
open Go.ChangeMaps (open_string)

abbrev K3 (f : FuncId) (s : ByteArray) (v : Value) : Prop := RowKit.Hid (∀ W, Calls Try.prog f #[.string s] W fun e w' => e = .returned v ∧ Below W.heap.size W w')
theorem k3_same {f : FuncId} {s : ByteArray} {v : Value} (h : ∀ W, Calls Try.prog f #[.string s] W fun e w' => e = .returned v ∧ W = w') : K3 f s v :=
  Lib.hid fun W => (h W).mono fun _ _ ⟨he, hw⟩ => ⟨he, hw ▸ Below.refl _ _⟩
theorem both_text (s : ByteArray) (hs : s.size ≤ 70000) : ∃ (t : ByteArray) (e : Int), K3 12 s (.tuple #[.string t, .int .i64 e]) ∧ K3 19 s (.tuple #[.string t, .int .i64 e]) := by
  cases hv : validOf s.data.toList with
  | true => exact ⟨_, _, Lib.hid fun W => text_yes s W hv, Lib.hid fun W => ref_text_yes s W hv⟩
  | false => exact ⟨_, _, Lib.hid fun W => text_no s W (by omega) hv, k3_same fun W => ref_text_no s W hs hv⟩
theorem both_binary (s : ByteArray) : ∃ (t : ByteArray) (e : Int), K3 13 s (.tuple #[.string t, .int .i64 e]) ∧ K3 20 s (.tuple #[.string t, .int .i64 e]) := by
  rcases Nat.lt_or_ge 65535 s.size with h | h
  · exact ⟨_, _, k3_same fun W => binary_no s W h, k3_same fun W => ref_binary_no s W h⟩
  · exact ⟨_, _, Lib.hid fun W => binary_yes s W h, Lib.hid fun W => ref_binary_yes s W h⟩
theorem both_read (s : ByteArray) (hs : s.size ≤ 70000) : ∃ (t : ByteArray) (n e : Int), K3 14 s (.tuple #[.string t, .int .i64 n, .int .i64 e]) ∧ K3 21 s (.tuple #[.string t, .int .i64 n, .int .i64 e]) :=
  ⟨_, _, _, Lib.hid fun W => read_any s W (by omega), k3_same fun W => ref_read s W hs⟩
theorem both_readbin (s : ByteArray) (hs : s.size ≤ 70000) : ∃ (t : ByteArray) (n e : Int), K3 15 s (.tuple #[.string t, .int .i64 n, .int .i64 e]) ∧ K3 22 s (.tuple #[.string t, .int .i64 n, .int .i64 e]) :=
  ⟨_, _, _, Lib.hid fun W => readbin_any s W (by omega), k3_same fun W => ref_readbin s W hs⟩
theorem both_count (s : ByteArray) (hs : s.size ≤ 70000) : ∃ n : Int, K3 10 s (.int .i64 n) ∧ K3 25 s (.int .i64 n) := by
  cases hv : validOf s.data.toList with
  | true => exact ⟨_, Lib.hid fun W => count_yes s W (by omega) hv, Lib.hid fun W => ref_count_yes s W hs hv⟩
  | false => exact ⟨_, Lib.hid fun W => count_no s W (by omega) hv, Lib.hid fun W => ref_count_no s W hs hv⟩
/-- What a list in memory is that is made of the string. -/
def Rowed (w W : World) (v : Value) (cs : List Nat) : Prop := W.ownsRow w.heap.size 37 2 v cs.length (rcells (marks 0 cs)) ∧ Below w.heap.size w W
theorem both_runes (s : ByteArray) (hs : s.size ≤ 70000) : ∃ cs : List Nat, cs.length ≤ 70000 ∧
    RowKit.Hid (∀ W, Calls Try.prog 16 #[.string s] W fun e W' => ∃ v, e = .returned (.tuple #[v, .bool true]) ∧ Rowed W W' v cs) ∧
    RowKit.Hid (∀ W, Calls Try.prog 26 #[.string s] W fun e W' => ∃ v, e = .returned v ∧ Rowed W W' v cs) :=
  ⟨pts s.data.toList, by have := pts_length_le s.data.toList; rw [← size_list] at this; omega, Lib.hid fun W => runes_law s W hs, Lib.hid fun W => ref_runes s W hs⟩
theorem rowed_len {w W : World} {v : Value} {cs : List Nat} {n : Nat} (hn : cs.length = n) (h : Rowed w W v cs) : ∃ A cap, v = .slice A n cap := by
  subst hn
  rcases h.1.2 with ⟨rfl, h0⟩ | ⟨g, cap, cur, rfl, _⟩
  · exact ⟨none, 0, by rw [h0]⟩
  · exact ⟨_, _, rfl⟩

theorem same_rowed {w w0 wa wx wb : World} {Aa Ab : Option Addr} {ca cb2 n : Nat} {cs : List Nat} (hn : cs.length = n) (hl : cs.length ≤ 70000) (h0 : Below w.heap.size w w0) (ha : Rowed w0 wa (.slice Aa n ca) cs) (h1 : Below wa.heap.size wa wx) (hb : Rowed wx wb (.slice Ab n cb2) cs) :
    Calls Try.prog 18 #[.slice Aa n ca, .slice Ab n cb2] wb fun e w' => e = .returned (.bool true) ∧ ∃ m, w' = wb.drewN m := by
  by_cases hne : cs = []
  · have hn0 : n = 0 := by rw [← hn, hne]; rfl
    subst hn0
    exact same_none _ _ _ _ _
  · subst hn
    obtain ⟨ga, c1, ea, Ha⟩ := row_hold _ cs hne h0 ha.2 ha.1
    obtain ⟨gb, c2, eb, Hb⟩ := row_hold _ cs hne (below_then (below_then h0 ha.2) h1) hb.2 hb.1
    have Ha2 := Ha.and_then (below_then h1 hb.2)
    obtain ⟨rfl, rfl⟩ : Aa = some ⟨ga, 0, none⟩ ∧ ca = c1 := by simpa using ea
    obtain ⟨rfl, rfl⟩ : Ab = some ⟨gb, 0, none⟩ ∧ cb2 = c2 := by simpa using eb
    exact same_some ga gb _ _ cs wb Ha2.2.1 Hb.2.1 hl

set_option maxRecDepth 100000 in
theorem calls_far_s (s b : ByteArray) (w : World) (h1 : 70000 < s.size) :
    Calls Try.prog 4 #[.string s, .string b] w fun e w' => e = .returned (.bool true) ∧ Below w.heap.size w w' := by
  go_enter Try.func4, Try.ntmps4
  go_wp2_with fail
  refine (lives3 _).mono ?_
  rintro e w1 ⟨rfl, q1⟩
  go_wp2_with fail
  go_ret
  exact ⟨rfl, q1⟩
set_option maxRecDepth 100000 in
theorem calls_far_b (s b : ByteArray) (w : World) (h1 : ¬ 70000 < s.size) (h2 : 70000 < b.size) :
    Calls Try.prog 4 #[.string s, .string b] w fun e w' => e = .returned (.bool true) ∧ Below w.heap.size w w' := by
  go_enter Try.func4, Try.ntmps4
  go_wp2_with fail
  refine (lives3 _).mono ?_
  rintro e w1 ⟨rfl, q1⟩
  go_wp2_with fail
  go_ret
  exact ⟨rfl, q1⟩

set_option maxRecDepth 100000 in
set_option maxHeartbeats 4000000 in
theorem calls_near (s b : ByteArray) (w : World) (h1 : s.size ≤ 70000) (h2 : b.size ≤ 70000) :
    Calls Try.prog 4 #[.string s, .string b] w fun e w' => e = .returned (.bool true) ∧ Below w.heap.size w w' := by
  obtain ⟨t1, e1, TX, TY⟩ := both_text s h1
  obtain ⟨t2, e2, BX, BY⟩ := both_binary s
  obtain ⟨t3, n3, e3, RX, RY⟩ := both_read b h2
  obtain ⟨t4, n4, e4, DX, DY⟩ := both_readbin b h2
  obtain ⟨n5, CX, CY⟩ := both_count s h1
  obtain ⟨v6, VX, VY⟩ : ∃ v : Bool, K3 9 s (.bool v) ∧ K3 23 s (.bool v) := ⟨_, Lib.hid fun W => valid_any s W (by omega), k3_same fun W => ref_valid s W h1⟩
  obtain ⟨z7, ZX, ZY⟩ : ∃ z : Int, K3 17 s (.int .i64 z) ∧ K3 24 s (.int .i64 z) := ⟨_, Lib.hid fun W => bad_any s W (by omega), k3_same fun W => ref_bad s W h1⟩
  obtain ⟨cs, hcl, UX, UY⟩ := both_runes s h1
  obtain ⟨n, hn⟩ : ∃ n, cs.length = n := ⟨_, rfl⟩
  have HN := Lib.hid (show cs.length = n ∧ cs.length ≤ 70000 from ⟨hn, hcl⟩)
  clear hn hcl
  go_enter Try.func4, Try.ntmps4
  go_wp2_with fail
  refine (lives3 _).mono ?_
  rintro e w1 ⟨rfl, q1⟩
  go_wp2_with fail
  refine (TX.out _).mono ?_
  rintro e w2 ⟨rfl, q2⟩
  go_wp2_with fail
  refine (TY.out _).mono ?_
  rintro e w3 ⟨rfl, q3⟩
  go_wp2_with fail
  refine (BX.out _).mono ?_
  rintro e w4 ⟨rfl, q4⟩
  go_wp2_with fail
  refine (BY.out _).mono ?_
  rintro e w5 ⟨rfl, q5⟩
  go_wp2_with fail
  refine (RX.out _).mono ?_
  rintro e w6 ⟨rfl, q6⟩
  go_wp2_with fail
  refine (RY.out _).mono ?_
  rintro e w7 ⟨rfl, q7⟩
  go_wp2_with fail
  refine (DX.out _).mono ?_
  rintro e w8 ⟨rfl, q8⟩
  go_wp2_with fail
  refine (DY.out _).mono ?_
  rintro e w9 ⟨rfl, q9⟩
  go_wp2_with fail
  have QA := Lib.hid (below_then (below_then (below_then (below_then (below_then (below_then (below_then (below_then q1 q2) q3) q4) q5) q6) q7) q8) q9)
  clear q1 q2 q3 q4 q5 q6 q7 q8 q9
  refine (UX.out _).mono ?_
  rintro e wa ⟨va, rfl, ha⟩
  obtain ⟨Aa, ca, rfl⟩ := rowed_len HN.out.1 ha
  have HA := Lib.hid ha
  clear ha
  go_wp2_with fail
  refine (VX.out _).mono ?_
  rintro e w10 ⟨rfl, q10⟩
  go_wp2_with fail
  refine (VY.out _).mono ?_
  rintro e w11 ⟨rfl, q11⟩
  go_wp2_with fail
  refine (ZX.out _).mono ?_
  rintro e w12 ⟨rfl, q12⟩
  go_wp2_with fail
  refine (ZY.out _).mono ?_
  rintro e w13 ⟨rfl, q13⟩
  go_wp2_with fail
  refine (CX.out _).mono ?_
  rintro e w14 ⟨rfl, q14⟩
  go_wp2_with fail
  refine (CY.out _).mono ?_
  rintro e w15 ⟨rfl, q15⟩
  go_wp2_with fail
  have QB := Lib.hid (below_then (below_then (below_then (below_then (below_then q10 q11) q12) q13) q14) q15)
  clear q10 q11 q12 q13 q14 q15
  refine (UY.out _).mono ?_
  rintro e wb ⟨vb, rfl, hb⟩
  obtain ⟨Ab, cb2, rfl⟩ := rowed_len HN.out.1 hb
  have HB := Lib.hid hb
  clear hb
  go_wp2_with fail
  have SAME := Lib.hid (show Calls Try.prog 18 #[.slice Aa n ca, .slice Ab n cb2] wb fun e w' => e = .returned (.bool true) ∧ ∃ m, w' = wb.drewN m from by
    exact same_rowed HN.out.1 HN.out.2 QA.out HA.out QB.out HB.out)
  refine (SAME.out).mono ?_
  rintro e wc ⟨rfl, m, rfl⟩
  go_wp2_with fail
  go_ret
  exact ⟨rfl, below_draws (below_then (below_then (below_then QA.out HA.out.2) QB.out) HB.out.2) m⟩

theorem calls_walk (s b : ByteArray) (w : World) :
    Calls Try.prog 4 #[.string s, .string b] w fun e w' => e = .returned (.bool true) ∧ Below w.heap.size w w' := by
  by_cases h1 : 70000 < s.size
  · exact calls_far_s s b w h1
  by_cases h2 : 70000 < b.size
  · exact calls_far_b s b w h1 h2
  exact calls_near s b w (by omega) (by omega)

set_option maxRecDepth 100000 in
theorem calls3_lifted (os : Os) (started : os.Started) (H : Type) (enc : TypeId × Value → H) :
    ReturnsInHanded {} Try.checked os 4 .any (Rows.ustringCallsSpec.pre6 enc Try.prog Try.f4 Rows.ustringCallsRow.domain false) (Rows.ustringCallsSpec.post enc Try.prog Try.f4 false true false false) := by
  refine returnsInHanded_of_change (C := Try.checked) own started (by kernel_rfl) Try.func4
    (ChangeSpec.witness6 (enc := enc) (C := Try.checked) false ⟨#[], #[.string .empty, .string .empty], []⟩ 8 (by kernel_rfl) (by kernel_rfl) (by kernel_rfl) (by kernel_rfl)) ?_
  intro W base args ds gs before hval0 hW hcnd _
  have hval : ∀ (j : Nat) t v, Try.f4.params[j]? = some t → args[j]? = some v → Value.okWide Try.prog W .any base t v := hval0
  have hW' := hW
  obtain ⟨p, q, hA0, hV, rfl, hfz, hnd⟩ := hW
  have hA : DataW.TrodAll enc Try.prog W 0 (fun _ => true) true Try.f4.params.toList args.toList ds p := hA0
  rw [Try.params4] at hA hval
  obtain ⟨v0, vs0, d0, ds0, p0, q0, hargs0, rfl, rfl, h0, r0⟩ := trodAll_cons hA
  obtain ⟨v1, vs1, d1, ds1, p1, q1, rfl, rfl, rfl, h1, r1⟩ := trodAll_cons r0
  obtain ⟨rfl, rfl, rfl⟩ := trodAll_nil r1
  obtain rfl : args = #[v0, v1] := by cases args; simp_all
  obtain ⟨rfl, rfl⟩ := trodVars_none hV
  obtain ⟨a0, rfl, rfl, rfl, w0⟩ := open_string Try.underlying9 (hval 0 9 v0 rfl rfl) h0
  unfold maxLen at w0
  obtain ⟨a1, rfl, rfl, rfl, w1⟩ := open_string Try.underlying9 (hval 1 9 v1 rfl rfl) h1
  unfold maxLen at w1
  refine (calls_walk a0 a1 W).mono fun e W' ⟨he, hb⟩ => ?_
  subst he
  exact ⟨_, rfl, law_post (tb := 4) laidOut (by decide +kernel) (by kernel_rfl) Try.underlying4 rfl hW' rfl hb⟩

theorem ustringCalls_holds : Rows.UstringCallsSaid :=
  OpenClaim.holds_of_wide 4 Try.f4 rfl rfl rfl rfl rfl rfl rfl ⟨rfl, rfl, rfl, rfl, rfl⟩ rfl rfl rfl rfl rfl (by kernel_rfl) Try.func4 (by kernel_rfl)
    (of_decide_eq_true (by kernel_rfl)) (by unfold Func.isWrapper; first | (rw [if_pos (by decide +kernel)]; kernel_rfl) | (rw [if_neg (by decide +kernel)]; exact ⟨rfl, rfl⟩))
    (fun os started H enc _ => calls3_lifted os started H enc)
end Go.Proofs.Ytohbhmffgaijgaa
