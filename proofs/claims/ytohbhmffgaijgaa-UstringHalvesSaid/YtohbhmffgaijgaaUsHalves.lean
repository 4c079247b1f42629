/-
  The given statement UstringHalves: whatever the inputs, the law returns true and the arguments read as before. No condition.
-/
import Derived.Deep.RegionHeld3
import Derived.Test.YtohbhmffgaijgaaUsRow
import Derived.Test.YtohbhmffgaijgaaPick
import Derived.Test.YtohbhmffgaijgaaLawKit
namespace Go.Proofs.Ytohbhmffgaijgaa
open Go.ChangeShapes Go.WideShapes Go.ChangeAt Go.RowKit
open Go.ChangeMaps (open_string)

theorem valid_of_bad (l : List UInt8) (hl : l.length ≤ 65535) : validOf l = decide (badOf l < 0) := by simp [validOf, hl]
theorem valid_cut {a b : List UInt8} (ha : validOf a = true) (hl : (a ++ b).length ≤ 65535) : validOf (a ++ b) = validOf b := by
  rw [List.length_append] at hl
  cases hb : validOf b with
  | true => exact valid_join ha hb (by rw [List.length_append]; omega)
  | false => exact (bad_join ha hb (by omega)).1
theorem oks_take {cs : List Nat} (h : oks cs) (k : Nat) : oks (cs.take k) := fun c hc => h c (List.mem_of_mem_take hc)
theorem oks_drop {cs : List Nat} (h : oks cs) (k : Nat) : oks (cs.drop k) := fun c hc => h c (List.mem_of_mem_drop hc)
theorem extract_list (s : ByteArray) (i j : Nat) : (s.extract i j).data.toList = (s.data.toList.drop i).take (j - i) := by simp [List.extract_eq_take_drop]

/-- All that is said of the halves of a string at its k-th code point. -/
structure Halved (s : ByteArray) (cs : List Nat) (k p q E : Nat) (c : Nat) : Prop where
  okc : okc c
  get : cs[k]?.getD 0 = c
  left : (s.extract 0 p).data.toList = cbs (cs.take k)
  right : (s.extract p E).data.toList = cbs (cs.drop k)
  point : (s.extract p q).data.toList = cb c
  rest : validOf (s.extract p s.size).data.toList = validOf s.data.toList
  le : p ≤ q ∧ q ≤ E ∧ E ≤ s.size
theorem halved (s : ByteArray) (k : Nat) (hs : s.size ≤ 1000) (hk : k < (pts s.data.toList).length) :
    Halved s (pts s.data.toList) k (cbs ((pts s.data.toList).take k)).length (cbs ((pts s.data.toList).take (k + 1))).length (fin s.data.toList) ((pts s.data.toList)[k]?.getD 0) := by
  obtain ⟨r, hl, hr⟩ := pts_rest s.data.toList
  have ho := pts_oks s.data.toList
  have hf : fin s.data.toList = (cbs (pts s.data.toList)).length := rfl
  have hsz := size_list s
  rw [hf]
  generalize hcs : pts s.data.toList = cs at *
  have e1 : cs = cs.take k ++ cs.drop k := (List.take_append_drop k cs).symm
  have e2 : cs.drop k = [cs[k]] ++ cs.drop (k + 1) := List.drop_eq_getElem_cons hk
  have e3 : cs.take (k + 1) = cs.take k ++ [cs[k]] := List.take_succ_eq_append_getElem hk
  have ec : cs[k]?.getD 0 = cs[k] := by simp [hk]
  have b1 : cbs cs = cbs (cs.take k) ++ cbs (cs.drop k) := by rw [← cbs_append, ← e1]
  have b2 : cbs (cs.drop k) = cb cs[k] ++ cbs (cs.drop (k + 1)) := by rw [e2, cbs_append]; simp [cbs]
  have b3 : cbs (cs.take (k + 1)) = cbs (cs.take k) ++ cb cs[k] := by rw [e3, cbs_snoc]
  have hv : validOf (cbs (cs.take k)) = true := valid_cbs (oks_take ho k) (by
    have := congrArg List.length hl
    rw [b1] at this
    simp only [List.length_append] at this
    omega)
  have hl2 : s.data.toList = cbs (cs.take k) ++ (cbs (cs.drop k) ++ r) := by rw [← List.append_assoc, ← b1]; exact hl
  have hlen := congrArg List.length hl
  rw [b1, b2] at hlen
  simp only [List.length_append] at hlen
  have hd : s.data.toList.drop (cbs (cs.take k)).length = cbs (cs.drop k) ++ r := by rw [hl2]; simp
  refine ⟨?_, rfl, ?_, ?_, ?_, ?_, ?_⟩
  · rw [ec]; exact ho _ (List.getElem_mem hk)
  · rw [extract_list, hl2]; simp
  · rw [extract_list, hd, b1, List.length_append]; simp
  · rw [extract_list, hd, b2, b3, List.length_append, ec, List.append_assoc]; simp
  · rw [extract_list, hd, List.take_of_length_le (by rw [b2]; simp only [List.length_append]; omega), hl2]
    exact (valid_cut hv (by rw [← hl2, ← hsz]; omega)).symm
  · rw [b1, b2, b3]; simp only [List.length_append]; omega

theorem halves_far (s : ByteArray) (i : Int) (w : World) (h1 : 1000 < s.size) :
    Calls Try.prog 6 #[.string s, .int .i64 i] w fun e w' => e = .returned (.bool true) ∧ Below w.heap.size w w' := by
  go_enter Try.func6, Try.ntmps6
  go_wp2_with fail
  refine (lives3 _).mono ?_
  rintro e w1 ⟨rfl, q1⟩
  go_wp2_with fail
  go_ret
  exact ⟨rfl, q1⟩
theorem rune_row (s : ByteArray) (hs : s.size ≤ 70000) (cs : List Nat) (hcs : pts s.data.toList = cs) :
    RowKit.Hid (∀ W, Calls Try.prog 16 #[.string s] W fun e W' => ∃ v, e = .returned (.tuple #[v, .bool true]) ∧ W'.ownsRow W.heap.size 37 2 v cs.length (rcells (marks 0 cs)) ∧ Below W.heap.size W W') :=
  Lib.hid fun W => by subst hcs; exact runes_law s W hs

set_option maxRecDepth 100000 in
theorem halves_v0 (s : ByteArray) (i : Int) (w : World) (h1 : s.size ≤ 1000) (hz : badOf s.data.toList = -1) (hv : validOf s.data.toList = true) (hn : pts s.data.toList = []) :
    Calls Try.prog 6 #[.string s, .int .i64 i] w fun e w' => e = .returned (.bool true) ∧ Below w.heap.size w w' := by
  have V := valid_is s true (by omega) hv
  have B := bad_is s _ (by omega) hz
  have R := rune_row s (by omega) [] hn
  have hf0 : fin s.data.toList = 0 := by unfold fin; rw [hn]; rfl
  have hs0 : s.size = 0 := by have := ((validOf_iff _).1 hv).2; rw [← size_list] at this; omega
  have hs0 : (s.size : Int) = 0 := by omega
  clear hz hv hn hf0
  clear h1
  go_enter Try.func6, Try.ntmps6
  go_wp2_with fail
  refine (lives3 _).mono ?_
  rintro e w1 ⟨rfl, q1⟩
  go_wp2_with fail
  refine (R.out _).mono ?_
  rintro e w2 ⟨v, rfl, hr, q2⟩
  have hvn : v = .slice none 0 0 ∨ ∃ A cap, v = .slice A 0 cap := by
    rcases hr.2 with ⟨h, _⟩ | ⟨g, cap, cur, h, _⟩
    · exact .inl h
    · exact .inr ⟨_, _, h⟩
  have hvn : ∃ A cap, v = .slice A 0 cap := hvn.elim (fun h => ⟨_, _, h⟩) id
  obtain ⟨A, cap, rfl⟩ := hvn
  clear hr
  go_wp2_with fail
  refine (B.out _).mono ?_
  rintro e w3 ⟨rfl, q3⟩
  go_wp2_with fail
  refine (V.out _).mono ?_
  rintro e w4 ⟨rfl, q4⟩
  go_wp2_with fail
  go_ret
  exact ⟨rfl, below_then (below_then (below_then q1 q2) q3) q4⟩

set_option maxRecDepth 100000 in
set_option maxHeartbeats 4000000 in
theorem halves_v1 (s : ByteArray) (i : Int) (w : World) (h1 : s.size ≤ 1000) (hz : badOf s.data.toList = -1) (hv : validOf s.data.toList = true) (hn : pts s.data.toList ≠ []) :
    Calls Try.prog 6 #[.string s, .int .i64 i] w fun e w' => e = .returned (.bool true) ∧ Below w.heap.size w w' := by
  have V := valid_is s true (by omega) hv
  have B := bad_is s _ (by omega) hz
  have hlen := pts_length_le s.data.toList
  rw [← size_list] at hlen
  have hpos : 0 < (pts s.data.toList).length := List.length_pos_iff.2 hn
  obtain ⟨k, hk, hkn⟩ : ∃ k : Nat, i % ((pts s.data.toList).length : Int) = (k : Int) ∧ k < (pts s.data.toList).length := ⟨(i % ((pts s.data.toList).length : Int)).toNat, by have := Int.emod_nonneg i (show ((pts s.data.toList).length : Int) ≠ 0 by omega); omega, by have := Int.emod_nonneg i (show ((pts s.data.toList).length : Int) ≠ 0 by omega); have := Int.emod_lt_of_pos i (show 0 < ((pts s.data.toList).length : Int) by omega); omega⟩
  have P := Lib.hid (show ∀ W, Calls Try.prog 27 #[.int .i64 i, .int .i64 ((pts s.data.toList).length : Int)] W fun e w' => e = .returned (.int .i64 (k : Int)) ∧ W = w' from fun W => by have h := pick_any i ((pts s.data.toList).length : Int) W (by omega) (by omega); rwa [hk] at h)
  have hd := halved s k h1 hkn
  have R := rune_row s (by omega) _ rfl
  have ho := pts_oks s.data.toList
  have hE : fin s.data.toList = s.size := by rw [((validOf_iff _).1 hv).2, size_list]
  generalize pts s.data.toList = cs at *
  generalize hp : (cbs (cs.take k)).length = p at *
  generalize hq : (cbs (cs.take (k + 1))).length = q at *
  obtain ⟨c, hc⟩ : ∃ c, cs[k]?.getD 0 = c := ⟨_, rfl⟩
  rw [hc] at hd
  rw [hE] at hd
  have hk2 : k + 1 ≤ cs.length := hkn
  have VA := valid_is (s.extract 0 p) true (by rw [size_list, hd.left, hp]; have := hd.le; omega) (by rw [hd.left]; exact valid_cbs (oks_take ho k) (by have := hd.le; omega))
  have CA := count_is (s.extract 0 p) k (by rw [size_list, hd.left, hp]; have := hd.le; omega) (by rw [hd.left]; exact valid_cbs (oks_take ho k) (by have := hd.le; omega)) (by rw [hd.left, pts_cbs (oks_take ho k), List.length_take]; omega)
  have hsE : (s.extract p s.size).size ≤ s.size := by rw [ByteArray.size_extract]; omega
  have hbl : (cbs (cs.drop k)).length ≤ s.size := by rw [← hd.right, ← size_list]; exact hsE
  have VB := valid_is (s.extract p s.size) true (by rw [ByteArray.size_extract]; omega) (by rw [hd.right]; exact valid_cbs (oks_drop ho k) (by omega))
  have CB := count_is (s.extract p s.size) (cs.length - k) (by rw [ByteArray.size_extract]; omega) (by rw [hd.right]; exact valid_cbs (oks_drop ho k) (by omega)) (by rw [hd.right, pts_cbs (oks_drop ho k), List.length_drop])
  have VC := valid_is (s.extract p s.size) true (by rw [ByteArray.size_extract]; omega) (by rw [hd.rest]; exact hv)
  have hle := hd.le
  have hsub : ((cs.length - k : Nat) : Int) = (cs.length : Int) - (k : Int) := by omega
  rw [hsub] at CB
  obtain ⟨n, hnn⟩ : ∃ n, cs.length = n := ⟨_, rfl⟩
  have NX := Lib.hid (show ∀ W g cap, Hold w W g cs → Calls Try.prog 28 #[.slice (some ⟨g, 0, none⟩) n cap, .int .i64 k, .int .i64 (s.size : Int)] W fun e W' => e = .returned (.int .i64 (q : Int)) ∧ W = W' from fun W g cap hh => by
    subst hnn
    rcases Nat.lt_or_ge (k + 1) cs.length with hlt | hge
    · exact next_in cap k q _ hh hlt (by omega) hq
    · have hqe : q = s.size := by
        have e1 : cs.take (k + 1) = cs := List.take_of_length_le (by omega)
        rw [e1] at hq
        have := hd.le
        have hr := congrArg List.length hd.right
        rw [← size_list, ByteArray.size_extract] at hr
        have e2 := congrArg (fun x => (cbs x).length) (List.take_append_drop k cs)
        simp only [cbs_append, List.length_append] at e2
        omega
      rw [hqe]
      exact next_end W _ _ cap k _ (by omega) (by omega))
  have KK := Lib.hid (show k < cs.length ∧ cs ≠ [] ∧ (cbs (cs.take k)).length = p ∧ cs[k]?.getD 0 = c ∧ cs.length = n from ⟨hkn, hn, hp, hc, hnn⟩)
  have HD := Lib.hid hd
  rw [hnn] at P R CB hkn hlen
  have g1 : (k : Int) < (n : Int) := by omega
  have g2 : ¬ (n : Int) = 0 := by omega
  have g3 : (n : Int) ≤ 1000 := by omega
  have g4 : (p : Int) ≤ (s.size : Int) := by omega
  have g5 : (p : Int) ≤ (q : Int) := by omega
  have g6 : (q : Int) ≤ (s.size : Int) := by omega
  have g7 : (p : Int) ≤ (s.size : Int) := by omega
  have g9 : (s.size : Int) ≤ 1000 := by omega
  clear hz hv hn hk hc hd ho hp hq hle hsub hbl hsE hk2 hkn hlen hpos hnn h1 hE
  go_enter Try.func6, Try.ntmps6
  go_wp2_with fail
  refine (lives3 _).mono ?_
  rintro e w1 ⟨rfl, q1⟩
  go_wp2_with fail
  refine (R.out _).mono ?_
  rintro e w2 ⟨v, rfl, hr, q2⟩
  obtain ⟨g, cap, rfl, H2⟩ := row_hold v cs KK.out.2.1 q1 q2 (by rw [KK.out.2.2.2.2]; exact hr)
  rw [KK.out.2.2.2.2]
  clear hr
  go_wp2_with fail
  refine (B.out _).mono ?_
  rintro e w3 ⟨rfl, q3⟩
  have H3 := H2.and_then q3
  go_wp2_with fail
  refine (V.out _).mono ?_
  rintro e w4 ⟨rfl, q4⟩
  have H4 := H3.and_then q4
  go_wp2_with fail
  refine (P.out _).mono ?_
  rintro e w5 ⟨rfl, rfl⟩
  have c12 := H4.2.1 k KK.out.1
  rw [KK.out.2.2.1, KK.out.2.2.2.1] at c12
  obtain ⟨c1, c2⟩ := c12
  go_wp2_with fail
  go_quiet (fail)
  go_wp2_with fail
  have H5 := H4.draws nq
  generalize w4.drewN nq = W5 at H5 ⊢
  have hS : Sh w g cs k p c W5.drew := Sh.mk KK.out.1 KK.out.2.2.1 KK.out.2.2.2.1 H5.drew
  have hwr : IntKind.i64.wrap ((n : Int) - (k : Int)) = (n : Int) - (k : Int) := by simp only [IntKind.wrap_i64]; omega
  clear c1 c2 H2 H3 H4 H5 q1 q2 q3 q4
  go_region_held3 (fun w' => w'.cell? ⟨g, k * 2, none⟩ = some (.int .i64 (p : Int)) ∧ w'.cell? ⟨g, k * 2 + 1, none⟩ = some (.int .i32 (c : Int)) ∧ Hold w w' g cs) (exact hS)
    (first
      | (go_at_call 9; with_reducible refine (sh_of hS (VA.out _)).mono ?_; rintro e w' ⟨rfl, hS⟩)
      | (go_at_call 9; with_reducible refine (sh_of hS (VB.out _)).mono ?_; rintro e w' ⟨rfl, hS⟩)
      | (go_at_call 9; with_reducible refine (sh_of hS (V.out _)).mono ?_; rintro e w' ⟨rfl, hS⟩)
      | (go_at_call 9; with_reducible refine (sh_of hS (VC.out _)).mono ?_; rintro e w' ⟨rfl, hS⟩)
      | (go_at_call 10; with_reducible refine (sh_of hS (CA.out _)).mono ?_; rintro e w' ⟨rfl, hS⟩)
      | (go_at_call 10; with_reducible refine (sh_of hS (CB.out _)).mono ?_; rintro e w' ⟨rfl, hS⟩)
      | (go_at_call 28; with_reducible refine (sh_same hS (NX.out _ _ _ (Sh.hold hS))).mono ?_; rintro e w' ⟨rfl, hS⟩))
  have hB := (Sh.hold hS).1
  go_wp2_with fail
  go_ret
  refine ⟨?_, hB⟩
  have e0 : Utf8.encode (c : Int) = s.extract p q := by rw [encode_cb HD.out.okc, ← HD.out.point]
  show Ending.returned (.bool ((Utf8.encode (c : Int)).toList == (s.extract p q).toList)) = .returned (.bool true)
  rw [e0, beq_self_eq_true]

set_option maxRecDepth 100000 in
theorem halves_i0 (s : ByteArray) (i : Int) (w : World) (h1 : s.size ≤ 1000) (hz : badOf s.data.toList = ((fin s.data.toList : Nat) : Int)) (hv : validOf s.data.toList = false) (hlt : fin s.data.toList < s.size) (hn : pts s.data.toList = []) :
    Calls Try.prog 6 #[.string s, .int .i64 i] w fun e w' => e = .returned (.bool true) ∧ Below w.heap.size w w' := by
  have V := valid_is s false (by omega) hv
  have B := bad_is s _ (by omega) hz
  have R := rune_row s (by omega) [] hn
  have hf0 : fin s.data.toList = 0 := by unfold fin; rw [hn]; rfl
  rw [hf0] at B
  have hne : ¬ s = ByteArray.empty := by rintro rfl; simp at hlt
  clear hlt
  clear hz hv hn hf0
  go_enter Try.func6, Try.ntmps6
  go_wp2_with fail
  refine (lives3 _).mono ?_
  rintro e w1 ⟨rfl, q1⟩
  go_wp2_with fail
  refine (R.out _).mono ?_
  rintro e w2 ⟨v, rfl, hr, q2⟩
  have hvn : v = .slice none 0 0 ∨ ∃ A cap, v = .slice A 0 cap := by
    rcases hr.2 with ⟨h, _⟩ | ⟨g, cap, cur, h, _⟩
    · exact .inl h
    · exact .inr ⟨_, _, h⟩
  have hvn : ∃ A cap, v = .slice A 0 cap := hvn.elim (fun h => ⟨_, _, h⟩) id
  obtain ⟨A, cap, rfl⟩ := hvn
  clear hr
  go_wp2_with fail
  refine (B.out _).mono ?_
  rintro e w3 ⟨rfl, q3⟩
  go_wp2_with fail
  refine (V.out _).mono ?_
  rintro e w4 ⟨rfl, q4⟩
  go_wp2_with fail
  go_ret
  exact ⟨rfl, below_then (below_then (below_then q1 q2) q3) q4⟩

set_option maxRecDepth 100000 in
set_option maxHeartbeats 4000000 in
theorem halves_i1 (s : ByteArray) (i : Int) (w : World) (h1 : s.size ≤ 1000) (hz : badOf s.data.toList = ((fin s.data.toList : Nat) : Int)) (hv : validOf s.data.toList = false) (hlt : fin s.data.toList < s.size) (hn : pts s.data.toList ≠ []) :
    Calls Try.prog 6 #[.string s, .int .i64 i] w fun e w' => e = .returned (.bool true) ∧ Below w.heap.size w w' := by
  have V := valid_is s false (by omega) hv
  have B := bad_is s _ (by omega) hz
  have hlen := pts_length_le s.data.toList
  rw [← size_list] at hlen
  have hpos : 0 < (pts s.data.toList).length := List.length_pos_iff.2 hn
  obtain ⟨k, hk, hkn⟩ : ∃ k : Nat, i % ((pts s.data.toList).length : Int) = (k : Int) ∧ k < (pts s.data.toList).length := ⟨(i % ((pts s.data.toList).length : Int)).toNat, by have := Int.emod_nonneg i (show ((pts s.data.toList).length : Int) ≠ 0 by omega); omega, by have := Int.emod_nonneg i (show ((pts s.data.toList).length : Int) ≠ 0 by omega); have := Int.emod_lt_of_pos i (show 0 < ((pts s.data.toList).length : Int) by omega); omega⟩
  have P := Lib.hid (show ∀ W, Calls Try.prog 27 #[.int .i64 i, .int .i64 ((pts s.data.toList).length : Int)] W fun e w' => e = .returned (.int .i64 (k : Int)) ∧ W = w' from fun W => by have h := pick_any i ((pts s.data.toList).length : Int) W (by omega) (by omega); rwa [hk] at h)
  have hd := halved s k h1 hkn
  have R := rune_row s (by omega) _ rfl
  have ho := pts_oks s.data.toList
  generalize pts s.data.toList = cs at *
  generalize hp : (cbs (cs.take k)).length = p at *
  generalize hq : (cbs (cs.take (k + 1))).length = q at *
  obtain ⟨c, hc⟩ : ∃ c, cs[k]?.getD 0 = c := ⟨_, rfl⟩
  rw [hc] at hd
  generalize fin s.data.toList = E at *
  have hk2 : k + 1 ≤ cs.length := hkn
  have VA := valid_is (s.extract 0 p) true (by rw [size_list, hd.left, hp]; have := hd.le; omega) (by rw [hd.left]; exact valid_cbs (oks_take ho k) (by have := hd.le; omega))
  have CA := count_is (s.extract 0 p) k (by rw [size_list, hd.left, hp]; have := hd.le; omega) (by rw [hd.left]; exact valid_cbs (oks_take ho k) (by have := hd.le; omega)) (by rw [hd.left, pts_cbs (oks_take ho k), List.length_take]; omega)
  have hsE : (s.extract p E).size ≤ s.size := by rw [ByteArray.size_extract]; omega
  have hbl : (cbs (cs.drop k)).length ≤ s.size := by rw [← hd.right, ← size_list]; exact hsE
  have VB := valid_is (s.extract p E) true (by rw [ByteArray.size_extract]; omega) (by rw [hd.right]; exact valid_cbs (oks_drop ho k) (by omega))
  have CB := count_is (s.extract p E) (cs.length - k) (by rw [ByteArray.size_extract]; omega) (by rw [hd.right]; exact valid_cbs (oks_drop ho k) (by omega)) (by rw [hd.right, pts_cbs (oks_drop ho k), List.length_drop])
  have VC := valid_is (s.extract p s.size) false (by rw [ByteArray.size_extract]; omega) (by rw [hd.rest]; exact hv)
  have hle := hd.le
  have hsub : ((cs.length - k : Nat) : Int) = (cs.length : Int) - (k : Int) := by omega
  rw [hsub] at CB
  obtain ⟨n, hnn⟩ : ∃ n, cs.length = n := ⟨_, rfl⟩
  have NX := Lib.hid (show ∀ W g cap, Hold w W g cs → Calls Try.prog 28 #[.slice (some ⟨g, 0, none⟩) n cap, .int .i64 k, .int .i64 (E : Int)] W fun e W' => e = .returned (.int .i64 (q : Int)) ∧ W = W' from fun W g cap hh => by
    subst hnn
    rcases Nat.lt_or_ge (k + 1) cs.length with hlt | hge
    · exact next_in cap k q _ hh hlt (by omega) hq
    · have hqe : q = E := by
        have e1 : cs.take (k + 1) = cs := List.take_of_length_le (by omega)
        rw [e1] at hq
        have := hd.le
        have hr := congrArg List.length hd.right
        rw [← size_list, ByteArray.size_extract] at hr
        have e2 := congrArg (fun x => (cbs x).length) (List.take_append_drop k cs)
        simp only [cbs_append, List.length_append] at e2
        omega
      rw [hqe]
      exact next_end W _ _ cap k _ (by omega) (by omega))
  have KK := Lib.hid (show k < cs.length ∧ cs ≠ [] ∧ (cbs (cs.take k)).length = p ∧ cs[k]?.getD 0 = c ∧ cs.length = n from ⟨hkn, hn, hp, hc, hnn⟩)
  have HD := Lib.hid hd
  rw [hnn] at P R CB hkn hlen
  have g1 : (k : Int) < (n : Int) := by omega
  have g2 : ¬ (n : Int) = 0 := by omega
  have g3 : (n : Int) ≤ 1000 := by omega
  have g4 : (p : Int) ≤ (E : Int) := by omega
  have g5 : (p : Int) ≤ (q : Int) := by omega
  have g6 : (q : Int) ≤ (s.size : Int) := by omega
  have g7 : (p : Int) ≤ (s.size : Int) := by omega
  have g8 : (E : Int) < (s.size : Int) := by omega
  have g9 : (s.size : Int) ≤ 1000 := by omega
  clear hz hv hn hk hc hd ho hp hq hle hsub hbl hsE hk2 hkn hlen hpos hnn h1 hlt
  go_enter Try.func6, Try.ntmps6
  go_wp2_with fail
  refine (lives3 _).mono ?_
  rintro e w1 ⟨rfl, q1⟩
  go_wp2_with fail
  refine (R.out _).mono ?_
  rintro e w2 ⟨v, rfl, hr, q2⟩
  obtain ⟨g, cap, rfl, H2⟩ := row_hold v cs KK.out.2.1 q1 q2 (by rw [KK.out.2.2.2.2]; exact hr)
  rw [KK.out.2.2.2.2]
  clear hr
  go_wp2_with fail
  refine (B.out _).mono ?_
  rintro e w3 ⟨rfl, q3⟩
  have H3 := H2.and_then q3
  go_wp2_with fail
  refine (V.out _).mono ?_
  rintro e w4 ⟨rfl, q4⟩
  have H4 := H3.and_then q4
  go_wp2_with fail
  refine (P.out _).mono ?_
  rintro e w5 ⟨rfl, rfl⟩
  have c12 := H4.2.1 k KK.out.1
  rw [KK.out.2.2.1, KK.out.2.2.2.1] at c12
  obtain ⟨c1, c2⟩ := c12
  go_wp2_with fail
  go_quiet (fail)
  go_wp2_with fail
  have H5 := H4.draws nq
  generalize w4.drewN nq = W5 at H5 ⊢
  have hS : Sh w g cs k p c W5.drew := Sh.mk KK.out.1 KK.out.2.2.1 KK.out.2.2.2.1 H5.drew
  have hwr : IntKind.i64.wrap ((n : Int) - (k : Int)) = (n : Int) - (k : Int) := by simp only [IntKind.wrap_i64]; omega
  clear c1 c2 H2 H3 H4 H5 q1 q2 q3 q4
  go_region_held3 (fun w' => w'.cell? ⟨g, k * 2, none⟩ = some (.int .i64 (p : Int)) ∧ w'.cell? ⟨g, k * 2 + 1, none⟩ = some (.int .i32 (c : Int)) ∧ Hold w w' g cs) (exact hS)
    (first
      | (go_at_call 9; with_reducible refine (sh_of hS (VA.out _)).mono ?_; rintro e w' ⟨rfl, hS⟩)
      | (go_at_call 9; with_reducible refine (sh_of hS (VB.out _)).mono ?_; rintro e w' ⟨rfl, hS⟩)
      | (go_at_call 9; with_reducible refine (sh_of hS (V.out _)).mono ?_; rintro e w' ⟨rfl, hS⟩)
      | (go_at_call 9; with_reducible refine (sh_of hS (VC.out _)).mono ?_; rintro e w' ⟨rfl, hS⟩)
      | (go_at_call 10; with_reducible refine (sh_of hS (CA.out _)).mono ?_; rintro e w' ⟨rfl, hS⟩)
      | (go_at_call 10; with_reducible refine (sh_of hS (CB.out _)).mono ?_; rintro e w' ⟨rfl, hS⟩)
      | (go_at_call 28; with_reducible refine (sh_same hS (NX.out _ _ _ (Sh.hold hS))).mono ?_; rintro e w' ⟨rfl, hS⟩))
  have hB := (Sh.hold hS).1
  go_wp2_with fail
  go_ret
  refine ⟨?_, hB⟩
  have e0 : Utf8.encode (c : Int) = s.extract p q := by rw [encode_cb HD.out.okc, ← HD.out.point]
  show Ending.returned (.bool ((Utf8.encode (c : Int)).toList == (s.extract p q).toList)) = .returned (.bool true)
  rw [e0, beq_self_eq_true]

theorem halves_walk (s : ByteArray) (i : Int) (w : World) (hs : s.size ≤ 9223372036854775807) :
    Calls Try.prog 6 #[.string s, .int .i64 i] w fun e w' => e = .returned (.bool true) ∧ Below w.heap.size w w' := by
  by_cases h1 : 1000 < s.size
  · exact halves_far s i w h1
  have h2 : s.size ≤ 1000 := by omega
  cases hv : validOf s.data.toList with
  | true =>
    have hz : badOf s.data.toList = -1 := by
      have := ((validOf_iff _).1 hv).2
      unfold badOf
      rw [if_neg (by omega)]
    by_cases hn : pts s.data.toList = []
    · exact halves_v0 s i w h2 hz hv hn
    · exact halves_v1 s i w h2 hz hv hn
  | false =>
    have hlt : fin s.data.toList < s.data.toList.length := by
      rcases Nat.lt_or_ge (fin s.data.toList) s.data.toList.length with h | h
      · exact h
      · have := fin_le s.data.toList
        rw [(validOf_iff _).2 ⟨by rw [← size_list]; omega, by omega⟩] at hv; cases hv
    have hz : badOf s.data.toList = ((fin s.data.toList : Nat) : Int) := by
      unfold badOf
      rw [if_pos hlt]
    rw [← size_list] at hlt
    by_cases hn : pts s.data.toList = []
    · exact halves_i0 s i w h2 hz hv hlt hn
    · exact halves_i1 s i w h2 hz hv hlt hn

set_option maxRecDepth 100000 in
theorem halves_lifted (os : Os) (started : os.Started) (H : Type) (enc : TypeId × Value → H) :
    ReturnsInHanded {} Try.checked os 6 .any (Rows.ustringHalvesSpec.pre6 enc Try.prog Try.f6 Rows.ustringHalvesRow.domain false) (Rows.ustringHalvesSpec.post enc Try.prog Try.f6 false true false false) := by
  refine returnsInHanded_of_change (C := Try.checked) own started (by kernel_rfl) Try.func6
    (ChangeSpec.witness6 (enc := enc) (C := Try.checked) false ⟨#[], #[.string .empty, .int .i64 0], []⟩ 8 (by kernel_rfl) (by kernel_rfl) (by kernel_rfl) (by kernel_rfl)) ?_
  intro W base args ds gs before hval0 hW hcnd _
  have hval : ∀ (j : Nat) t v, Try.f6.params[j]? = some t → args[j]? = some v → Value.okWide Try.prog W .any base t v := hval0
  have hW' := hW
  obtain ⟨p, q, hA0, hV, rfl, hfz, hnd⟩ := hW
  have hA : DataW.TrodAll enc Try.prog W 0 (fun _ => true) true Try.f6.params.toList args.toList ds p := hA0
  rw [Try.params6] at hA hval
  obtain ⟨v0, vs0, d0, ds0, p0, q0, hargs0, rfl, rfl, h0, r0⟩ := trodAll_cons hA
  obtain ⟨v1, vs1, d1, ds1, p1, q1, rfl, rfl, rfl, h1, r1⟩ := trodAll_cons r0
  obtain ⟨rfl, rfl, rfl⟩ := trodAll_nil r1
  obtain rfl : args = #[v0, v1] := by cases args; simp_all
  obtain ⟨rfl, rfl⟩ := trodVars_none hV
  obtain ⟨a0, rfl, rfl, rfl, w0⟩ := open_string Try.underlying9 (hval 0 9 v0 rfl rfl) h0
  unfold maxLen at w0
  obtain ⟨a1, rfl, rfl, rfl, w1⟩ := open_int Try.underlying3 (hval 1 3 v1 rfl rfl) h1
  refine (halves_walk a0 a1 W (by omega)).mono fun e W' ⟨he, hb⟩ => ?_
  subst he
  exact ⟨_, rfl, law_post (tb := 4) laidOut (by decide +kernel) (by kernel_rfl) Try.underlying4 rfl hW' rfl hb⟩

theorem ustringHalves_holds : Rows.UstringHalvesSaid :=
  OpenClaim.holds_of_wide 6 Try.f6 rfl rfl rfl rfl rfl rfl rfl ⟨rfl, rfl, rfl, rfl, rfl⟩ rfl rfl rfl rfl rfl (by kernel_rfl) Try.func6 (by kernel_rfl)
    (of_decide_eq_true (by kernel_rfl)) (by unfold Func.isWrapper; first | (rw [if_pos (by decide +kernel)]; kernel_rfl) | (rw [if_neg (by decide +kernel)]; exact ⟨rfl, rfl⟩))
    (fun os started H enc _ => halves_lifted os started H enc)
end Go.Proofs.Ytohbhmffgaijgaa
