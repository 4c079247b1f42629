/-
  The walk of polyglotlaw06.ReasonLists. Condition: the tables read as the program's text lays them.
-/
import Derived.Test.YtonfkaoobajbkaaDoorRsnLsStep
import Derived.Test.YtonfkaoobajbkaaDoorRsnLsPlain
import Derived.Test.YtonfkaoobajbkaaDoorRsnLives
namespace Go.Proofs.YtonfkaoobajbkaaDoor
open Go.RowKit

/-- Are there any among them that are a? -/
def inL (l : List Nat) (a : Int) (k : Nat) : Bool := (l.take k).any fun x => (x : Int) == a
theorem inL_succ {l : List Nat} {a : Int} {k x : Nat} (hx : l[k]? = some x) : inL l a (k + 1) = (inL l a k || ((x : Int) == a)) := by
  unfold inL
  have htk : l.take (k + 1) = l.take k ++ [x] := by rw [List.take_add_one, hx]; rfl
  rw [htk, List.any_append]; simp
theorem inL_all {l : List Nat} {a : Int} {k : Nat} (h : l.length ≤ k) : inL l a k = (decide (0 ≤ a) && l.contains a.toNat) := by
  unfold inL
  rw [List.take_of_length_le h, any_codes]
/-- All codes of a kind: a slice with its cells. -/
theorem all_cells (kind : Int) (w : World) :
    Calls Tryd.prog 11 #[.int .i64 kind] w fun e w' => ∃ o n c, n = (codesG (grp kind)).length ∧ e = .returned (.slice o n c) ∧ Below w.heap.size w w' ∧
      ∀ (i x : Nat), (codesG (grp kind))[i]? = some x → ∃ g, o = some ⟨g, 0, none⟩ ∧ g < w'.heap.size ∧ ∀ (j y : Nat), (codesG (grp kind))[j]? = some y → w'.cell? ⟨g, j, none⟩ = some (.int .i64 (y : Int)) := by
  refine (all_any kind w).mono fun e w' ⟨v, he, ho, hb⟩ => ?_
  rcases row_cells ho with ⟨h1, rfl⟩ | ⟨g, c, rfl, hg, hc⟩
  · exact ⟨none, 0, 0, by rw [show codesG (grp kind) = [] from h1]; rfl, he, hb, fun i x hx => by rw [show codesG (grp kind) = [] from h1] at hx; simp at hx⟩
  · exact ⟨_, _, c, rfl, he, hb, fun i x hx => ⟨g, rfl, hg, hc⟩⟩
set_option maxRecDepth 100000 in
set_option maxHeartbeats 2000000 in
theorem rsnlists_walk (kind a b : Int) (w : World) (ht : Tabs w) :
    Calls Tryd.prog 6 #[.int .i64 kind, .int .i64 a, .int .i64 b] w fun e w' => e = .returned (.bool true) ∧ Below w.heap.size w w' := by
  have LV := Lib.hid (lives_rsn w ht)
  have HT := Lib.hid (fun W (h : Below w.heap.size w W) => ht.below h)
  have AC := Lib.hid (fun W => all_cells kind W)
  have hlen := codesG_length _ (grp_lt kind)
  have hhd := codes_head _ (grp_lt kind)
  have MM := Lib.hid (fun x (h : x ∈ codesG (grp kind)) => may_mem h)
  have AS := Lib.hid (fun i x y => asc_at (g := grp kind) (i := i) (x := x) (y := y) (grp_lt kind))
  have LT := Lib.hid (fun x (h : x ∈ codesG (grp kind)) => codes_lt _ (grp_lt kind) x h)
  have IA := Lib.hid (fun k (h : (codesG (grp kind)).length ≤ k) => show inL (codesG (grp kind)) a k = mayR kind a from inL_all h)
  generalize codesG (grp kind) = l at *
  have HLN := Lib.hid hlen
  have HHD := Lib.hid hhd
  clear ht hlen hhd
  go_enter Tryd.func6, Tryd.ntmps6
  go_wp2_with fail
  refine LV.out.mono ?_
  rintro e w1 ⟨rfl, hb⟩
  have L1 := Lib.hid hb
  clear hb
  go_wp2_with fail
  refine (AC.out _).mono ?_
  rintro e w2 ⟨o, n, c, hn, rfl, hb, hcell⟩
  have L2 := Lib.hid (L1.out.trans (hb.mono L1.out.size))
  have HC := Lib.hid hcell
  have HN := Lib.hid hn
  have n1 : (n : Int) ≤ 29 := by have := HLN.out; omega
  clear hb hcell hn AC
  go_wp2_with fail
  go_loopg [8, 9] n (fun gk s8 s9 wx => ∃ k : Nat, k ≤ n ∧ gk = n - k ∧ s9 = .int .i64 (k : Int) ∧ s8 = .bool (inL l a k) ∧ Below w2.heap.size w2 wx)
  case atStart => exact ⟨0, Nat.zero_le _, rfl, rfl, rfl, Below.refl _ _⟩
  case round =>
    obtain ⟨k, hk, rfl, rfl, rfl, hB⟩ := hrel
    have HB := Lib.hid hB
    clear hB
    by_cases hlt : k < n
    · have HK := Lib.hid hlt
      have k1 : (k : Int) < (n : Int) := by omega
      obtain ⟨x, hx⟩ : ∃ x, l[k]? = some x := ⟨_, List.getElem?_eq_getElem (by rw [← HN.out]; exact hlt)⟩
      obtain ⟨g, rfl, hg, hcs⟩ := HC.out k x hx
      have HCS := Lib.hid (fun W (h : Below w2.heap.size w2 W) j y (hy : l[j]? = some y) => (h.cell (p := ⟨g, j, none⟩) hg).trans (hcs j y hy))
      have hxm := List.mem_of_getElem? hx
      have hm := MM.out x hxm
      have hl := LT.out x hxm
      have hq := text_qu (may_known hm)
      have MA := Lib.hid (fun W => may_any kind (x : Int) W)
      rw [hm] at MA
      have TX := Lib.hid (fun W (h : Below w.heap.size w W) => text_any (x : Int) W (HT.out W h))
      have IN := Lib.hid (inL_succ (a := a) hx)
      have HX := Lib.hid hx
      generalize textS (x : Int) = s at *
      clear hxm hm hcs hlt
      have SB := Lib.hid (fun W (h : Below w2.heap.size w2 W) W' (hb : Below W.heap.size W W') => h.trans (hb.mono h.size))
      have SW := Lib.hid (fun W (h : Below w2.heap.size w2 W) => L2.out.trans (h.mono L2.out.size))
      rcases k with _ | k
      · have hx0 : x = 0 := by
          rcases HHD.out with h | h
          · rw [h] at hx; simp at hx
          · rw [h] at hx; exact (Option.some.inj hx).symm
        subst hx0
        have p0 : (0 : Int) < (n : Int) := k1
        have p1 : 0 < n := by omega
        clear hx hl k1 hg
        go_wp2_with fail
        refine ls_first (S := fun W => Below w2.heap.size w2 W) (below_draws HB.out 1) hq p0 p1 (fun W h => HCS.out W h 0 0 HX.out)
          (fun W h => (MA.out W).mono fun _ _ ⟨e, hb⟩ => ⟨e, SB.out W h _ hb⟩) (fun W h => (TX.out W (SW.out W h)).mono fun _ _ ⟨e, hb⟩ => ⟨e, SB.out W h _ hb⟩) ?_
        intro w4 h4
        have L4 := Lib.hid h4
        have hce := HCS.out w4 h4 0 0 HX.out
        clear h4 HCS MA TX
        cases hin : inL l a 0
        · have hxa := IN.out
          rw [hin, Bool.false_or] at hxa
          have HXA := Lib.hid hxa
          clear hin hxa
          go_wp2_with fail
          go_roundg (n - (0 + 1))
          case measure => have := HK.out; omega
          case rel => exact ⟨0 + 1, HK.out, rfl, by go_num, by first | (rw [HXA.out]; done) | (rw [HXA.out]; rfl), L4.out⟩
        · have hxa := IN.out
          rw [hin, Bool.true_or] at hxa
          have HXA := Lib.hid hxa
          clear hin hxa
          go_wp2_with fail
          go_roundg (n - (0 + 1))
          case measure => have := HK.out; omega
          case rel => exact ⟨0 + 1, HK.out, rfl, by go_num, by first | (rw [HXA.out]; done) | (rw [HXA.out]; rfl), L4.out⟩
      · obtain ⟨xp, hxp⟩ : ∃ xp, l[k]? = some xp := ⟨_, List.getElem?_eq_getElem (by have := List.getElem?_eq_some_iff.1 hx; obtain ⟨h, _⟩ := this; omega)⟩
        have has := AS.out k xp x hxp hx
        have q1 : (k : Int) < (n : Int) := by omega
        have q2 : (k : Int) ≤ 1000 := by omega
        have q3 : (((k + 1 : Nat) : Int) == 0) = false := by rw [beq_eq_false_iff_ne]; omega
        have q4 : decide (0 < ((k + 1 : Nat) : Int)) = true := by rw [decide_eq_true_eq]; omega
        have q5 : decide ((x : Int) < 0) = false := by rw [decide_eq_false_iff_not]; omega
        have q6 : decide (255 < (x : Int)) = false := by rw [decide_eq_false_iff_not]; omega
        have q7 : decide ((x : Int) ≤ (xp : Int)) = false := by rw [decide_eq_false_iff_not]; omega
        have HXP := Lib.hid hxp
        clear hx hl hxp has hg
        go_wp2_with fail
        refine ls_next (S := fun W => Below w2.heap.size w2 W) (below_draws HB.out 1) hq q1 k1 q2 q3 q4 q5 q6 q7 (fun W h => HCS.out W h k xp HXP.out) (fun W h => HCS.out W h (k + 1) x HX.out)
          (fun W h => (MA.out W).mono fun _ _ ⟨e, hb⟩ => ⟨e, SB.out W h _ hb⟩) (fun W h => (TX.out W (SW.out W h)).mono fun _ _ ⟨e, hb⟩ => ⟨e, SB.out W h _ hb⟩) ?_
        clear q3 q4 q5 q6 q7
        intro w4 h4
        have L4 := Lib.hid h4
        have hce := HCS.out w4 h4 (k + 1) x HX.out
        clear h4 HCS MA TX
        cases hin : inL l a (k + 1)
        · have hxa := IN.out
          rw [hin, Bool.false_or] at hxa
          have HXA := Lib.hid hxa
          clear hin hxa
          go_wp2_with fail
          go_roundg (n - ((k + 1) + 1))
          case measure => have := HK.out; omega
          case rel => exact ⟨(k + 1) + 1, HK.out, rfl, by go_num, by first | (rw [HXA.out]; done) | (rw [HXA.out]; rfl), L4.out⟩
        · have hxa := IN.out
          rw [hin, Bool.true_or] at hxa
          have HXA := Lib.hid hxa
          clear hin hxa
          go_wp2_with fail
          go_roundg (n - ((k + 1) + 1))
          case measure => have := HK.out; omega
          case rel => exact ⟨(k + 1) + 1, HK.out, rfl, by go_num, by first | (rw [HXA.out]; done) | (rw [HXA.out]; rfl), L4.out⟩
    · obtain rfl : k = n := by omega
      have LW := Lib.hid (L2.out.trans (HB.out.mono L2.out.size))
      have IX := Lib.hid (IA.out k (by rw [HN.out]; exact Nat.le_refl _))
      have MB := Lib.hid (fun c W => may_any c a W)
      rw [IX.out]
      clear hk hlt HC MM AS LT IA HLN HHD n1
      go_wp2_with fail
      refine (MB.out _ _).mono ?_
      rintro e w3 ⟨rfl, hb⟩
      have L3 := Lib.hid (LW.out.trans (hb.mono LW.out.size))
      clear hb
      generalize mayR kind a = b1 at *
      go_wp2_with fail
      go_loopg [10, 11] 15 (fun gk s10 s11 wx => ∃ k : Nat, k ≤ 16 ∧ 1 ≤ k ∧ gk = 16 - k ∧ s11 = .int .i64 (k : Int) ∧ s10 = .bool (knownTo a k) ∧ Below w.heap.size w wx)
      case atStart => exact ⟨1, by omega, by omega, rfl, rfl, by rw [show knownTo a 1 = false by rw [knownTo_succ]; exact may_zero a], L3.out⟩
      case round =>
        obtain ⟨j, hj, hj1, rfl, rfl, rfl, hB⟩ := hrel
        have LB := Lib.hid hB
        have HJ1 := Lib.hid hj1
        clear hB hj1
        by_cases hlt : j < 16
        · have HJ := Lib.hid hlt
          have j1 : (j : Int) ≤ 15 := by omega
          have NX := Lib.hid (knownTo_succ a j)
          have MJ := Lib.hid (fun W => MB.out (j : Int) W)
          clear hlt
          cases hkn : knownTo a j
          · have nx := NX.out
            rw [hkn, Bool.false_or] at nx
            have NY := Lib.hid nx
            generalize mayR (j : Int) a = b2 at *
            clear nx hkn
            go_wp2_with fail
            refine (MJ.out _).mono ?_
            rintro e w4 ⟨rfl, hb⟩
            have LC := Lib.hid (LB.out.trans (hb.mono LB.out.size))
            clear hb
            go_wp2_with fail
            go_roundg (16 - (j + 1))
            case measure => have := HJ.out; omega
            case rel => exact ⟨j + 1, HJ.out, by omega, rfl, by go_num, by rw [NY.out], LC.out⟩
          · have nx := NX.out
            rw [hkn, Bool.true_or] at nx
            have NY := Lib.hid nx
            clear nx hkn
            go_wp2_with fail
            go_roundg (16 - (j + 1))
            case measure => have := HJ.out; omega
            case rel => exact ⟨j + 1, HJ.out, by omega, rfl, by go_num, by rw [NY.out], LB.out⟩
        · obtain rfl : j = 16 := by omega
          rw [knownTo_16]
          have TX := Lib.hid (fun c W (h : Below w.heap.size w W) => text_any c W (HT.out W h))
          clear hlt hj
          cases hkn : knownR a
          · have TA := Lib.hid (fun W h => TX.out a W h)
            rw [text_unknown hkn] at TA
            clear hkn
            go_wp2_with fail
            refine (TA.out _ LB.out).mono ?_
            rintro e w4 ⟨rfl, hb⟩
            have LC := Lib.hid (LB.out.trans (hb.mono LB.out.size))
            clear hb
            go_wp2_with fail
            go_ret
            exact ⟨rfl, LC.out⟩
          · have TA := Lib.hid (fun W h => TX.out a W h)
            have TB := Lib.hid (fun W h => TX.out b W h)
            have hq := text_qu hkn
            by_cases hab : a = b
            · subst hab
              generalize textS a = sa at *
              clear hkn
              go_wp2_with fail
              refine (TA.out _ LB.out).mono ?_
              rintro e w4 ⟨rfl, hb⟩
              have LC := Lib.hid (LB.out.trans (hb.mono LB.out.size))
              clear hb
              go_wp2_with fail
              go_ret
              exact ⟨rfl, LC.out⟩
            · have hne := text_inj hkn hab
              have hb1 : (a == b) = false := by rw [beq_eq_false_iff_ne]; exact hab
              generalize textS a = sa at *
              generalize textS b = sb at *
              clear hkn
              go_wp2_with fail
              refine (TA.out _ LB.out).mono ?_
              rintro e w4 ⟨rfl, hb⟩
              have LC := Lib.hid (LB.out.trans (hb.mono LB.out.size))
              clear hb
              go_wp2_with fail
              refine (TA.out _ LC.out).mono ?_
              rintro e w5 ⟨rfl, hb⟩
              have LD := Lib.hid (LC.out.trans (hb.mono LC.out.size))
              clear hb
              go_wp2_with fail
              refine (TB.out _ LD.out).mono ?_
              rintro e w6 ⟨rfl, hb⟩
              have LE := Lib.hid (LD.out.trans (hb.mono LD.out.size))
              clear hb
              go_wp2_with fail
              go_ret
              exact ⟨rfl, LE.out⟩
end Go.Proofs.YtonfkaoobajbkaaDoor
