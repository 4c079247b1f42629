/-
  The walk of polyglotlaw15.LimitsChunks: the chunks are the string, one more than there are indexes that count, whatever their order. No condition.
-/
import Derived.Deep.RegionHeld3
import Derived.Test.YtecadfnajogffaaChkOwn
import Derived.Test.YtecadfnajogffaaChkLive
namespace Go.Proofs.Ytecadfnajogffaa
open Go.RowKit

theorem next_is (i m : Nat) : ((i : Int) + 1 == (m : Int)) = decide (i + 1 = m) := by
  rw [Bool.eq_iff_iff]
  simp only [beq_iff_eq, decide_eq_true_eq]
  omega
theorem chunks_count {n m : Nat} (s : List UInt8) (zs : List Int) (h1 : (chunksL s zs).length = m) (h2 : zs.length = n) : m ≤ n + 1 := by
  have h3 := chunks_length s zs
  have h4 := List.length_filter_le (okL s.length) zs
  omega
theorem wrap_small {x : Int} (h0 : 0 ≤ x) (h1 : x ≤ 1000) : wrap64 x = x := by
  unfold wrap64
  omega
theorem bs_app2 (a b : List UInt8) : bs a ++ bs b = bs (a ++ b) := by
  apply ByteArray.ext
  simp [bs]
set_option maxRecDepth 100000 in
set_option maxHeartbeats 2000000 in
theorem chk_law (s : ByteArray) (A : Option Addr) (n c : Nat) (zs : List Int) (turn : Int) (w : World) (hA : IR w A zs) (hn : zs.length = n) (hnc : n ≤ c) (hm : c ≤ 9223372036854775807) (hc0 : A = none → c = 0) (hs : s.size ≤ 9223372036854775807) :
    Calls Try.prog 3 #[.string s, .slice A n c, .int .i64 turn] w fun e W => e = .returned (.bool true) ∧ Below w.heap.size w W := by
  have LV := lives15 w
  have HA := Lib.hid (show ∀ W, Below w.heap.size w W → IR W A zs from fun W h => hA.kept h)
  have HN := Lib.hid hn
  have HC := Lib.hid (And.intro hnc (And.intro hm hc0))
  have hm : (n : Int) ≤ 9223372036854775807 := by omega
  clear hA hn hnc hc0
  go_in
  go_wp2_with fail
  refine LV.mono ?_
  rintro e1 w1 ⟨rfl, hB1⟩
  have B1 := Lib.hid hB1
  clear LV hB1
  by_cases hs3 : (300 : Int) < (s.size : Int)
  · go_wp2_with fail
    go_ret
    exact ⟨rfl, B1.out⟩
  by_cases hn4 : (40 : Int) < (n : Int)
  · go_wp2_with fail
    go_ret
    exact ⟨rfl, B1.out⟩
  have CH := Lib.hid (chunks_any s A n c zs w1 (HA.out w1 B1.out) HN.out (by omega) (by omega))
  go_wp2_with fail
  refine CH.out.mono ?_
  rintro e2 w2 ⟨L, d, rfl, hL, hB, -⟩
  have HL2 := Lib.hid hL
  have B2 := Lib.hid (B1.out.trans (hB.mono B1.out.size))
  clear hL hB CH B1
  obtain ⟨m, hm'⟩ : ∃ m, (chunksL s.data.toList zs).length = m := ⟨_, rfl⟩
  rw [hm']
  have HM := Lib.hid hm'
  have g4 : (n : Int) ≤ 40 := by omega
  have g3 : (s.size : Int) ≤ 300 := by omega
  clear hm' hn4 hs3
  go_wp2_with fail
  go_loopg [8, 9] n (fun gk s8 s9 wr => ∃ (k : Nat), gk = n - k ∧ s8 = .int .i64 (((fitL s.size (zs.take k)).length + 1 : Nat) : Int) ∧ s9 = .int .i64 (k : Int) ∧ k ≤ n ∧ wr = w2)
  case atStart => exact ⟨0, rfl, rfl, rfl, Nat.zero_le _, rfl⟩
  case round =>
    obtain ⟨k, rfl, rfl, rfl, hk, rfl⟩ := hrel
    by_cases hlt : k < n
    · obtain ⟨a, rfl, hgs, hc⟩ := HA.out _ B2.out (by rw [HN.out]; omega)
      have hkl : k < zs.length := by rw [HN.out]; exact hlt
      have hck := hc k hkl
      obtain ⟨z, hz⟩ : ∃ z, zs.getD k 0 = z := ⟨_, rfl⟩
      rw [hz] at hck
      have g1 : (k : Int) < (n : Int) := by omega
      obtain ⟨q, hq⟩ : ∃ q, (fitL s.size (zs.take k)).length = q := ⟨_, rfl⟩
      have hqk : q ≤ 40 := by
        have := fit_length s.size (zs.take k)
        rw [List.length_take] at this
        omega
      rw [hq]
      by_cases hok : okL s.size z = true
      · have hok2 : 0 ≤ z ∧ z ≤ (s.size : Int) := by simpa [okL] using hok
        have hstep := fit_step_yes (n := s.size) hkl (by rw [hz]; exact hok)
        have HS := Lib.hid (show (fitL s.size (zs.take (k + 1))).length = q + 1 ∧ k < n by rw [hstep, List.length_append, hq]; exact ⟨rfl, hlt⟩)
        have o1 := hok2.1
        have o2 := hok2.2
        clear hstep hlt hok hc hkl hz hgs hk hok2 hq
        go_wp2_with fail
        go_roundg (n - (k + 1))
        case measure => have := HS.out.2; omega
        case rel => exact ⟨k + 1, rfl, by rw [HS.out.1] <;> go_num, by go_num, HS.out.2, rfl⟩
      · rw [Bool.not_eq_true] at hok
        have hstep := fit_step_no (n := s.size) hkl (by rw [hz]; exact hok)
        have hbad : z < 0 ∨ (0 ≤ z ∧ (s.size : Int) < z) := by
          simp only [okL, Bool.and_eq_false_iff, decide_eq_false_iff_not] at hok
          omega
        have HS := Lib.hid (show (fitL s.size (zs.take (k + 1))).length = q ∧ k < n by rw [hstep, hq]; exact ⟨rfl, hlt⟩)
        clear hstep hlt hok hc hkl hz hgs hk hq
        rcases hbad with hz0 | ⟨hz0, hz1⟩
        all_goals
          go_wp2_with fail
          go_roundg (n - (k + 1))
          case measure => have := HS.out.2; omega
          case rel => exact ⟨k + 1, rfl, by rw [HS.out.1] <;> go_num, by go_num, HS.out.2, rfl⟩
    · obtain rfl : k = n := by omega
      have hall : zs.take k = zs := List.take_of_length_le (by rw [HN.out]; exact Nat.le_refl _)
      rw [hall]
      have hq : (fitL s.size zs).length + 1 = m := by
        rw [← HM.out, chunks_length, data_length]
        unfold fitL
        rw [List.length_map]
      rw [hq]
      clear hall hlt hk
      go_wp2_with fail
      go_loopg [10, 11] m (fun gi s10 s11 wx => ∃ (i : Nat), gi = m - i ∧ s10 = .string (bs ((chunksL s.data.toList zs).take i).flatten) ∧ s11 = .int .i64 (i : Int) ∧ i ≤ m ∧ wx = wr)
      case atStart => exact ⟨0, rfl, rfl, rfl, Nat.zero_le _, rfl⟩
      case round =>
        obtain ⟨i, rfl, rfl, rfl, hi, rfl⟩ := hrel
        by_cases hlt : i < m
        · have hil : i < (chunksL s.data.toList zs).length := by rw [HM.out]; exact hlt
          obtain ⟨g, i0, rfl, hg, hcell⟩ := HL2.out (by intro e; rw [e] at hil; exact absurd hil (Nat.not_lt_zero _))
          have hci := hcell i hil
          obtain ⟨F, hF⟩ : ∃ F, ((chunksL s.data.toList zs).take i).flatten = F := ⟨_, rfl⟩
          obtain ⟨p, hp⟩ : ∃ p, (chunksL s.data.toList zs).getD i [] = p := ⟨_, rfl⟩
          have hF2 : ((chunksL s.data.toList zs).take (i + 1)).flatten = F ++ p := by
            rw [List.take_succ_eq_append_getElem hil, List.flatten_append, hF, ← hp]
            simp [List.getD, hil]
          have hlen : (F ++ p).length ≤ 300 := by
            rw [← hF2]
            have h2 := flat_take (chunksL s.data.toList zs) (i + 1)
            rw [chunks_flat] at h2
            rw [data_length] at h2
            omega
          rw [hp] at hci
          rw [hF]
          have e1 : bs F ++ bs p = bs (F ++ p) := bs_app2 _ _
          have s1 : (bs F).size + (bs p).size ≤ 9223372036854775807 := by rw [bs_size, bs_size]; rw [List.length_append] at hlen; omega
          have s2 : (bs (F ++ p)).size = (F ++ p).length := bs_size _
          have hst := chunks_stop s.data.toList zs hil
          rw [hF2, HM.out] at hst
          have g1 : (i : Int) < (m : Int) := by omega
          have g7 := chunks_count _ _ HM.out HN.out
          have g2 : wrap64 ((i : Int) + 1) = (i : Int) + 1 := wrap_small (by clear s1 s2; omega) (by clear s1 s2; omega)
          clear g7
          have g5 := next_is i m
          obtain ⟨q, hq⟩ : ∃ q, (F ++ p).length = q := ⟨_, rfl⟩
          rw [hq] at hst s2 hlen
          have HS := Lib.hid (And.intro hst (And.intro hF2 hlt))
          obtain ⟨y, hy⟩ : ∃ y, bs (F ++ p) = y := ⟨_, rfl⟩
          have HY := Lib.hid hy
          rw [hy] at e1 s2
          obtain ⟨ed, hed⟩ : ∃ ed, decide (i + 1 = m) = ed := ⟨_, rfl⟩
          rw [hed] at g5
          have HE := Lib.hid hed
          generalize bs F = X1 at *
          generalize bs p = X2 at *
          clear hcell hp hil hi hst hF2 hF hq hlt hy hed
          go_wp2_with fail
          go_loopg [12, 13] k (fun gj s12 s13 wy => ∃ (j : Nat), gj = k - j ∧ s12 = .bool (ed || (zs.take j).any fun z => z == (q : Int)) ∧ s13 = .int .i64 (j : Int) ∧ j ≤ k ∧ wy = wr)
          case atStart => exact ⟨0, rfl, by rw [List.take_zero, List.any_nil, Bool.or_false], rfl, Nat.zero_le _, rfl⟩
          case round =>
            obtain ⟨j, rfl, rfl, rfl, hj, rfl⟩ := hrel
            by_cases hlt2 : j < k
            · obtain ⟨a, rfl, hgs, hc⟩ := HA.out _ B2.out (by rw [HN.out]; omega)
              have hkl : j < zs.length := by rw [HN.out]; exact hlt2
              have hck := hc j hkl
              obtain ⟨z, hz⟩ : ∃ z, zs.getD j 0 = z := ⟨_, rfl⟩
              rw [hz] at hck
              have hstep := any_step hkl (fun z => z == (q : Int)) hz
              obtain ⟨b, hb⟩ : ∃ b, (ed || (zs.take j).any fun z => z == (q : Int)) = b := ⟨_, rfl⟩
              have hb2 : (ed || (zs.take (j + 1)).any fun z => z == (q : Int)) = (b || (z == (q : Int))) := by rw [hstep, ← Bool.or_assoc, hb]
              rw [hb]
              have HT := Lib.hid (And.intro hb2 hlt2)
              have g6 : (j : Int) < (k : Int) := by omega
              clear hc hkl hz hgs hstep hb hb2 hlt2 hj
              cases b with
              | true =>
                go_wp2_with fail
                go_roundg (k - (j + 1))
                case measure => have := HT.out.2; omega
                case rel => exact ⟨j + 1, rfl, by rw [HT.out.1]; rfl, by go_num, HT.out.2, rfl⟩
              | false =>
                go_wp2_with fail
                go_roundg (k - (j + 1))
                case measure => have := HT.out.2; omega
                case rel => exact ⟨j + 1, rfl, by rw [HT.out.1, Bool.false_or], by go_num, HT.out.2, rfl⟩
            · obtain rfl : j = k := by omega
              have hall : zs.take j = zs := List.take_of_length_le (by rw [HN.out]; exact Nat.le_refl _)
              rw [hall, ← HE.out, HS.out.1]
              clear hall hlt2 hj
              go_wp2_with fail
              go_roundg (m - (i + 1))
              case measure => have := HS.out.2.2; omega
              case rel => exact ⟨i + 1, rfl, by rw [HS.out.2.1, HY.out], by go_num, HS.out.2.2, rfl⟩
        · obtain rfl : i = m := by omega
          have hall : (chunksL s.data.toList zs).take i = chunksL s.data.toList zs := List.take_of_length_le (by rw [HM.out]; exact Nat.le_refl _)
          rw [hall, chunks_flat]
          have hss : bs s.data.toList = s := rfl
          rw [hss]
          clear hall hlt hi
          obtain ⟨κ, hκ, hPK⟩ := pick_le turn k (by omega)
          have PK := Lib.hid hPK
          clear hPK
          go_wp2_with fail
          refine (PK.out _).mono ?_
          rintro e3 w3 ⟨rfl, rfl⟩
          clear PK
          have hck : (k : Int) ≤ (c : Int) := by have := HC.out.1; omega
          have hκk : (κ : Int) ≤ (k : Int) := by omega
          have hκ0 : (0 : Int) ≤ (κ : Int) := by omega
          have hκc : (κ : Int) ≤ (c : Int) := by omega
          have hcm : (c : Int) ≤ 9223372036854775807 := by have := HC.out.2.1; omega
          have K40 : (k : Int) ≤ 40 := by omega
          have hsum : k - κ + κ = k := by omega
          have hS : Below wr.heap.size wr wr.drew := below_draws (Below.refl _ _) 1
          have HT := Lib.hid (And.intro hκ (show (zs.drop κ ++ zs.take κ).Perm zs from (List.perm_append_comm (l₁ := zs.drop κ) (l₂ := zs.take κ)).trans (by rw [List.take_append_drop])))
          have HZ := Lib.hid (show (zs.drop κ ++ zs.take κ).length = k by rw [HT.out.2.length_eq, HN.out])
          have HSU := Lib.hid hsum
          clear hsum hκ
          cases A with
          | none =>
            have hz := (HA.out _ B2.out).none_nil
            have hk0 : k = 0 := by rw [← HN.out, hz]; rfl
            have O1 := Lib.hid (fun W (_ : Below wr.heap.size wr W) => own_zcs none (k - κ) (c - κ) (zs.drop κ) W (by rw [hz, List.drop_nil]; exact IR.nil) (by rw [List.length_drop, HN.out]) (by omega))
            have HK := Lib.hid (show κ = 0 by omega)
            have HX := Lib.hid (show k - κ = k ∧ zs.drop κ = zs.drop κ ++ zs.take κ by rw [HK.out]; exact ⟨rfl, by rw [List.take_zero, List.append_nil]⟩)
            clear hz hk0
            go_wp2_with fail
            go_region_held3 (fun w' => Below wr.heap.size wr w') (first | exact hS)
              (first
                | (go_at_call 7; with_reducible refine (O1.out _ hS).mono ?_; rintro e w5 ⟨v, rfl, ho, hb⟩; have hS := hS.trans (hb.mono hS.size); clear hb)
                | (refine step_append_none (by rfl) _ _ (by rfl) (by rfl) (by rfl) HK.out ho ?_))
            have hown := ho
            rw [HX.out.1, HX.out.2] at hown
            clear ho O1 HK
            obtain ⟨A', c', rfl, hI⟩ := IR.owned hown HZ.out
            have ch2 := chunks_any s A' k c' (zs.drop κ ++ zs.take κ) _ hI HZ.out (by omega) (by omega)
            rw [chunks_turn s.data.toList HT.out.2] at ch2
            have hL5 := HL2.out.kept hS
            have CH2 := Lib.hid ch2
            have HB := Lib.hid hS
            have HL5 := Lib.hid hL5
            rename_i hHeld
            clear hS hI ch2 hL5 hown hHeld HX
            go_wp2_with fail
            refine CH2.out.mono ?_
            rintro e6 w6 ⟨A6, c6, rfl, h6, hb6, -⟩
            have sm := same_strs A6 L c6 d _ w6 h6 (HL5.out.kept hb6) (by have := chunks_count _ _ HM.out HN.out; rw [HM.out]; omega)
            rw [HM.out] at sm ⊢
            have SM := Lib.hid sm
            have HB6 := Lib.hid (HB.out.trans (hb6.mono HB.out.size))
            clear h6 hb6 sm CH2 HL5 HB
            go_wp2_with fail
            refine SM.out.mono ?_
            rintro e7 w7 ⟨rfl, hb7⟩
            have FIN := Lib.hid (B2.out.trans ((HB6.out.trans (hb7.mono HB6.out.size)).mono B2.out.size))
            clear hb7 SM HB6
            go_wp2_with fail
            go_ret
            exact ⟨rfl, FIN.out⟩
          | some a =>
            have O2 := Lib.hid (fun W (h : Below wr.heap.size wr W) => (HA.out _ (B2.out.trans (h.mono B2.out.size))).take κ)
            have HK := Lib.hid (show (zs.take κ).length = κ by rw [List.length_take, HN.out]; exact Nat.min_eq_left HT.out.1)
            have HX := Lib.hid (show k - κ + κ ≤ 3000 by omega)
            by_cases hcκ : c = κ
            · have O1 := Lib.hid (fun W (h : Below wr.heap.size wr W) => own_zcs (some a) (k - κ) 0 (zs.drop κ) W (by rw [List.drop_of_length_le (by rw [HN.out]; omega)]; exact IR.nil) (by rw [List.length_drop, HN.out]) (by omega))
              go_wp2_with fail
              go_region_held3 (fun w' => Below wr.heap.size wr w') (first | exact hS)
                (first
                  | (go_at_call 7; with_reducible refine (O1.out _ hS).mono ?_; rintro e w5 ⟨v, rfl, ho, hb⟩; have hB5 := hb.size; have hBS := hS.size; have hS := hS.trans (hb.mono hS.size); clear hb)
                  | (refine step_append_zcs (by rfl) _ _ (by rfl) (by rfl) (by rfl) ho (O2.out _ hS) HK.out HX.out hB5 ?_; intro v' w6 ho2 hb6; have hS := hS.trans (hb6.mono hBS)))
              have hown := ho2
              rw [HSU.out] at hown
              clear ho O1 O2 HK hB5 hBS ho2 hb6
              obtain ⟨A', c', rfl, hI⟩ := IR.owned hown HZ.out
              have ch2 := chunks_any s A' k c' (zs.drop κ ++ zs.take κ) _ hI HZ.out (by omega) (by omega)
              rw [chunks_turn s.data.toList HT.out.2] at ch2
              have hL5 := HL2.out.kept hS
              have CH2 := Lib.hid ch2
              have HB := Lib.hid hS
              have HL5 := Lib.hid hL5
              rename_i hHeld
              clear hS hI ch2 hL5 hown hHeld HX
              go_wp2_with fail
              refine CH2.out.mono ?_
              rintro e6 w6 ⟨A6, c6, rfl, h6, hb6, -⟩
              have sm := same_strs A6 L c6 d _ w6 h6 (HL5.out.kept hb6) (by have := chunks_count _ _ HM.out HN.out; rw [HM.out]; omega)
              rw [HM.out] at sm ⊢
              have SM := Lib.hid sm
              have HB6 := Lib.hid (HB.out.trans (hb6.mono HB.out.size))
              clear h6 hb6 sm CH2 HL5 HB
              go_wp2_with fail
              refine SM.out.mono ?_
              rintro e7 w7 ⟨rfl, hb7⟩
              have FIN := Lib.hid (B2.out.trans ((HB6.out.trans (hb7.mono HB6.out.size)).mono B2.out.size))
              clear hb7 SM HB6
              go_wp2_with fail
              go_ret
              exact ⟨rfl, FIN.out⟩
            · have O1 := Lib.hid (fun W (h : Below wr.heap.size wr W) => own_zcs (some (a.add κ)) (k - κ) (c - κ) (zs.drop κ) W ((HA.out _ (B2.out.trans (h.mono B2.out.size))).drop κ) (by rw [List.length_drop, HN.out]) (by omega))
              go_wp2_with fail
              go_region_held3 (fun w' => Below wr.heap.size wr w') (first | exact hS)
                (first
                  | (go_at_call 7; with_reducible refine (O1.out _ hS).mono ?_; rintro e w5 ⟨v, rfl, ho, hb⟩; have hB5 := hb.size; have hBS := hS.size; have hS := hS.trans (hb.mono hS.size); clear hb)
                  | (refine step_append_zcs (by rfl) _ _ (by rfl) (by rfl) (by rfl) ho (O2.out _ hS) HK.out HX.out hB5 ?_; intro v' w6 ho2 hb6; have hS := hS.trans (hb6.mono hBS)))
              have hown := ho2
              rw [HSU.out] at hown
              clear ho O1 O2 HK hB5 hBS ho2 hb6
              obtain ⟨A', c', rfl, hI⟩ := IR.owned hown HZ.out
              have ch2 := chunks_any s A' k c' (zs.drop κ ++ zs.take κ) _ hI HZ.out (by omega) (by omega)
              rw [chunks_turn s.data.toList HT.out.2] at ch2
              have hL5 := HL2.out.kept hS
              have CH2 := Lib.hid ch2
              have HB := Lib.hid hS
              have HL5 := Lib.hid hL5
              rename_i hHeld
              clear hS hI ch2 hL5 hown hHeld HX
              go_wp2_with fail
              refine CH2.out.mono ?_
              rintro e6 w6 ⟨A6, c6, rfl, h6, hb6, -⟩
              have sm := same_strs A6 L c6 d _ w6 h6 (HL5.out.kept hb6) (by have := chunks_count _ _ HM.out HN.out; rw [HM.out]; omega)
              rw [HM.out] at sm ⊢
              have SM := Lib.hid sm
              have HB6 := Lib.hid (HB.out.trans (hb6.mono HB.out.size))
              clear h6 hb6 sm CH2 HL5 HB
              go_wp2_with fail
              refine SM.out.mono ?_
              rintro e7 w7 ⟨rfl, hb7⟩
              have FIN := Lib.hid (B2.out.trans ((HB6.out.trans (hb7.mono HB6.out.size)).mono B2.out.size))
              clear hb7 SM HB6
              go_wp2_with fail
              go_ret
              exact ⟨rfl, FIN.out⟩
end Go.Proofs.Ytecadfnajogffaa
