/-
  The walk of polyglotlaw04.TopicLevels: whatever the string, it answers true. No condition.
-/
import Derived.Deep.LoopGhost
import Derived.Test.YthgilnmfbhmgiaaDoorTopLive
import Derived.Test.YthgilnmfbhmgiaaDoorUsRef
namespace Go.Proofs.YthgilnmfbhmgiaaDoor
open Go.RowKit Go.Shelf

/-- How many slashes there are in the first k bytes. -/
def slashes (l : List UInt8) (k : Nat) : Nat := (l.take k).count 47

theorem slashes_step (s : ByteArray) (k : Nat) (h : k < s.size) : slashes s.data.toList (k + 1) = slashes s.data.toList k + if s[k].toNat = 47 then 1 else 0 := by
  unfold slashes
  rw [take_bytes s k h, List.count_append]
  by_cases e : s[k].toNat = 47
  · have : s[k] = 47 := UInt8.toNat_inj.1 e
    rw [if_pos e, this]
    simp
  · have : s[k] ≠ 47 := fun x => e (by rw [x]; rfl)
    rw [if_neg e, List.count_eq_zero.2 (fun h => this (List.mem_singleton.1 h).symm)]
theorem slashes_le (l : List UInt8) (k : Nat) : slashes l k ≤ l.length := Nat.le_trans (List.count_le_length) (by rw [List.length_take]; omega)

theorem levels_long (s : ByteArray) (w : World) (h : 300 < s.size) (hs : s.size ≤ 9223372036854775807) :
    Calls Tryd.prog 4 #[.string s] w fun e w' => e = .returned (.bool true) ∧ Below w.heap.size w w' := by
  have h' : (300 : Int) < (s.size : Int) := by omega
  clear h hs
  go_enter Tryd.func4, Tryd.ntmps4
  go_wp2_with fail
  refine (lives4 _).mono ?_
  rintro e w1 ⟨rfl, h1⟩
  go_wp2_with fail
  go_ret
  exact ⟨rfl, h1⟩

set_option maxHeartbeats 2000000 in
theorem levels_short (s : ByteArray) (w : World) (h : s.size ≤ 300) :
    Calls Tryd.prog 4 #[.string s] w fun e w' => e = .returned (.bool true) ∧ Below w.heap.size w w' := by
  have h' : (s.size : Int) ≤ 300 := by omega
  have hL := Lib.hid (fun W => levels_any s W (by omega))
  obtain ⟨n, hn⟩ : ∃ n, (lvls s.data.toList).length = n := ⟨_, rfl⟩
  have HN := Lib.hid hn
  rw [hn] at hL
  clear hn
  go_enter Tryd.func4, Tryd.ntmps4
  go_wp2_with fail
  refine (lives4 _).mono ?_
  rintro e w1 ⟨rfl, h1⟩
  have h1 := Lib.hid h1
  go_wp2_with fail
  refine (hL.out _).mono ?_
  rintro e w2 ⟨rfl, rfl⟩
  go_wp2_with fail
  go_loop [4, 5] (fun a b => ∃ k c : Nat, k ≤ s.size ∧ a = .int .i64 (c : Int) ∧ b = .int .i64 (k : Int) ∧ c = slashes s.data.toList k) (fun _ b => s.size - (intOf b).toNat)
  case atStart => exact ⟨0, 0, by omega, rfl, rfl, rfl⟩
  case round =>
    obtain ⟨k, c, hk, rfl, rfl, hc⟩ := hrel
    by_cases hlt : k < s.size
    · have hst := slashes_step s k hlt
      have hcl := slashes_le s.data.toList k
      rw [← Lib.size_eq] at hcl
      obtain ⟨r, hr⟩ : ∃ r, s[k].toNat = r := ⟨_, rfl⟩
      rw [hr, ← hc] at hst
      have g1 : (k : Int) < (s.size : Int) := by omega
      have g2 : (c : Int) ≤ 300 := by omega
      by_cases h47 : r = 47
      · rw [if_pos h47] at hst
        have HS := Lib.hid hst
        have g3 : ((r : Int) == 47) = true := by simp [h47]
        clear hst hcl h47 hc
        go_wp2
        go_round
        case rel => exact ⟨k + 1, c + 1, by omega, by go_num, by go_num, HS.out.symm⟩
        case measure => simp [intOf]; omega
      · rw [if_neg h47] at hst
        have HS := Lib.hid hst
        have g3 : ((r : Int) == 47) = false := by simp; omega
        clear hst hcl h47 hc
        go_wp2
        go_round
        case rel => exact ⟨k + 1, c, by omega, rfl, by go_num, HS.out.symm⟩
        case measure => simp [intOf]; omega
    · have hks : k = s.size := by omega
      subst hks
      have hcn : n = c + 1 := by
        rw [hc, ← HN.out, lvls_length]
        unfold slashes
        rw [Lib.size_eq, List.take_length]
      have g2 : (n : Int) ≤ 301 := by
        have := slashes_le s.data.toList s.size
        rw [← Lib.size_eq] at this
        omega
      have HCN := Lib.hid hcn
      clear hc hcn
      have hSR : SR (w1.alloc (.cells (strs (lvls s.data.toList)).toArray 9)) (some ⟨w1.heap.size, 0, none⟩) (lvls s.data.toList) := SR.alloc _
      have hB2 : Below w.heap.size w (w1.alloc (.cells (strs (lvls s.data.toList)).toArray 9)) := h1.out.alloc h1.out.size _
      generalize w1.alloc (.cells (strs (lvls s.data.toList)).toArray 9) = w2 at *
      have HSR := Lib.hid hSR
      have HB2 := Lib.hid hB2
      have HFL := Lib.hid (lvls_flat s.data.toList)
      have HLE := Lib.hid (fun l => level_le (s := s.data.toList) (l := l))
      clear hSR hB2
      go_wp2_with fail
      go_loopg [6] n (fun gk a wx => ∃ i m : Nat, i ≤ n ∧ gk = n - i ∧ a = .int .i64 (i : Int) ∧ wx = w2.drewN m)
      case atStart => exact ⟨0, 0, by omega, by omega, rfl, rfl⟩
      case round =>
        obtain ⟨i, m, hi, hgk, rfl, rfl⟩ := hrel
        by_cases hlt : i < n
        · have hil : i < (lvls s.data.toList).length := by rw [HN.out]; exact hlt
          obtain ⟨g, o, hA, hg, hcell⟩ := HSR.out (lvls_ne _)
          have hcell := hcell i hil
          obtain ⟨rfl, rfl⟩ : g = w1.heap.size ∧ o = 0 := by cases hA; exact ⟨rfl, rfl⟩
          rw [Nat.zero_add] at hcell
          have hmem : (lvls s.data.toList).getD i [] ∈ lvls s.data.toList := by rw [List.getD_eq_getElem?_getD, List.getElem?_eq_getElem hil]; exact List.getElem_mem hil
          have hfl := HFL.out _ hmem
          have hle := HLE.out _ hmem
          rw [← Lib.size_eq] at hle
          generalize (lvls s.data.toList).getD i [] = l at *
          have HCELL := Lib.hid (show w2.cell? ⟨w1.heap.size, i, none⟩ = some (.string (bs l)) from hcell)
          have HFLL := Lib.hid hfl
          have hsz : (bs l).size = l.length := bs_size l
          have g7 : (l.length : Int) ≤ 300 := by omega
          have g8 : (i : Int) < (n : Int) := by omega
          clear hfl hmem hA hg hle hil
          go_wp2_with fail
          go_loopg [7] l.length (fun gq b wx => ∃ q m : Nat, q ≤ l.length ∧ gq = l.length - q ∧ b = .int .i64 (q : Int) ∧ wx = w2.drewN m)
          case atStart => exact ⟨0, m, by omega, by omega, rfl, rfl⟩
          case round =>
            obtain ⟨q, m, hq, hgq, rfl, rfl⟩ := hrel
            have hcell : (w2.drewN m).cell? ⟨w1.heap.size, i, none⟩ = some (.string (bs l)) := HCELL.out
            by_cases hlq : q < l.length
            · have hqs : q < (bs l).size := by rw [hsz]; exact hlq
              have hbyte : (bs l)[q] ≠ 47 := fun e => HFLL.out (by
                have : (bs l)[q] = l[q] := rfl
                rw [← e, this]; exact List.getElem_mem hlq)
              have hbn : (bs l)[q].toNat ≠ 47 := fun e => hbyte (UInt8.toNat_inj.1 e)
              obtain ⟨r, hr⟩ : ∃ r, (bs l)[q].toNat = r := ⟨_, rfl⟩
              rw [hr] at hbn
              have g3 : ((r : Int) == 47) = false := by simp; omega
              have g9 : (q : Int) < (l.length : Int) := by omega
              have g10 : (q : Int) < ((bs l).size : Int) := by omega
              clear hbyte hbn
              go_wp2_with fail
              go_roundg (l.length - (q + 1))
              case measure => omega
              case rel => exact ⟨q + 1, m, by omega, rfl, by go_num, rfl⟩
            · have hqe : q = l.length := by omega
              subst hqe
              go_wp2_with fail
              go_roundg (n - (i + 1))
              case measure => omega
              case rel => exact ⟨i + 1, m, by omega, rfl, by go_num, rfl⟩
        · have hin : i = n := by omega
          subst hin
          have g5 : ((i : Int) != (c : Int) + 1) = false := by have := HCN.out; simp; omega
          have g6 : (c : Int) ≤ 300 := by have := HCN.out; omega
          have hJ := join_any (some ⟨w1.heap.size, 0, none⟩) i i (lvls s.data.toList) (w2.drewN m) (HSR.out.draws m) HN.out.symm (Nat.le_refl _) (by rw [joins_lvls, ← Lib.size_eq]; omega) (by omega)
          rw [joins_lvls, bs_mk] at hJ
          have hJ := Lib.hid hJ
          have HB3 := Lib.hid (below_draws HB2.out m)
          have hN := fun W => name_any s W (by omega)
          have hF := fun W => filter_any s W (by omega)
          have hMs := fun (h : nameL s.data.toList = true) W => matches_at s.data.toList s.data.toList true W (by rw [← Lib.size_eq]; omega) (by rw [← Lib.size_eq]; omega) (match_self h)
          rw [bs_mk] at hMs
          have hMh := fun W => matches_at [35] s.data.toList (nameL s.data.toList && !dollarL s.data.toList) W (by decide) (by rw [← Lib.size_eq]; omega) (match_hash s.data.toList)
          rw [bs_mk] at hMh
          have hD := fun W => dollar_any s W
          have hV := fun W => ref_valid s W (by omega)
          cases hnm : nameL s.data.toList with
          | true =>
            have hfl := name_filter hnm
            obtain ⟨k1, k2, _⟩ := (filter_iff _).1 hfl
            have hemp : s.toList.isEmpty = false := by rw [toList_data, List.isEmpty_eq_false_iff]; exact k1
            have hMs := Lib.hid (hMs hnm)
            rw [hnm] at hN hMh
            rw [hfl] at hF
            rw [k2] at hV
            generalize dollarL s.data.toList = d at *
            have hN := Lib.hid hN
            have hF := Lib.hid hF
            have hMh := Lib.hid hMh
            have hD := Lib.hid hD
            have hV := Lib.hid hV
            clear hnm hfl k1 k2
            go_wp2_with fail
            refine (hJ.out).mono ?_
            rintro e w3 ⟨rfl, h3⟩
            have h3 := Lib.hid (HB3.out.trans (h3.mono HB3.out.size))
            go_wp2_with fail
            refine (hN.out _).mono ?_
            rintro e w4 ⟨rfl, h4⟩
            have h4 := Lib.hid (h3.out.trans (h4.mono h3.out.size))
            go_wp2_with fail
            refine (hF.out _).mono ?_
            rintro e w5 ⟨rfl, h5⟩
            have h5 := Lib.hid (h4.out.trans (h5.mono h4.out.size))
            go_wp2_with fail
            refine (hMs.out _).mono ?_
            rintro e w6 ⟨rfl, h6⟩
            have h6 := Lib.hid (h5.out.trans (h6.mono h5.out.size))
            go_wp2_with fail
            refine (hV.out _).mono ?_
            rintro e w9 ⟨rfl, rfl⟩
            go_wp2_with fail
            refine (hMh.out _).mono ?_
            rintro e w7 ⟨rfl, h7⟩
            have h7 := Lib.hid (h6.out.trans (h7.mono h6.out.size))
            go_wp2_with fail
            refine (hD.out _).mono ?_
            rintro e w9 ⟨rfl, rfl⟩
            go_wp2_with fail
            go_ret
            exact ⟨by cases d <;> rfl, h7.out⟩
          | false =>
            rw [hnm] at hN hMh
            cases hfl : filterL s.data.toList with
            | true =>
              obtain ⟨k1, k2, _⟩ := (filter_iff _).1 hfl
              have hemp : s.toList.isEmpty = false := by rw [toList_data, List.isEmpty_eq_false_iff]; exact k1
              rw [hfl] at hF
              rw [k2] at hV
              generalize dollarL s.data.toList = d at *
              have hN := Lib.hid hN
              have hF := Lib.hid hF
              have hMh := Lib.hid hMh
              have hD := Lib.hid hD
              have hV := Lib.hid hV
              clear hnm hfl k1 k2 hMs
              go_wp2_with fail
              refine (hJ.out).mono ?_
              rintro e w3 ⟨rfl, h3⟩
              have h3 := Lib.hid (HB3.out.trans (h3.mono HB3.out.size))
              go_wp2_with fail
              refine (hN.out _).mono ?_
              rintro e w4 ⟨rfl, h4⟩
              have h4 := Lib.hid (h3.out.trans (h4.mono h3.out.size))
              go_wp2_with fail
              refine (hF.out _).mono ?_
              rintro e w5 ⟨rfl, h5⟩
              have h5 := Lib.hid (h4.out.trans (h5.mono h4.out.size))
              go_wp2_with fail
              refine (hV.out _).mono ?_
              rintro e w9 ⟨rfl, rfl⟩
              go_wp2_with fail
              refine (hMh.out _).mono ?_
              rintro e w7 ⟨rfl, h7⟩
              have h7 := Lib.hid (h5.out.trans (h7.mono h5.out.size))
              go_wp2_with fail
              go_ret
              exact ⟨rfl, h7.out⟩
            | false =>
              rw [hfl] at hF
              generalize dollarL s.data.toList = d at *
              have hN := Lib.hid hN
              have hF := Lib.hid hF
              have hMh := Lib.hid hMh
              clear hnm hfl hMs hD hV
              go_wp2_with fail
              refine (hJ.out).mono ?_
              rintro e w3 ⟨rfl, h3⟩
              have h3 := Lib.hid (HB3.out.trans (h3.mono HB3.out.size))
              go_wp2_with fail
              refine (hN.out _).mono ?_
              rintro e w4 ⟨rfl, h4⟩
              have h4 := Lib.hid (h3.out.trans (h4.mono h3.out.size))
              go_wp2_with fail
              refine (hF.out _).mono ?_
              rintro e w5 ⟨rfl, h5⟩
              have h5 := Lib.hid (h4.out.trans (h5.mono h4.out.size))
              go_wp2_with fail
              refine (hMh.out _).mono ?_
              rintro e w7 ⟨rfl, h7⟩
              have h7 := Lib.hid (h5.out.trans (h7.mono h5.out.size))
              go_wp2_with fail
              go_ret
              exact ⟨rfl, h7.out⟩
theorem levels_walk (s : ByteArray) (w : World) (hs : s.size ≤ 9223372036854775807) :
    Calls Tryd.prog 4 #[.string s] w fun e w' => e = .returned (.bool true) ∧ Below w.heap.size w w' := by
  by_cases h : s.size ≤ 300
  · exact levels_short s w h
  · exact levels_long s w (by omega) hs
end Go.Proofs.YthgilnmfbhmgiaaDoor
