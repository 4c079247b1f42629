/-
  The contract of limits.Chunks: the text divided at the indexes that lie in it. Condition: at most 1,000 indexes.
-/
import Derived.Deep.DeepCutAuto
import Derived.Deep.LoopGhost
import Derived.Test.YtecadfnajogffaaChkSort
namespace Go.Proofs.Ytecadfnajogffaa
open Go.RowKit

theorem data_length (s : ByteArray) : s.data.toList.length = s.size := by rw [Array.length_toList]; rfl
theorem extract_bs (s : ByteArray) (i j : Nat) : s.extract i j = bs ((s.data.toList.drop i).take (j - i)) := by
  apply ByteArray.ext
  simp only [bs, ByteArray.data_extract]
  apply Array.toList_inj.1
  rw [Array.toList_extract, List.extract_eq_take_drop]
set_option maxRecDepth 100000 in
set_option maxHeartbeats 2000000 in
theorem chunks_any (s : ByteArray) (A : Option Addr) (n c : Nat) (zs : List Int) (w : World) (hA : IR w A zs) (hn : zs.length = n) (hl : n ≤ 1000) (hs : s.size ≤ 1000000000) :
    Calls Try.prog 5 #[.string s, .slice A n c] w (ChkRet w (chunksL s.data.toList zs)) := by
  have HL := Lib.hid (And.intro hl (And.intro hn hs))
  have SRT := fun W => sorted_any A n c zs W
  obtain ⟨R, hR⟩ : ∃ R, chunksL s.data.toList zs = R := ⟨_, rfl⟩
  rw [hR]
  have HR := Lib.hid hR
  have SRT0 := Lib.hid (SRT w hA hn (by omega))
  clear hA hn hl hs SRT hR
  go_in
  go_wp2_with fail
  refine SRT0.out.mono ?_
  rintro e1 w1 ⟨g, c1, rfl, hI, hB⟩
  have HI := Lib.hid (hI)
  have T0 := Lib.hid (show ChS w1 [] (.slice none 0 0) w1 from ⟨Below.refl _ _, World.ownsRow_nil _ _ _ _⟩)
  have HB := Lib.hid hB
  clear SRT0 hI hB
  go_wp2_with fail
  go_loopg [5, 6, 12] n (fun gk s5 s6 s12 wr => ∃ (k : Nat) (x : Value), gk = n - k ∧ x = s5 ∧ s6 = .int .i64 ((lastL 0 (fitL s.size ((sortL zs).take k)) : Nat) : Int) ∧ s12 = .int .i64 (k : Int) ∧ k ≤ n ∧ ChS w1 (headsL s.data.toList 0 (fitL s.size ((sortL zs).take k))) x wr)
  case atStart => exact ⟨0, _, rfl, rfl, rfl, rfl, Nat.zero_le _, T0.out⟩
  case round =>
    obtain ⟨k, u, rfl, rfl, rfl, rfl, hk, hS⟩ := hrel
    clear T0
    by_cases hlt : k < n
    · have hI := HI.out.kept hS.low
      obtain ⟨a, ha, hgs, hc⟩ := hI (by rw [sort_length, HL.out.2.1]; omega)
      cases ha
      have hck := hc k (by rw [sort_length, HL.out.2.1]; exact hlt)
      rw [Addr.add_lit, Nat.zero_add] at hck
      have hkl : k < (sortL zs).length := by rw [sort_length, HL.out.2.1]; exact hlt
      obtain ⟨z, hz⟩ : ∃ z, (sortL zs).getD k 0 = z := ⟨_, rfl⟩
      rw [hz] at hck
      have g1 : (k : Int) < (n : Int) := by omega
      have hk1000 : (k : Int) ≤ 1000 := by have := HL.out.1; omega
      clear hI
      by_cases hok : okL s.size z = true
      · have hok2 : 0 ≤ z ∧ z ≤ (s.size : Int) := by simpa [okL] using hok
        have hstep := fit_step_yes (n := s.size) hkl (by rw [hz]; exact hok)
        have hbef := fit_before (n := s.size) (sort_pairwise zs) hkl (by rw [hz]; exact hok)
        rw [hz] at hstep hbef
        obtain ⟨x, rfl⟩ : ∃ x : Nat, z = (x : Int) := ⟨z.toNat, by omega⟩
        rw [Int.toNat_natCast] at hstep hbef
        have hx0 : (0 : Int) ≤ (x : Int) := hok2.1
        have hxs : (x : Int) ≤ (s.size : Int) := hok2.2
        have hgl : (headsL s.data.toList 0 (fitL s.size ((sortL zs).take k))).length ≤ 2000 := by
          rw [heads_length]
          refine Nat.le_trans (fit_length _ _) (Nat.le_trans (List.length_take_le _ _) ?_)
          have := HL.out.1
          omega
        obtain ⟨f, hf⟩ : ∃ f, lastL 0 (fitL s.size ((sortL zs).take k)) = f := ⟨_, rfl⟩
        have hheads := heads_snoc s.data.toList x (fitL s.size ((sortL zs).take k)) 0
        have hlast := last_snoc x (fitL s.size ((sortL zs).take k)) 0
        rw [hf] at hbef hheads ⊢
        rw [← hstep] at hheads hlast
        obtain ⟨x', W', hrun, SN⟩ := hS.app ((s.data.toList.drop f).take (x - f)) hgl 0
        rw [← hheads] at SN
        rw [← extract_bs] at hrun
        have hfx : (f : Int) ≤ (x : Int) := by omega
        have hf0 : (0 : Int) ≤ (f : Int) := by omega
        have HS := Lib.hid (And.intro hlast (And.intro SN hlt))
        clear hstep hS hlt hok hc hkl hz hgs hk hok2 hbef hf hheads hlast SN hgl
        have hrun : (Builtin.append_ #[24, 24] 24 #[u, .slice (some ⟨wr.heap.size, 0, none⟩) 1 1]).run Try.prog (wr.alloc (.cells #[.string (s.extract f x)] 9)) = .ok x' W' := hrun
        go_wp2_with (at_builtin; refine wpList_of_app rfl _ _ _ _ rfl rfl rfl hrun ?_)
        all_goals
          clear hrun
          go_roundg (n - (k + 1))
          case measure => have := HS.out.2.2; omega
          case rel => exact ⟨k + 1, _, rfl, rfl, by rw [HS.out.1], by go_num, HS.out.2.2, HS.out.2.1⟩
      · rw [Bool.not_eq_true] at hok
        have hstep := fit_step_no (n := s.size) hkl (by rw [hz]; exact hok)
        have hbad : z < 0 ∨ (0 ≤ z ∧ (s.size : Int) < z) := by
          simp only [okL, Bool.and_eq_false_iff, decide_eq_false_iff_not] at hok
          omega
        have HS := Lib.hid (And.intro hstep (And.intro hS hlt))
        clear hstep hS hlt hok hc hkl hz hgs hk
        rcases hbad with hz0 | ⟨hz0, hz1⟩
        all_goals
          go_wp2_with fail
          go_roundg (n - (k + 1))
          case measure => have := HS.out.2.2; omega
          case rel => exact ⟨k + 1, _, rfl, rfl, by rw [HS.out.1], by go_num, HS.out.2.2, by rw [HS.out.1]; exact HS.out.2.1⟩
    · obtain rfl : k = n := by omega
      have hall : (sortL zs).take k = sortL zs := List.take_of_length_le (by rw [sort_length, HL.out.2.1]; exact Nat.le_refl _)
      rw [hall] at hS ⊢
      have hgl : (headsL s.data.toList 0 (fitL s.size (sortL zs))).length ≤ 2000 := by
        rw [heads_length]
        refine Nat.le_trans (fit_length _ _) ?_
        rw [sort_length, HL.out.2.1]
        have := HL.out.1
        omega
      have hfs := fit_le (n := s.size) (l := sortL zs)
      have hp := pieces_heads s.data.toList (fitL s.size (sortL zs)) 0
      obtain ⟨f, hf⟩ : ∃ f, lastL 0 (fitL s.size (sortL zs)) = f := ⟨_, rfl⟩
      rw [hf] at hp hfs ⊢
      have hR : headsL s.data.toList 0 (fitL s.size (sortL zs)) ++ [s.data.toList.drop f] = R := by
        rw [← hp, ← HR.out]
        unfold chunksL
        rw [data_length, cuts_sort]
      obtain ⟨x', W', hrun, SN⟩ := hS.app (s.data.toList.drop f) hgl 0
      rw [hR] at SN
      have e : bs (s.data.toList.drop f) = s.extract f s.size := by
        rw [extract_bs, List.take_of_length_le (by rw [List.length_drop, data_length]; exact Nat.le_refl _)]
      rw [e] at hrun
      have hrun : (Builtin.append_ #[24, 24] 24 #[u, .slice (some ⟨wr.heap.size, 0, none⟩) 1 1]).run Try.prog (wr.alloc (.cells #[.string (s.extract f s.size)] 9)) = .ok x' W' := hrun
      have FIN := Lib.hid (SN.ret.since HB.out)
      obtain ⟨A', c', hx', -, -⟩ := id FIN.out
      have HX := Lib.hid hx'
      have hfs1 : (f : Int) ≤ (s.size : Int) := by omega
      clear hall hS hgl hf hp hR SN e hx' hk hlt
      go_wp2_with (at_builtin; refine wpList_of_app rfl _ _ _ _ rfl rfl rfl hrun ?_)
      go_ret
      exact FIN.out
end Go.Proofs.Ytecadfnajogffaa
