/-
  The walk of polyglotlaw04.TopicNames: the chapter's examples, what is not valid, shared filters: it answers true. No condition.
-/
import Derived.Deep.LoopGhost
import Derived.Test.YthgilnmfbhmgiaaDoorTopLive
import Derived.Test.YthgilnmfbhmgiaaDoorTopSame
namespace Go.Proofs.YthgilnmfbhmgiaaDoor
open Go.RowKit Go.Shelf

theorem bad_ff : validOf [255] = false := valid_stop (cs := []) (r := [255]) (fun c hc => by simp at hc) (by decide) (by decide)
theorem bad_nul : validOf [97, 0] = false := valid_stop (cs := [97]) (r := [0]) (oks_of _ (by decide)) (by decide) (by decide)
def noNames : List (List UInt8) := [[], [97, 43], [35], [97, 47, 35], [255], [97, 0]]
def noFilters : List (List UInt8) := [[], [97, 43], [97, 35], [35, 47, 97], [97, 47, 35, 47, 98], [97, 47, 98, 43, 47, 99], [255]]
theorem no_name : ∀ k, k < 6 → nameL (noNames.getD k []) = false ∧ (noNames.getD k []).length ≤ 10 := by
  intro k hk
  match k, hk with
  | 0, _ => exact ⟨(name_of [] _ (ascii_valid _ (by decide) (by decide))).trans (by decide), by decide⟩
  | 1, _ => exact ⟨(name_of [97, 43] _ (ascii_valid _ (by decide) (by decide))).trans (by decide), by decide⟩
  | 2, _ => exact ⟨(name_of [35] _ (ascii_valid _ (by decide) (by decide))).trans (by decide), by decide⟩
  | 3, _ => exact ⟨(name_of [97, 47, 35] _ (ascii_valid _ (by decide) (by decide))).trans (by decide), by decide⟩
  | 4, _ => exact ⟨(name_of [255] _ bad_ff).trans (by decide), by decide⟩
  | 5, _ => exact ⟨(name_of [97, 0] _ bad_nul).trans (by decide), by decide⟩
  | k + 6, h => omega
theorem no_filter : ∀ k, k < 7 → filterL (noFilters.getD k []) = false ∧ (noFilters.getD k []).length ≤ 10 := by
  intro k hk
  match k, hk with
  | 0, _ => exact ⟨(filter_of [] _ (ascii_valid _ (by decide) (by decide))).trans (by decide), by decide⟩
  | 1, _ => exact ⟨(filter_of [97, 43] _ (ascii_valid _ (by decide) (by decide))).trans (by decide), by decide⟩
  | 2, _ => exact ⟨(filter_of [97, 35] _ (ascii_valid _ (by decide) (by decide))).trans (by decide), by decide⟩
  | 3, _ => exact ⟨(filter_of [35, 47, 97] _ (ascii_valid _ (by decide) (by decide))).trans (by decide), by decide⟩
  | 4, _ => exact ⟨(filter_of [97, 47, 35, 47, 98] _ (ascii_valid _ (by decide) (by decide))).trans (by decide), by decide⟩
  | 5, _ => exact ⟨(filter_of [97, 47, 98, 43, 47, 99] _ (ascii_valid _ (by decide) (by decide))).trans (by decide), by decide⟩
  | 6, _ => exact ⟨(filter_of [255] _ bad_ff).trans (by decide), by decide⟩
  | k + 7, h => omega
theorem match_nofilter {f : List UInt8} (n : List UInt8) (h : filterL f = false) : matchL f n = false := by unfold matchL; rw [h]; rfl
theorem name_at (n : List UInt8) (b : Bool) (W : World) (hn : n.length ≤ 1000) (h : nameL n = b) :
    Calls Tryd.prog 9 #[.string (bs n)] W fun e w' => e = .returned (.bool b) ∧ Below W.heap.size W w' := by
  have := name_any (bs n) W (by rw [bs_size]; omega)
  rwa [bs_data, h] at this
theorem filter_at (n : List UInt8) (b : Bool) (W : World) (hn : n.length ≤ 1000) (h : filterL n = b) :
    Calls Tryd.prog 10 #[.string (bs n)] W fun e w' => e = .returned (.bool b) ∧ Below W.heap.size W w' := by
  have := filter_any (bs n) W (by rw [bs_size]; omega)
  rwa [bs_data, h] at this
theorem shared_at (n g f : List UInt8) (b : Bool) (W : World) (hn : n.length ≤ 1000) (h : sharedL n = (g, f, b)) :
    Calls Tryd.prog 12 #[.string (bs n)] W fun e w' => e = .returned (.tuple #[.string (bs g), .string (bs f), .bool b]) ∧ Below W.heap.size W w' := by
  have := shared_any (bs n) W (by rw [bs_size]; omega)
  rw [bs_data, h] at this
  exact this
theorem dollar_at (n : List UInt8) (b : Bool) (W : World) (h : dollarL n = b) :
    Calls Tryd.prog 16 #[.string (bs n)] W fun e w' => e = .returned (.bool b) ∧ Below W.heap.size W w' := by
  refine (dollar_any (bs n) W).mono fun e w' ⟨he, hw⟩ => ⟨?_, hw ▸ Below.refl _ _⟩
  rw [he, bs_data, h]
theorem levels_at (n : List UInt8) (ls : List (List UInt8)) (k : Nat) (W : World) (hn : n.length ≤ 1000) (h : lvls n = ls) (hk : ls.length = k) :
    Calls Tryd.prog 14 #[.string (bs n)] W fun e w' => e = .returned (.slice (some ⟨W.heap.size, 0, none⟩) k k) ∧ w' = W.alloc (.cells (strs ls).toArray 9) := by
  have := levels_any (bs n) W (by rw [bs_size]; omega)
  rwa [bs_data, h, hk] at this
theorem same_at (ls : List (List UInt8)) (k : Nat) (cs : Array Value) (W : World) (hk : ls.length = k) (hl : k ≤ 70000) (hc : cs = (strs ls).toArray) :
    Calls Tryd.prog 13 #[.slice (some ⟨W.heap.size, 0, none⟩) k k, .slice (some ⟨W.heap.size + 1, 0, none⟩) k k] ((W.alloc (.cells (strs ls).toArray 9)).alloc (.cells cs 9)) fun e w' => e = .returned (.bool true) ∧ Below W.heap.size W w' := by
  subst hc hk
  exact (same_strs _ _ _ _ ls _ ((SR.alloc _).kept ((Below.refl _ _).alloc (Nat.le_refl _) _)) (SR.alloc2 _) hl).mono fun e w' ⟨he, hb⟩ => ⟨he, (((Below.refl _ W).alloc (Nat.le_refl _) _).alloc (by simp) _).trans (hb.mono (by simp; omega))⟩
theorem join_at (ls : List (List UInt8)) (l : List UInt8) (k : Nat) (cs : Array Value) (W : World) (hk : ls.length = k) (hl : k ≤ 70000) (hc : cs = (strs ls).toArray) (hj : joins ls = l) (hn : l.length ≤ 70000) :
    Calls Tryd.prog 15 #[.slice (some ⟨W.heap.size, 0, none⟩) k k] (W.alloc (.cells cs 9)) fun e w' => e = .returned (.string (bs l)) ∧ Below W.heap.size W w' := by
  subst hc hk hj
  exact (join_any _ _ _ ls _ (SR.alloc _) rfl (Nat.le_refl _) (by omega) (by omega)).mono fun e w' ⟨he, hb⟩ => ⟨he, ((Below.refl _ W).alloc (Nat.le_refl _) _).trans (hb.mono (by simp))⟩
theorem join_none (W : World) :
    Calls Tryd.prog 15 #[.slice none 0 0] W fun e w' => e = .returned (.string ⟨#[]⟩) ∧ Below W.heap.size W w' :=
  join_any none 0 0 [] W SR.nil rfl (Nat.le_refl _) (by decide) (by decide)

set_option maxRecDepth 1000000 in
set_option maxHeartbeats 8000000 in
theorem names_walk (w : World) :
    Calls Tryd.prog 3 #[] w fun e w' => e = .returned (.bool true) ∧ Below w.heap.size w w' := by
  have HN := Lib.hid no_name
  have HF := Lib.hid no_filter
  have P1 := Lib.hid lives4
  go_enter Tryd.func3, Tryd.ntmps3
  go_wp2_with fail
  refine (P1.out _).mono ?_
  rintro e w1 ⟨rfl, b1⟩
  have B1 := Lib.hid b1
  clear b1
  go_wp2_with fail
  have hSR : SR (w1.alloc (.cells #[.string ⟨#[]⟩, .string ⟨#[97, 43]⟩, .string ⟨#[35]⟩, .string ⟨#[97, 47, 35]⟩, .string ⟨#[255]⟩, .string ⟨#[97, 0]⟩] 9)) (some ⟨w1.heap.size, 0, none⟩) noNames := SR.alloc (ls := noNames) _
  have hB : Below w.heap.size w (w1.alloc (.cells #[.string ⟨#[]⟩, .string ⟨#[97, 43]⟩, .string ⟨#[35]⟩, .string ⟨#[97, 47, 35]⟩, .string ⟨#[255]⟩, .string ⟨#[97, 0]⟩] 9)) := B1.out.alloc B1.out.size _
  generalize w1.alloc (.cells #[.string ⟨#[]⟩, .string ⟨#[97, 43]⟩, .string ⟨#[35]⟩, .string ⟨#[97, 47, 35]⟩, .string ⟨#[255]⟩, .string ⟨#[97, 0]⟩] 9) = w2 at *
  have HSR := Lib.hid hSR
  have HB := Lib.hid hB
  clear hSR hB
  go_loopg [2] 6 (fun gk a wx => ∃ k : Nat, k ≤ 6 ∧ gk = 6 - k ∧ a = .int .i64 (k : Int) ∧ Below w2.heap.size w2 wx)
  case atStart => exact ⟨0, by omega, by omega, rfl, Below.refl _ _⟩
  case round =>
    obtain ⟨k, hk, hgk, rfl, hb⟩ := hrel
    have HBK := Lib.hid hb
    by_cases hlt : k < 6
    · obtain ⟨g, o, hA, hg, hcell⟩ := HSR.out (by decide)
      obtain ⟨rfl, rfl⟩ : g = w1.heap.size ∧ o = 0 := by cases hA; exact ⟨rfl, rfl⟩
      have hcell := (hb.cell (p := ⟨w1.heap.size, 0 + k, none⟩) hg).trans (hcell k hlt)
      rw [Nat.zero_add] at hcell
      obtain ⟨hn, hl⟩ := HN.out k hlt
      have hC := Lib.hid (fun W => name_at (noNames.getD k []) false W (by omega) hn)
      generalize noNames.getD k [] = l at *
      have g1 : (k : Int) < 6 := by omega
      clear hA hg hb hn hl
      go_wp2_with fail
      refine (hC.out _).mono ?_
      rintro e v ⟨rfl, b⟩
      have B' := Lib.hid (HBK.out.trans (b.mono HBK.out.size))
      clear b
      go_wp2_with fail
      go_roundg (6 - (k + 1))
      case measure => omega
      case rel => exact ⟨k + 1, by omega, rfl, by go_num, B'.out⟩
    · have hk6 : k = 6 := by omega
      subst hk6
      have B3 := Lib.hid (HB.out.trans (hb.mono HB.out.size))
      clear hb HBK HSR HB HN hgk hk hlt
      go_wp2_with fail
      have hSR : SR (wr.alloc (.cells #[.string ⟨#[]⟩, .string ⟨#[97, 43]⟩, .string ⟨#[97, 35]⟩, .string ⟨#[35, 47, 97]⟩, .string ⟨#[97, 47, 35, 47, 98]⟩, .string ⟨#[97, 47, 98, 43, 47, 99]⟩, .string ⟨#[255]⟩] 9)) (some ⟨wr.heap.size, 0, none⟩) noFilters := SR.alloc (ls := noFilters) _
      have hB : Below w.heap.size w (wr.alloc (.cells #[.string ⟨#[]⟩, .string ⟨#[97, 43]⟩, .string ⟨#[97, 35]⟩, .string ⟨#[35, 47, 97]⟩, .string ⟨#[97, 47, 35, 47, 98]⟩, .string ⟨#[97, 47, 98, 43, 47, 99]⟩, .string ⟨#[255]⟩] 9)) := B3.out.alloc B3.out.size _
      obtain ⟨z, hz⟩ : ∃ z, wr.heap.size = z := ⟨_, rfl⟩
      generalize wr.alloc (.cells #[.string ⟨#[]⟩, .string ⟨#[97, 43]⟩, .string ⟨#[97, 35]⟩, .string ⟨#[35, 47, 97]⟩, .string ⟨#[97, 47, 35, 47, 98]⟩, .string ⟨#[97, 47, 98, 43, 47, 99]⟩, .string ⟨#[255]⟩] 9) = w3 at *
      rw [hz] at hSR ⊢
      have HSR := Lib.hid hSR
      have HB := Lib.hid hB
      clear hSR hB hz B3
      go_loopg [4] 7 (fun gk a wx => ∃ k : Nat, k ≤ 7 ∧ gk = 7 - k ∧ a = .int .i64 (k : Int) ∧ Below w3.heap.size w3 wx)
      case atStart => exact ⟨0, by omega, by omega, rfl, Below.refl _ _⟩
      case round =>
        obtain ⟨k, hk, hgk, rfl, hb⟩ := hrel
        have HBK := Lib.hid hb
        by_cases hlt : k < 7
        · obtain ⟨g, o, hA, hg, hcell⟩ := HSR.out (by decide)
          obtain ⟨rfl, rfl⟩ : g = z ∧ o = 0 := by cases hA; exact ⟨rfl, rfl⟩
          have hcell := (hb.cell (p := ⟨g, 0 + k, none⟩) hg).trans (hcell k hlt)
          rw [Nat.zero_add] at hcell
          obtain ⟨hn, hl⟩ := HF.out k hlt
          have hC := Lib.hid (fun W => filter_at (noFilters.getD k []) false W (by omega) hn)
          have hM := Lib.hid (fun W => matches_at (noFilters.getD k []) [97] false W (by omega) (by decide) (match_nofilter _ hn))
          generalize noFilters.getD k [] = l at *
          have g1 : (k : Int) < 7 := by omega
          have HCELL := Lib.hid (And.intro hcell hg)
          clear hA hb hn hl
          go_wp2_with fail
          refine (hC.out _).mono ?_
          rintro e v ⟨rfl, b⟩
          have hcell : v.cell? ⟨g, k, none⟩ = some (.string (bs l)) := (b.cell (p := ⟨g, k, none⟩) (Nat.lt_of_lt_of_le HCELL.out.2 HBK.out.size)).trans HCELL.out.1
          have B' := Lib.hid (HBK.out.trans (b.mono HBK.out.size))
          clear b
          go_wp2_with fail
          refine (hM.out _).mono ?_
          rintro e v2 ⟨rfl, b⟩
          have B'' := Lib.hid (B'.out.trans (b.mono B'.out.size))
          clear b
          go_wp2_with fail
          go_roundg (7 - (k + 1))
          case measure => omega
          case rel => exact ⟨k + 1, by omega, rfl, by go_num, B''.out⟩
        · have hk7 : k = 7 := by omega
          subst hk7
          have B0 := Lib.hid (HB.out.trans (hb.mono HB.out.size))
          clear hb HBK HSR HB HF hgk hk hlt
          have S1 := Lib.hid (fun W => shared_at [36, 115, 104, 97, 114, 101, 47, 103, 47, 97, 47, 43] [103] [97, 47, 43] true W (by decide) ((shared_cut (g := [103]) (f := [97, 47, 43]) (by decide)).trans (if_pos ⟨ascii_valid _ (by decide) (by decide), by decide, by decide, (filter_of _ _ (ascii_valid _ (by decide) (by decide))).trans (by decide)⟩)))
          have S2 := Lib.hid (fun W => shared_at [36, 115, 104, 97, 114, 101, 47, 47, 97] [] [] false W (by decide) ((shared_cut (g := []) (f := [97]) (by decide)).trans (if_neg (fun h => h.2.1 rfl))))
          have S3 := Lib.hid (fun W => shared_at [36, 115, 104, 97, 114, 101, 47, 103, 47] [] [] false W (by decide) ((shared_cut (g := [103]) (f := []) (by decide)).trans (if_neg (fun h => by have := h.2.2.2; rw [filter_of [] _ (ascii_valid _ (by decide) (by decide))] at this; exact absurd this (by decide)))))
          have S4 := Lib.hid (fun W => shared_at [36, 115, 104, 97, 114, 101, 47, 103, 43, 47, 97] [] [] false W (by decide) ((shared_cut (g := [103, 43]) (f := [97]) (by decide)).trans (if_neg (fun h => absurd h.2.2.1 (by decide)))))
          have S5 := Lib.hid (fun W => shared_at [36, 115, 104, 97, 114, 101, 47, 103] [] [] false W (by decide) (shared_none (r := [103]) (by decide)))
          have N1 := Lib.hid (fun W => name_at [47] true W (by decide) ((name_of _ _ (ascii_valid _ (by decide) (by decide))).trans (by decide)))
          have F1 := Lib.hid (fun W => filter_at [43, 47, 35] true W (by decide) ((filter_of _ _ (ascii_valid _ (by decide) (by decide))).trans (by decide)))
          have F2 := Lib.hid (fun W => filter_at [47] true W (by decide) ((filter_of _ _ (ascii_valid _ (by decide) (by decide))).trans (by decide)))
          have M1 := Lib.hid (fun W => matches_at [97, 47, 43, 47, 99] [97, 47, 47, 99] true W (by decide) (by decide) ((match_of _ _ _ _ (ascii_valid _ (by decide) (by decide)) (ascii_valid _ (by decide) (by decide))).trans (by decide)))
          have M2 := Lib.hid (fun W => matches_at [97, 47, 43] [97] false W (by decide) (by decide) ((match_of _ _ _ _ (ascii_valid _ (by decide) (by decide)) (ascii_valid _ (by decide) (by decide))).trans (by decide)))
          have M3 := Lib.hid (fun W => matches_at [97, 47, 43] [97, 47, 98, 47, 99] false W (by decide) (by decide) ((match_of _ _ _ _ (ascii_valid _ (by decide) (by decide)) (ascii_valid _ (by decide) (by decide))).trans (by decide)))
          have M4 := Lib.hid (fun W => matches_at [36, 120, 47, 35] [36, 120, 47, 121] true W (by decide) (by decide) ((match_of _ _ _ _ (ascii_valid _ (by decide) (by decide)) (ascii_valid _ (by decide) (by decide))).trans (by decide)))
          have M5 := Lib.hid (fun W => matches_at [43, 47, 121] [36, 120, 47, 121] false W (by decide) (by decide) ((match_of _ _ _ _ (ascii_valid _ (by decide) (by decide)) (ascii_valid _ (by decide) (by decide))).trans (by decide)))
          have M6 := Lib.hid (fun W => matches_at [97, 47, 98] [97, 47, 98] true W (by decide) (by decide) ((match_of _ _ _ _ (ascii_valid _ (by decide) (by decide)) (ascii_valid _ (by decide) (by decide))).trans (by decide)))
          have W1 := Lib.hid (fun W => within_at [97, 47, 98] [97, 47, 43] true W (by decide) (by decide) ((within_of _ _ _ _ (ascii_valid _ (by decide) (by decide)) (ascii_valid _ (by decide) (by decide))).trans (by decide)))
          have W2 := Lib.hid (fun W => within_at [97, 47, 43] [97, 47, 98] false W (by decide) (by decide) ((within_of _ _ _ _ (ascii_valid _ (by decide) (by decide)) (ascii_valid _ (by decide) (by decide))).trans (by decide)))
          have W3 := Lib.hid (fun W => within_at [35] [43, 47, 35] true W (by decide) (by decide) ((within_of _ _ _ _ (ascii_valid _ (by decide) (by decide)) (ascii_valid _ (by decide) (by decide))).trans (by decide)))
          have W4 := Lib.hid (fun W => within_at [97, 47, 35] [97, 47, 43, 47, 35] false W (by decide) (by decide) ((within_of _ _ _ _ (ascii_valid _ (by decide) (by decide)) (ascii_valid _ (by decide) (by decide))).trans (by decide)))
          have W5 := Lib.hid (fun W => within_at [97, 47, 43, 47, 35] [97, 47, 35] true W (by decide) (by decide) ((within_of _ _ _ _ (ascii_valid _ (by decide) (by decide)) (ascii_valid _ (by decide) (by decide))).trans (by decide)))
          have W6 := Lib.hid (fun W => within_at [36, 97] [35] false W (by decide) (by decide) ((within_of _ _ _ _ (ascii_valid _ (by decide) (by decide)) (ascii_valid _ (by decide) (by decide))).trans (by decide)))
          have W7 := Lib.hid (fun W => within_at [97, 47, 98] [97, 47, 98, 47, 35] true W (by decide) (by decide) ((within_of _ _ _ _ (ascii_valid _ (by decide) (by decide)) (ascii_valid _ (by decide) (by decide))).trans (by decide)))
          have W8 := Lib.hid (fun W => within_at [97, 43] [35] false W (by decide) (by decide) ((within_of _ _ _ _ (ascii_valid _ (by decide) (by decide)) (ascii_valid _ (by decide) (by decide))).trans (by decide)))
          have D1 := Lib.hid (fun W => dollar_at [36] true W (by decide))
          have D2 := Lib.hid (fun W => dollar_at [] false W (by decide))
          have L1 := Lib.hid (fun W => levels_at [97, 47, 47, 98] [[97], [], [98]] 3 W (by decide) (by decide) rfl)
          have L2 := Lib.hid (fun W => levels_at [] [[]] 1 W (by decide) (by decide) rfl)
          have E1 := Lib.hid (fun W => same_at [[97], [], [98]] 3 #[.string ⟨#[97]⟩, .string ⟨#[]⟩, .string ⟨#[98]⟩] W rfl (by decide) rfl)
          have E2 := Lib.hid (fun W => same_at [[]] 1 #[.string ⟨#[]⟩] W rfl (by decide) rfl)
          have J1 := Lib.hid (fun W => join_at [[97], [], [98]] [97, 47, 47, 98] 3 #[.string ⟨#[97]⟩, .string ⟨#[]⟩, .string ⟨#[98]⟩] W rfl (by decide) rfl (by decide) (by decide))
          have J2 := Lib.hid (fun W => join_none W)
          have q0 : ((bs [103]).toList == [103]) = true := by rw [bs_toList]; rfl
          have q1 : ((bs [97, 47, 43]).toList == [97, 47, 43]) = true := by rw [bs_toList]; rfl
          have q2 : ((bs [97, 47, 47, 98]).toList == [97, 47, 47, 98]) = true := by rw [bs_toList]; rfl
          go_wp2_with fail
          refine (S1.out _).mono ?_
          rintro e v1 ⟨rfl, b1⟩
          have B1 := Lib.hid (B0.out.trans (b1.mono B0.out.size))
          clear b1
          go_wp2_with fail
          refine (S2.out _).mono ?_
          rintro e v2 ⟨rfl, b2⟩
          have B2 := Lib.hid (B1.out.trans (b2.mono B1.out.size))
          clear b2
          go_wp2_with fail
          refine (S3.out _).mono ?_
          rintro e v3 ⟨rfl, b3⟩
          have B3 := Lib.hid (B2.out.trans (b3.mono B2.out.size))
          clear b3
          go_wp2_with fail
          refine (S4.out _).mono ?_
          rintro e v4 ⟨rfl, b4⟩
          have B4 := Lib.hid (B3.out.trans (b4.mono B3.out.size))
          clear b4
          go_wp2_with fail
          refine (S5.out _).mono ?_
          rintro e v5 ⟨rfl, b5⟩
          have B5 := Lib.hid (B4.out.trans (b5.mono B4.out.size))
          clear b5
          go_wp2_with fail
          refine (N1.out _).mono ?_
          rintro e v6 ⟨rfl, b6⟩
          have B6 := Lib.hid (B5.out.trans (b6.mono B5.out.size))
          clear b6
          go_wp2_with fail
          refine (F1.out _).mono ?_
          rintro e v7 ⟨rfl, b7⟩
          have B7 := Lib.hid (B6.out.trans (b7.mono B6.out.size))
          clear b7
          go_wp2_with fail
          refine (F2.out _).mono ?_
          rintro e v8 ⟨rfl, b8⟩
          have B8 := Lib.hid (B7.out.trans (b8.mono B7.out.size))
          clear b8
          go_wp2_with fail
          refine (L1.out _).mono ?_
          rintro e x ⟨rfl, rfl⟩
          go_wp2_with fail
          refine (E1.out _).mono ?_
          rintro e v9 ⟨rfl, b9⟩
          have B9 := Lib.hid (B8.out.trans (b9.mono B8.out.size))
          clear b9
          go_wp2_with fail
          refine (L2.out _).mono ?_
          rintro e x ⟨rfl, rfl⟩
          go_wp2_with fail
          refine (E2.out _).mono ?_
          rintro e v10 ⟨rfl, b10⟩
          have B10 := Lib.hid (B9.out.trans (b10.mono B9.out.size))
          clear b10
          go_wp2_with fail
          refine (J1.out _).mono ?_
          rintro e v11 ⟨rfl, b11⟩
          have B11 := Lib.hid (B10.out.trans (b11.mono B10.out.size))
          clear b11
          go_wp2_with fail
          refine (J2.out _).mono ?_
          rintro e v12 ⟨rfl, b12⟩
          have B12 := Lib.hid (B11.out.trans (b12.mono B11.out.size))
          clear b12
          go_wp2_with fail
          refine (M1.out _).mono ?_
          rintro e v13 ⟨rfl, b13⟩
          have B13 := Lib.hid (B12.out.trans (b13.mono B12.out.size))
          clear b13
          go_wp2_with fail
          refine (M2.out _).mono ?_
          rintro e v14 ⟨rfl, b14⟩
          have B14 := Lib.hid (B13.out.trans (b14.mono B13.out.size))
          clear b14
          go_wp2_with fail
          refine (M3.out _).mono ?_
          rintro e v15 ⟨rfl, b15⟩
          have B15 := Lib.hid (B14.out.trans (b15.mono B14.out.size))
          clear b15
          go_wp2_with fail
          refine (M4.out _).mono ?_
          rintro e v16 ⟨rfl, b16⟩
          have B16 := Lib.hid (B15.out.trans (b16.mono B15.out.size))
          clear b16
          go_wp2_with fail
          refine (M5.out _).mono ?_
          rintro e v17 ⟨rfl, b17⟩
          have B17 := Lib.hid (B16.out.trans (b17.mono B16.out.size))
          clear b17
          go_wp2_with fail
          refine (M6.out _).mono ?_
          rintro e v18 ⟨rfl, b18⟩
          have B18 := Lib.hid (B17.out.trans (b18.mono B17.out.size))
          clear b18
          go_wp2_with fail
          refine (D1.out _).mono ?_
          rintro e v19 ⟨rfl, b19⟩
          have B19 := Lib.hid (B18.out.trans (b19.mono B18.out.size))
          clear b19
          go_wp2_with fail
          refine (D2.out _).mono ?_
          rintro e v20 ⟨rfl, b20⟩
          have B20 := Lib.hid (B19.out.trans (b20.mono B19.out.size))
          clear b20
          go_wp2_with fail
          refine (W1.out _).mono ?_
          rintro e v21 ⟨rfl, b21⟩
          have B21 := Lib.hid (B20.out.trans (b21.mono B20.out.size))
          clear b21
          go_wp2_with fail
          refine (W2.out _).mono ?_
          rintro e v22 ⟨rfl, b22⟩
          have B22 := Lib.hid (B21.out.trans (b22.mono B21.out.size))
          clear b22
          go_wp2_with fail
          refine (W3.out _).mono ?_
          rintro e v23 ⟨rfl, b23⟩
          have B23 := Lib.hid (B22.out.trans (b23.mono B22.out.size))
          clear b23
          go_wp2_with fail
          refine (W4.out _).mono ?_
          rintro e v24 ⟨rfl, b24⟩
          have B24 := Lib.hid (B23.out.trans (b24.mono B23.out.size))
          clear b24
          go_wp2_with fail
          refine (W5.out _).mono ?_
          rintro e v25 ⟨rfl, b25⟩
          have B25 := Lib.hid (B24.out.trans (b25.mono B24.out.size))
          clear b25
          go_wp2_with fail
          refine (W6.out _).mono ?_
          rintro e v26 ⟨rfl, b26⟩
          have B26 := Lib.hid (B25.out.trans (b26.mono B25.out.size))
          clear b26
          go_wp2_with fail
          refine (W7.out _).mono ?_
          rintro e v27 ⟨rfl, b27⟩
          have B27 := Lib.hid (B26.out.trans (b27.mono B26.out.size))
          clear b27
          go_wp2_with fail
          refine (W8.out _).mono ?_
          rintro e v28 ⟨rfl, b28⟩
          have B28 := Lib.hid (B27.out.trans (b28.mono B27.out.size))
          clear b28
          go_wp2_with fail
          go_ret
          exact ⟨rfl, B28.out⟩
end Go.Proofs.YthgilnmfbhmgiaaDoor
