/-
  The contracts of head.copyFilters and head.copyProps: lists in new memory, with new strings. Condition: at most 70,000 elements, the lengths of the strings.
-/
import Derived.Deep.RegionWith
import Derived.Test.YtnmdbbkcbedklaaDoorK18
import Derived.Test.YtnmdbbkcbedklaaDoorK47
namespace Go.Proofs.YtnmdbbkcbedklaaDoor
open Go.RowKit

theorem own_block {W : World} {base n s g cap : Nat} {t : TypeId} {cs : List Value} (h : W.ownsRow base t s (.slice (some ⟨g, 0, none⟩) n cap) n cs) : base ≤ g ∧ ∃ cur, W.heap[g]? = some (.cells cur t (0, 0)) ∧ cur.toList.take (n * s) = cs := by
  rcases h.2 with ⟨h', _⟩ | ⟨g', cap', cur, h', hb, hg, _, _, _, hcur⟩
  · simp at h'
  · simp only [Value.slice.injEq, Option.some.injEq, Addr.mk.injEq, and_true, true_and] at h'
    obtain ⟨rfl, rfl⟩ := h'
    exact ⟨hb, cur, hg, hcur⟩
theorem own_str {W : World} {base n s g cap j : Nat} {t : TypeId} {cs : List Value} {x : ByteArray} (h : W.ownsRow base t s (.slice (some ⟨g, 0, none⟩) n cap) n cs) (hj : cs[j]? = some (.string x)) (hx : x.size ≤ 281474976710656) : StrAt W g j x := by
  obtain ⟨_, cur, hg, hcur⟩ := own_block h
  refine ⟨⟨cur, t, hg, ?_⟩, hx⟩
  rw [← hcur, List.getElem?_take] at hj
  split at hj
  · simpa using hj
  · cases hj
/-- A pointer or two to strings, laid for a call. -/
theorem ptrs_one {W : World} {g i : Nat} {s : ByteArray} {t : TypeId} (h : StrAt W g i s) : PtrsAt (W.alloc (.cells #[.pointer (some ⟨g, i, none⟩)] t)) W.heap.size [(g, i)] := fun j q hj => by
  match j, hj with
  | 0, hj =>
    simp at hj; subst hj
    exact ⟨World.cell?_alloc_at _ _ _ _ rfl, s, h.below (below_box _)⟩
  | j + 1, hj => simp at hj
theorem ptrs_two {W : World} {g i g' i' : Nat} {s s' : ByteArray} {t : TypeId} (h : StrAt W g i s) (h' : StrAt W g' i' s') : PtrsAt (W.alloc (.cells #[.pointer (some ⟨g, i, none⟩), .pointer (some ⟨g', i', none⟩)] t)) W.heap.size [(g, i), (g', i')] := fun j q hj => by
  match j, hj with
  | 0, hj =>
    simp at hj; subst hj
    exact ⟨World.cell?_alloc_at _ _ _ _ rfl, s, h.below (below_box _)⟩
  | 1, hj =>
    simp at hj; subst hj
    exact ⟨World.cell?_alloc_at _ _ _ _ rfl, s', h'.below (below_box _)⟩
  | j + 2, hj => simp at hj
set_option maxHeartbeats 1000000 in
theorem copy_fis (A : Option Addr) (n c : Nat) (l : List Fi) (w : World) (hA : CL w A (fcs l)) (hn : l.length = n) (hl : n ≤ 70000) (hm : ∀ f ∈ l, f.topic.length ≤ 140737488351232) :
    Calls Tryd.prog 34 #[.slice A n c] w fun e w' => ∃ v, e = .returned v ∧ w'.ownsRow w.heap.size 76 5 v n (fcs l) ∧ Below w.heap.size w w' := by
  have FR := Lib.hid (fresh_fi A n c (fcs l) w hA (by rw [fcs_length, hn]) (fcs_one l) hl)
  have HN := Lib.hid hn
  have HM := Lib.hid hm
  have hl' : (n : Int) ≤ 70000 := by omega
  clear hA hn hl hm
  go_enter Tryd.func34, Tryd.ntmps34
  go_wp2_with fail
  refine (FR.out).mono ?_
  rintro e w1 ⟨v, rfl, hown, hb⟩
  have B1 := Lib.hid hb
  rcases hown.2 with ⟨rfl, rfl⟩ | ⟨g, cap, cur, rfl, _⟩
  · have HO := Lib.hid hown
    clear hown hb
    go_wp2_with fail
    go_loopg [8] 0 (fun gk i wr => gk = 0 ∧ i = .int .i64 0 ∧ w1 = wr)
    case atStart => exact ⟨rfl, rfl, rfl⟩
    case round =>
      obtain ⟨rfl, rfl, rfl⟩ := hrel
      go_wp2_with fail
      go_ret
      exact ⟨_, rfl, HO.out, B1.out⟩
  · have HO := Lib.hid hown
    clear hown hb
    go_wp2_with fail
    go_loopg [8] n (fun gk i wr => ∃ k : Nat, k ≤ n ∧ gk = n - k ∧ i = .int .i64 (k : Int) ∧ Below w.heap.size w wr ∧ wr.ownsRow w.heap.size 76 5 (.slice (some ⟨g, 0, none⟩) n cap) n (fcs l))
    case atStart => exact ⟨0, Nat.zero_le _, rfl, rfl, B1.out, HO.out⟩
    case round =>
      obtain ⟨k, hk, rfl, rfl, hb, hown⟩ := hrel
      have B2 := Lib.hid hb
      have HO2 := Lib.hid hown
      by_cases hlt : k < n
      · obtain ⟨f, hf⟩ : ∃ f, l[k]? = some f := ⟨_, List.getElem?_eq_getElem (by rw [HN.out]; exact hlt)⟩
        have hs := own_str hown (x := bs f.topic) (by have := fcs_get l k 0 f hf (by decide); rw [Nat.add_zero] at this; exact this) (by rw [bs_len]; have := HM.out f (List.mem_of_getElem? hf); omega)
        have RN := Lib.hid (renew_any wr.heap.size 1 [(g, k * 5)] (wr.alloc (.cells #[.pointer (some ⟨g, k * 5, none⟩)] 62)) (by rw [World.size_alloc]; omega) (ptrs_one hs) rfl (by decide))
        have HL := Lib.hid hlt
        have g1 : (k : Int) < (n : Int) := by omega
        clear hs hf hb hown hlt hk
        go_wp2_with fail
        refine (RN.out).mono ?_
        rintro e w2 ⟨rfl, hb⟩
        have hb2 := below_then (below_box (w := wr) _) hb
        have HO3 := Lib.hid (own_below HO2.out hb2)
        have B3 := Lib.hid (below_then B2.out hb2)
        clear hb hb2
        go_wp2_with fail
        go_roundg (n - (k + 1))
        case measure => have := HL.out; omega
        case rel => exact ⟨k + 1, by have := HL.out; omega, rfl, by go_num, B3.out, HO3.out⟩
      · obtain rfl : k = n := by omega
        clear hb hown
        go_wp2_with fail
        go_ret
        exact ⟨_, rfl, HO2.out, B2.out⟩
set_option maxHeartbeats 1000000 in
theorem copy_props (A : Option Addr) (n c : Nat) (l : List Pr) (w : World) (hA : PL w A l) (hn : l.length = n) (hl : n ≤ 70000) (hm : ∀ p ∈ l, p.text.length ≤ 140737488351232 ∧ p.value.length ≤ 140737488351232) :
    Calls Tryd.prog 32 #[.slice A n c] w fun e w' => ∃ v, e = .returned v ∧ w'.ownsRow w.heap.size 40 4 v n (pcs l) ∧ Below w.heap.size w w' := by
  have FR := Lib.hid (fresh_prop A n c (pcs l) w hA.cl (by rw [pcs_length, hn]) (pcs_one l) hl)
  have HN := Lib.hid hn
  have HM := Lib.hid hm
  have hl' : (n : Int) ≤ 70000 := by omega
  clear hA hn hl hm
  go_enter Tryd.func32, Tryd.ntmps32
  go_wp2_with fail
  refine (FR.out).mono ?_
  rintro e w1 ⟨v, rfl, hown, hb⟩
  have B1 := Lib.hid hb
  rcases hown.2 with ⟨rfl, rfl⟩ | ⟨g, cap, cur, rfl, _⟩
  · have HO := Lib.hid hown
    clear hown hb
    go_wp2_with fail
    go_loopg [8] 0 (fun gk i wr => gk = 0 ∧ i = .int .i64 0 ∧ w1 = wr)
    case atStart => exact ⟨rfl, rfl, rfl⟩
    case round =>
      obtain ⟨rfl, rfl, rfl⟩ := hrel
      go_wp2_with fail
      go_ret
      exact ⟨_, rfl, HO.out, B1.out⟩
  · have HO := Lib.hid hown
    clear hown hb
    go_wp2_with fail
    go_loopg [8] n (fun gk i wr => ∃ k : Nat, k ≤ n ∧ gk = n - k ∧ i = .int .i64 (k : Int) ∧ Below w.heap.size w wr ∧ wr.ownsRow w.heap.size 40 4 (.slice (some ⟨g, 0, none⟩) n cap) n (pcs l))
    case atStart => exact ⟨0, Nat.zero_le _, rfl, rfl, B1.out, HO.out⟩
    case round =>
      obtain ⟨k, hk, rfl, rfl, hb, hown⟩ := hrel
      have B2 := Lib.hid hb
      have HO2 := Lib.hid hown
      by_cases hlt : k < n
      · obtain ⟨p, hp⟩ : ∃ p, l[k]? = some p := ⟨_, List.getElem?_eq_getElem (by rw [HN.out]; exact hlt)⟩
        have hpm := HM.out p (List.mem_of_getElem? hp)
        have hs : StrAt wr.drew g (k * 4 + 2) (bs p.text) := own_str (own_below hown (Below.refl _ _).drew) (pcs_get l k 2 p hp (by decide)) (by rw [bs_len]; omega)
        have hs' : StrAt wr.drew g (k * 4 + 3) (bs p.value) := own_str (own_below hown (Below.refl _ _).drew) (pcs_get l k 3 p hp (by decide)) (by rw [bs_len]; omega)
        have RN := Lib.hid (renew_any wr.heap.size 2 [(g, k * 4 + 2), (g, k * 4 + 3)] (wr.drew.alloc (.cells #[.pointer (some ⟨g, k * 4 + 2, none⟩), .pointer (some ⟨g, k * 4 + 3, none⟩)] 62)) (by rw [World.size_alloc]; exact Nat.lt_succ_self _) (ptrs_two hs hs') rfl (by decide))
        have HL := Lib.hid hlt
        have g1 : (k : Int) < (n : Int) := by omega
        clear hs hs' hp hpm hb hown hlt hk
        go_wp2_with fail
        go_region_with (refine (RN.out).mono ?_; rintro e w2 ⟨rfl, hb⟩)
        have hb2 := below_then (below_then (Below.refl _ _).drew (below_box (w := wr.drew) _)) hb
        have HO3 := Lib.hid (own_below HO2.out hb2)
        have B3 := Lib.hid (below_then B2.out hb2)
        clear hb hb2
        go_wp2_with fail
        go_roundg (n - (k + 1))
        case measure => have := HL.out; omega
        case rel => exact ⟨k + 1, by have := HL.out; omega, rfl, by go_num, B3.out, HO3.out⟩
      · obtain rfl : k = n := by omega
        clear hb hown
        go_wp2_with fail
        go_ret
        exact ⟨_, rfl, HO2.out, B2.out⟩
end Go.Proofs.YtnmdbbkcbedklaaDoor
