/-
  The document's answers (polyglotref06): May, Text; and whether two lists of numbers are the same (polyglotkit.Same). Condition: none.
-/
import Derived.Test.YtonfkaoobajbkaaDoorRsnRall
import Derived.Test.YtonfkaoobajbkaaDoorRsnText
namespace Go.Proofs.YtonfkaoobajbkaaDoor
open Go.RowKit

/-- A row of one's own, as an address with its cells. -/
theorem row_cells {W : World} {B : Nat} {v : Value} {l : List Nat} (h : W.ownsRow B 3 1 v l.length (l.map iv)) :
    (l = [] ∧ v = .slice none 0 0) ∨ ∃ g c, v = .slice (some ⟨g, 0, none⟩) l.length c ∧ g < W.heap.size ∧ ∀ (i x : Nat), l[i]? = some x → W.cell? ⟨g, i, none⟩ = some (.int .i64 (x : Int)) := by
  rcases h.2 with ⟨rfl, hn⟩ | ⟨g, cap, cur, rfl, hbg, hg, hrest⟩
  · exact .inl ⟨List.eq_nil_of_length_eq_zero hn, rfl⟩
  · refine .inr ⟨g, cap, rfl, lt_of_block hg, fun i x hx => ?_⟩
    have hc := h.cells (g := g) rfl i (iv x) (by rw [List.getElem?_map, hx]; rfl)
    have hadd : (⟨g, 0, none⟩ : Addr).add i = ⟨g, i, none⟩ := by unfold Addr.add; split <;> simp_all
    rw [hadd] at hc
    exact hc
theorem any_codes (l : List Nat) (code : Int) : (l.any fun x => (x : Int) == code) = (decide (0 ≤ code) && l.contains code.toNat) := by
  induction l with
  | nil => simp
  | cons x l ih =>
    rw [List.any_cons, ih, List.contains_cons]
    by_cases h0 : 0 ≤ code
    · have : ((x : Int) == code) = (code.toNat == x) := by rw [Bool.eq_iff_iff]; simp; omega
      simp [this, h0]
    · have : ((x : Int) == code) = false := by simp; omega
      simp [this, h0]
theorem codesG_length : ∀ g < 8, (codesG g).length ≤ 29 := by decide
set_option maxRecDepth 100000 in
set_option maxHeartbeats 1000000 in
theorem rmay_any (kind code : Int) (w : World) :
    Calls Tryd.prog 19 #[.int .i64 kind, .int .i64 code] w fun e w' => e = .returned (.bool (mayR kind code)) ∧ Below w.heap.size w w' := by
  have RA := Lib.hid (rall_any kind w)
  have HE := Lib.hid (show ((codesG (grp kind)).any fun x => (x : Int) == code) = mayR kind code from any_codes _ _)
  have hlen := codesG_length _ (grp_lt kind)
  generalize codesG (grp kind) = l at *
  have HLN := Lib.hid hlen
  clear hlen
  go_enter Tryd.func19, Tryd.ntmps19
  go_wp2_with fail
  refine RA.out.mono ?_
  rintro e w1 ⟨v, rfl, ho, hb⟩
  have LB := Lib.hid hb
  clear hb
  rcases row_cells ho with ⟨rfl, rfl⟩ | ⟨g, c, rfl, _, hc⟩
  · have HX := Lib.hid (show mayR kind code = false from HE.out.symm)
    clear ho HE
    go_wp2_with fail
    go_loopg [6] 0 (fun gk s6 wx => gk = 0 ∧ s6 = .int .i64 0 ∧ w1 = wx)
    case atStart => exact ⟨rfl, rfl, rfl⟩
    case round =>
      obtain ⟨rfl, rfl, rfl⟩ := hrel
      go_wp2_with fail
      go_ret
      exact ⟨by rw [HX.out]; rfl, LB.out⟩
  · have HC := Lib.hid hc
    clear ho hc
    obtain ⟨n, hn⟩ : ∃ n, l.length = n := ⟨_, rfl⟩
    rw [hn]
    have HN := Lib.hid hn
    have n1 : (n : Int) ≤ 29 := by have := HLN.out; omega
    clear hn
    go_wp2_with fail
    go_loopg [6] n (fun gk s6 wx => ∃ k : Nat, k ≤ n ∧ gk = n - k ∧ s6 = .int .i64 (k : Int) ∧ ((l.take k).any fun x => (x : Int) == code) = false ∧ w1 = wx)
    case atStart => exact ⟨0, Nat.zero_le _, rfl, rfl, rfl, rfl⟩
    case round =>
      obtain ⟨k, hk, rfl, rfl, hN, rfl⟩ := hrel
      have HM := Lib.hid hN
      clear hN
      by_cases hlt : k < n
      · have HK := Lib.hid hlt
        have hkl : k < l.length := by rw [HN.out]; exact hlt
        obtain ⟨x, hx⟩ : ∃ x, l[k]? = some x := ⟨_, List.getElem?_eq_getElem hkl⟩
        have htk : l.take (k + 1) = l.take k ++ [x] := by rw [List.take_add_one, hx]; rfl
        have hce := HC.out k x hx
        have k1 : (k : Int) < (n : Int) := by omega
        by_cases he : (x : Int) = code
        · have HT := Lib.hid (show mayR kind code = true by
            rw [← HE.out, List.any_eq_true]
            exact ⟨x, List.mem_of_getElem? hx, by simpa using he⟩)
          subst he
          clear htk hx hkl
          go_wp2_with fail
          go_ret
          exact ⟨by rw [HT.out]; rfl, LB.out⟩
        · have hb : ((x : Int) == code) = false := by simpa using he
          have HT := Lib.hid (show ((l.take (k + 1)).any fun x => (x : Int) == code) = false by
            rw [htk, List.any_append, HM.out]
            simp [hb])
          clear htk hx hkl
          go_wp2_with fail
          go_roundg (n - (k + 1))
          case measure => have := HK.out; omega
          case rel => exact ⟨k + 1, HK.out, rfl, by go_num, HT.out, rfl⟩
      · obtain rfl : k = n := by omega
        have HT := Lib.hid (show mayR kind code = false by
          rw [← HE.out]
          have := HM.out
          rw [List.take_of_length_le (by rw [HN.out]; omega)] at this
          exact this)
        clear hlt
        go_wp2_with fail
        go_ret
        exact ⟨by rw [HT.out]; rfl, LB.out⟩
theorem may_zero (code : Int) : mayR 0 code = false := by unfold mayR; simp [grp, codesG]
theorem may_16 (code : Int) : mayR 16 code = false := by unfold mayR; simp [grp, codesG]
def digits16 : ByteArray := ⟨#[48, 49, 50, 51, 52, 53, 54, 55, 56, 57, 97, 98, 99, 100, 101, 102]⟩
theorem ext_digit : ∀ x < 16, digits16.extract x (x + 1) = ⟨#[hexD x]⟩ := by decide +kernel
theorem knownTo_17 (code : Int) : knownTo code 17 = knownTo code 16 := by
  rw [knownTo_succ, show mayR ((16 : Nat) : Int) code = false from may_16 code]; simp
set_option maxRecDepth 100000 in
set_option maxHeartbeats 1000000 in
theorem rtext_any (code : Int) (w : World) :
    Calls Tryd.prog 24 #[.int .i64 code] w fun e w' => e = .returned (.string (textS code)) ∧ Below w.heap.size w w' := by
  have MA := Lib.hid (fun (k : Nat) W => rmay_any (k : Int) code W)
  go_enter Tryd.func24, Tryd.ntmps24
  go_wp2_with fail
  go_loopg [3] 15 (fun gk s3 wx => ∃ k : Nat, k ≤ 16 ∧ 1 ≤ k ∧ gk = 16 - k ∧ s3 = .int .i64 (k : Int) ∧ knownTo code k = false ∧ Below w.heap.size w wx)
  case atStart => exact ⟨1, by omega, by omega, rfl, rfl, by rw [knownTo_succ]; exact may_zero code, Below.refl _ _⟩
  case round =>
    obtain ⟨k, hk, hk1, rfl, rfl, hN, hB⟩ := hrel
    have HN := Lib.hid hN
    have HB := Lib.hid hB
    clear hN hB
    by_cases hlt : k < 16
    · have k1 : (k : Int) ≤ 15 := by omega
      have HK := Lib.hid hlt
      have HK1 := Lib.hid hk1
      have MK := Lib.hid (fun W => MA.out k W)
      clear hlt hk1
      cases hc : mayR (k : Int) code
      · rw [hc] at MK
        have HM := Lib.hid (show knownTo code (k + 1) = false by rw [knownTo_succ, HN.out, hc]; rfl)
        clear hc
        go_wp2_with fail
        refine (MK.out _).mono ?_
        rintro e wx ⟨rfl, hb⟩
        have LB := Lib.hid (HB.out.trans (hb.mono HB.out.size))
        clear hb
        go_wp2_with fail
        go_roundg (16 - (k + 1))
        case measure => have := HK.out; omega
        case rel => exact ⟨k + 1, HK.out, by omega, rfl, by go_num, HM.out, LB.out⟩
      · rw [hc] at MK
        have hkn := knownTo_more hc (by have := HK.out; omega)
        obtain ⟨r0, r1⟩ := known_range hkn
        obtain ⟨c, rfl⟩ : ∃ c : Nat, code = (c : Int) := ⟨code.toNat, by omega⟩
        have HX := Lib.hid (show textS (c : Int) = ⟨#[hexD (c / 16)]⟩ ++ ⟨#[hexD (c % 16)]⟩ by
          unfold textS textR; rw [hkn, if_pos rfl]; rfl)
        have E1 := ext_digit (c / 16) (by omega)
        have E2 := ext_digit (c % 16) (by omega)
        obtain ⟨x, hx⟩ : ∃ x, c / 16 = x := ⟨_, rfl⟩
        obtain ⟨y, hy⟩ : ∃ y, c % 16 = y := ⟨_, rfl⟩
        have e1 : (c : Int) / 16 = (x : Int) := by omega
        have e2 : (c : Int) % 16 = (y : Int) := by omega
        have e3 : (c : Int).tdiv 16 = (x : Int) := by rw [← e1]; exact Int.tdiv_eq_ediv_of_nonneg (by omega)
        have e4 : (c : Int).tmod 16 = (y : Int) := by rw [← e2]; exact Int.tmod_eq_emod_of_nonneg (by omega)
        have x1 : (x : Int) < 16 := by omega
        have y1 : (y : Int) < 16 := by omega
        rw [hx] at E1 HX
        rw [hy] at E2 HX
        clear hc hkn hx hy
        generalize hexD x = hX at *
        generalize hexD y = hY at *
        have z1 : (⟨#[hX]⟩ : ByteArray).size = 1 := rfl
        have z2 : (⟨#[hY]⟩ : ByteArray).size = 1 := rfl
        unfold digits16 at E1 E2
        go_wp2_with fail
        refine (MK.out _).mono ?_
        rintro e wx ⟨rfl, hb⟩
        have LB := Lib.hid (HB.out.trans (hb.mono HB.out.size))
        clear hb
        go_wp2_with fail
        go_quiet (fail)
        go_wp2_with fail
        go_ret
        exact ⟨by rw [HX.out]; rfl, below_draws LB.out _⟩
    · obtain rfl : k = 16 := by omega
      have HX := Lib.hid (show textS code = ⟨#[63]⟩ by
        have : knownR code = false := by rw [← HN.out, ← knownTo_17]; rfl
        unfold textS textR; rw [this]; rfl)
      clear hlt hk1
      go_wp2_with fail
      go_ret
      exact ⟨by rw [HX.out]; rfl, HB.out⟩
/-- A slice that reads as a list of numbers. -/
def RowI (W : World) (v : Value) (l : List Nat) : Prop := (l = [] ∧ v = .slice none 0 0) ∨ ∃ g c, v = .slice (some ⟨g, 0, none⟩) l.length c ∧ g < W.heap.size ∧ ∀ (i x : Nat), l[i]? = some x → W.cell? ⟨g, i, none⟩ = some (.int .i64 (x : Int))
theorem RowI.own {W : World} {B : Nat} {v : Value} {l : List Nat} (h : W.ownsRow B 3 1 v l.length (l.map iv)) : RowI W v l := row_cells h
theorem RowI.below {W W' : World} {v : Value} {l : List Nat} (h : RowI W v l) (hb : Below W.heap.size W W') : RowI W' v l := by
  rcases h with h | ⟨g, c, h1, h4, h5⟩
  · exact .inl h
  · exact .inr ⟨g, c, h1, Nat.lt_of_lt_of_le h4 hb.size, fun i x hx => (hb.cell (p := ⟨g, i, none⟩) h4).trans (h5 i x hx)⟩
theorem RowI.lit (W : World) (l : List Nat) (n : Nat) (cs : Array Value) (hn : l.length = n) (hc : cs = (l.map iv).toArray) : RowI (W.alloc (.cells cs 3)) (.slice (some ⟨W.heap.size, 0, none⟩) n n) l := by
  subst hn hc
  refine .inr ⟨_, l.length, rfl, by simp, fun i x hx => ?_⟩
  rw [World.cell?_alloc_at _ _ _ _ rfl]
  simp [hx, iv]
set_option maxRecDepth 100000 in
set_option maxHeartbeats 1000000 in
theorem same_ints (v v' : Value) (l : List Nat) (w : World) (h1 : RowI w v l) (h2 : RowI w v' l) (hl : l.length ≤ 1000) :
    Calls Tryd.prog 10 #[v, v'] w fun e w' => e = .returned (.bool true) ∧ Below w.heap.size w w' := by
  have LB := Lib.hid (Below.refl w.heap.size w)
  rcases h1 with ⟨e1, rfl⟩ | ⟨g, c, rfl, _, hc⟩
  · rcases h2 with ⟨_, rfl⟩ | ⟨g', c', rfl, _, hc'⟩
    · go_enter Tryd.func10, Tryd.ntmps10
      go_wp2_with fail
      go_loopg [5] 0 (fun gk s5 wx => gk = 0 ∧ s5 = .int .i64 0 ∧ w = wx)
      case atStart => exact ⟨rfl, rfl, rfl⟩
      case round =>
        obtain ⟨rfl, rfl, rfl⟩ := hrel
        go_wp2_with fail
        go_ret
        exact ⟨rfl, LB.out⟩
    · subst e1
      go_enter Tryd.func10, Tryd.ntmps10
      go_wp2_with fail
      go_loopg [5] 0 (fun gk s5 wx => gk = 0 ∧ s5 = .int .i64 0 ∧ w = wx)
      case atStart => exact ⟨rfl, rfl, rfl⟩
      case round =>
        obtain ⟨rfl, rfl, rfl⟩ := hrel
        go_wp2_with fail
        go_ret
        exact ⟨rfl, LB.out⟩
  · rcases h2 with ⟨e1, rfl⟩ | ⟨g', c', rfl, _, hc'⟩
    · subst e1
      go_enter Tryd.func10, Tryd.ntmps10
      go_wp2_with fail
      go_loopg [5] 0 (fun gk s5 wx => gk = 0 ∧ s5 = .int .i64 0 ∧ w = wx)
      case atStart => exact ⟨rfl, rfl, rfl⟩
      case round =>
        obtain ⟨rfl, rfl, rfl⟩ := hrel
        go_wp2_with fail
        go_ret
        exact ⟨rfl, LB.out⟩
    · have HC := Lib.hid hc
      have HC' := Lib.hid hc'
      clear hc hc'
      obtain ⟨n, hn⟩ : ∃ n, l.length = n := ⟨_, rfl⟩
      rw [hn] at hl ⊢
      have HN := Lib.hid hn
      have n1 : (n : Int) ≤ 1000 := by omega
      clear hn hl
      go_enter Tryd.func10, Tryd.ntmps10
      go_wp2_with fail
      go_loopg [5] n (fun gk s5 wx => ∃ k : Nat, k ≤ n ∧ gk = n - k ∧ s5 = .int .i64 (k : Int) ∧ ∃ m, wx = w.drewN m)
      case atStart => exact ⟨0, Nat.zero_le _, rfl, rfl, 0, rfl⟩
      case round =>
        obtain ⟨k, hk, rfl, rfl, m, rfl⟩ := hrel
        by_cases hlt : k < n
        · have HK := Lib.hid hlt
          obtain ⟨x, hx⟩ : ∃ x, l[k]? = some x := ⟨_, List.getElem?_eq_getElem (by rw [HN.out]; exact hlt)⟩
          have hc1 := HC.out k x hx
          have hc2 := HC'.out k x hx
          have k0 : (0 : Int) ≤ (k : Int) := by omega
          have k1 : (k : Int) < (n : Int) := by omega
          clear hx
          go_wp2_with fail
          go_quiet (fail)
          go_wp2_with fail
          go_roundg (n - (k + 1))
          case measure => have := HK.out; omega
          case rel => exact ⟨k + 1, HK.out, rfl, by go_num, m + nq, rfl⟩
        · obtain rfl : k = n := by omega
          clear hlt
          go_wp2_with fail
          go_ret
          exact ⟨rfl, below_draws LB.out _⟩
end Go.Proofs.YtonfkaoobajbkaaDoor
