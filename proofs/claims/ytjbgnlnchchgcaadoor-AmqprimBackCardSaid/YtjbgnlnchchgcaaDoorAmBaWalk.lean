/-
  The walk of polyglotlaw16.AmqprimBack. Condition: the value is one that came in; the bytes are no more than an int says.
-/
import Derived.Deep.RegionHeld3
import Derived.Test.YtjbgnlnchchgcaaDoorVaNodes
import Derived.Test.YtjbgnlnchchgcaaDoorAmBaP
namespace Go.Proofs.YtjbgnlnchchgcaaDoor
open Go.RowKit

theorem light_text2 {v : Av} (h : lightV v = true) : v.text.length ≤ 400 := (light_lite h).2.1
/-- A code in its list, and the value in its box. -/
abbrev BaS (w W4 : World) (g j x : Nat) (k : Int) (n : Nat) (s : ByteArray) (X : Value) (W : World) : Prop :=
  W.cell? ⟨g, j, none⟩ = some (.int .i64 (x : Int)) ∧ W.cell? ⟨w.heap.size, 0, none⟩ = some (.int .i64 k) ∧ W.cell? ⟨w.heap.size, 1, none⟩ = some (.int .u64 (n : Nat)) ∧ W.cell? ⟨w.heap.size, 2, none⟩ = some (.string s) ∧ W.cell? ⟨w.heap.size, 3, none⟩ = some X ∧ (VS w k n s X W ∧ g < W4.heap.size ∧ Below W4.heap.size W4 W)
section
variable {w W4 W W' : World} {g j x : Nat} {k : Int} {n : Nat} {s : ByteArray} {X : Value}
theorem BaS.of (h : VS w k n s X W) (hg : g < W4.heap.size) (hb : Below W4.heap.size W4 W) (hc : W.cell? ⟨g, j, none⟩ = some (.int .i64 (x : Int))) : BaS w W4 g j x k n s X W := ⟨hc, h.1, h.2.1, h.2.2.1, h.2.2.2.1, h, hg, hb⟩
theorem BaS.low (h : BaS w W4 g j x k n s X W) : Below W4.heap.size W4 W := h.2.2.2.2.2.2.2
theorem BaS.vs (h : BaS w W4 g j x k n s X W) : VS w k n s X W := h.2.2.2.2.2.1
theorem BaS.call (h : BaS w W4 g j x k n s X W) (hb : Below W.heap.size W W') : BaS w W4 g j x k n s X W' :=
  BaS.of (h.vs.call hb) h.2.2.2.2.2.2.1 (h.low.trans (hb.mono h.low.size)) ((hb.cell (p := ⟨g, j, none⟩) (Nat.lt_of_lt_of_le h.2.2.2.2.2.2.1 h.low.size)).trans h.1)
theorem BaS.draw (h : BaS w W4 g j x k n s X W) : BaS w W4 g j x k n s X W.drew := BaS.of h.vs.draw h.2.2.2.2.2.2.1 h.low.drew h.1
end
/-- What is read back is the same as a value without items. -/
theorem same_back (k : Int) (n : Nat) (t : List UInt8) (A : Option Addr) (cp : Nat) (items : List Av) (q : Nat) (w : World) (hv : VAt q w (.mk k n t A cp items)) (ok : VOk q (.mk k n t A cp items)) (h0 : items.length = 0) (W : World) (hb : Below w.heap.size w W) :
    Calls Tryd.prog 16 #[.agg (vC k n (bs t) (.slice none 0 0)), .agg (vC k n (bs t) (.slice A 0 cp))] W fun e W' => e = .returned (.bool true) ∧ Below W.heap.size W W' := by
  obtain rfl : items = [] := List.eq_nil_of_length_eq_zero h0
  cases q with
  | zero => exact absurd hv (by simp [VAt])
  | succ q =>
    have h := same_any_v (q + 1) (.mk k n t none 0 []) (.mk k n t A cp []) W (vat_flat k n t) (hv.below hb) ⟨ok.1, ok.2.1, ok.2.2.1, by show (0 : Nat) ≤ _; omega, fun _ h => nomatch h⟩
    rw [same_flat] at h
    exact h
theorem bs_size2 (l : List UInt8) : (bs l).size = l.length := by simp [bs, ByteArray.size]
theorem bs_add (a : List UInt8) (s : ByteArray) : bs a ++ s = bs (a ++ s.data.toList) := by rw [← bs_plus]; rfl
set_option maxRecDepth 100000 in
set_option maxHeartbeats 8000000 in
theorem back_off (v : Av) (q : Nat) (s : ByteArray) (code : Int) (w : World) (hv : VAt q w v) (h : lightV v = false ∨ (lightV v = true ∧ 600 < s.size)) : Calls Tryd.prog 5 #[.agg (avC v), .string s, .int .i64 code] w fun e W => e = .returned (.bool true) ∧ Below w.heap.size w W := by
  have LV := Lib.hid (fun W => lives_any W)
  have LI := fun W (hb : Below w.heap.size w W) => light_any v q W (hv.below hb)
  rw [show avC v = vC v.kind v.n (bs v.text) (.slice v.A v.items.length v.cap) from rfl] at LI ⊢
  obtain ⟨b, hbv⟩ : ∃ b, lightV v = b := ⟨_, rfl⟩
  rw [hbv] at LI h
  generalize v.kind = k at *
  generalize v.n = n at *
  generalize v.text = t at *
  generalize v.A = A at *
  generalize v.items.length = m at *
  generalize v.cap = cp at *
  clear hv hbv
  replace LI := Lib.hid LI
  have S0 := Lib.hid (VS.start w k n (bs t) (.slice A m cp))
  have hs : b = true → (600 : Int) < (s.size : Int) := fun e => by
    rcases h with h | h
    · rw [e] at h; cases h
    · omega
  clear h
  cases b
  all_goals
    try have hs1 := hs rfl
    clear hs
    unfold vC at LI ⊢
    go_in
    go_wp2_with fail
    refine (LV.out _).mono ?_
    rintro e W1 ⟨rfl, hb⟩
    have S1 := Lib.hid (S0.out.call hb)
    obtain ⟨c0, c1, c2, c3, -⟩ := S1.out
    clear hb
    go_wp2_with fail
    refine (LI.out _ S1.out.2.2.2.2.1).mono ?_
    rintro e W2 ⟨rfl, hb⟩
    have S2 := Lib.hid (S1.out.call hb)
    clear hb c0 c1 c2 c3
    go_wp2_with fail
    go_ret
    exact ⟨rfl, S2.out.2.2.2.2.1⟩
set_option maxRecDepth 100000 in
set_option maxHeartbeats 8000000 in
theorem back_on (k : Int) (n : Nat) (t : List UInt8) (A : Option Addr) (cp : Nat) (items : List Av) (q : Nat) (s : ByteArray) (code : Int) (w : World) (hv : VAt q w (.mk k n t A cp items)) (ok : VOk q (.mk k n t A cp items)) (hl : lightV (.mk k n t A cp items) = true) (hs : s.size ≤ 600) :
    Calls Tryd.prog 5 #[.agg (vC k n (bs t) (.slice A items.length cp)), .string s, .int .i64 code] w fun e W => e = .returned (.bool true) ∧ Below w.heap.size w W := by
  have LV := Lib.hid (fun W => lives_any W)
  have LI := fun W (hb : Below w.heap.size w W) => light_any (.mk k n t A cp items) q W (hv.below hb)
  rw [show avC (.mk k n t A cp items) = vC k n (bs t) (.slice A items.length cp) from rfl, hl] at LI
  have ht : t.length ≤ 400 := light_text2 hl
  have hn : n < 18446744073709551616 := by
    cases q with
    | zero => exact absurd ok (by simp [VOk])
    | succ q => exact ok.2.1
  have SM := Lib.hid (fun W hb h0 => same_back k n t A cp items q w hv ok h0 W hb)
  generalize items.length = m at *
  have LE := fun W => least_any k n (bs t) A m cp W hn (by rw [bs_size2]; omega)
  have PU := fun (x : Nat) W => aput_any (x : Int) k n (bs t) A m cp W hn (by rw [bs_size2]; omega)
  have FI := fun (x : Nat) W => fits_any (x : Int) k n (bs t) A m cp W hn (by rw [bs_size2]; omega)
  have GE := Lib.hid (fun c (l : List UInt8) W (h : l.length < 4294967296) => aget_any c (bs l) W (by rw [bs_size2]; exact h))
  simp only [show (bs t).data.toList = t from rfl] at LE PU FI
  obtain ⟨v, hvv⟩ : ∃ v, svC k n t m = v := ⟨_, rfl⟩
  rw [hvv] at LE
  simp only [hvv] at PU FI
  have BN := fun i u => back_no (v := v) (i := i) (u := u)
  have BY := fun i u => back_yes (v := v) (i := i) (u := u) (by rw [← hvv]; exact hn)
  have BA := shZ_all (v := v)
  have CDG := fun (i x : Nat) (h : (codeL tabS k)[i]? = some x) => code_get (k := k) h
  have Lk : (codeL tabS k).length = (codesA v.kind).length := by rw [codeL_map, List.length_map, ← hvv]; rfl
  have L40 := codeL_len k 40
  rw [List.take_of_length_le (Nat.le_of_eq tabS_length)] at L40
  rw [← Lk] at BA
  have CD := fun W => codes_any k W
  have hvk : v.kind = k := by rw [← hvv]; rfl
  have hvi : v.items = m := by rw [← hvv]; rfl
  have hvt : v.text = t := by rw [← hvv]; rfl
  have hvn : v.n = n := by rw [← hvv]; rfl
  have PG := fun c l => put_get (c := c) (l := l)
  have PE := fun c l => get_err (c := c) (l := l)
  -- one look-up of the list
  have ST : ∀ (i x : Nat), (codeL tabS k)[i]? = some x → (fitsV (x : Int) v = false ∧ (putV (x : Int) v).2 ≠ 0 ∧ shZ v (i + 1) = shZ v i) ∨ (fitsV (x : Int) v = true ∧ ∃ D : List UInt8, putV (x : Int) v = (D, 0) ∧ (∀ s, getV (x : Int) (D ++ s) = (v, D.length, 0)) ∧ (leastV v).2 = 0 ∧ m = 0 ∧ D.length ≤ 416 ∧
      ((shZ v i = -1 ∧ (leastV v).1 = (x : Int) ∧ shZ v (i + 1) = (D.length : Int)) ∨ (0 ≤ shZ v i ∧ shZ v i ≤ (D.length : Int) ∧ shZ v (i + 1) = shZ v i))) := fun i x hx => by
    obtain ⟨u, hu, rfl⟩ := CDG i x hx
    rw [← hvk] at hu
    cases hf : fitsV (u.code : Int) v
    · exact .inl ⟨rfl, BN i u hu hf⟩
    · obtain ⟨h1, h2, h3, h4, h5, h6⟩ := BY i u hu hf
      exact .inr ⟨rfl, _, h1, h2, h3, by rw [← hvi]; exact h4, by rw [hvt] at h5; omega, h6⟩
  have ST := Lib.hid ST
  have hsh0 := shZ_zero v
  generalize codeL tabS k = L at *
  obtain ⟨N, hN⟩ : ∃ N, L.length = N := ⟨_, rfl⟩
  rw [hN] at BA L40
  have HN := Lib.hid hN
  have n40 : (N : Int) ≤ 40 := by omega
  have hs6 : (s.size : Int) ≤ 600 := by omega
  have HSZ := Lib.hid hs
  obtain ⟨lc, le, hle⟩ : ∃ lc le, leastV v = (lc, le) := ⟨_, _, rfl⟩
  rw [hle] at LE BA ST
  simp only at LE BA ST
  have BA := Lib.hid BA
  replace LI := Lib.hid LI
  replace LE := Lib.hid LE
  replace PU := Lib.hid PU
  replace FI := Lib.hid FI
  replace CD := Lib.hid CD
  replace PG := Lib.hid PG
  replace PE := Lib.hid PE
  have S0 := Lib.hid (VS.start w k n (bs t) (.slice A m cp))
  have HVE := Lib.hid (And.intro hvk (And.intro hvi (And.intro hvt hvn)))
  have HSH := Lib.hid hsh0
  clear hv ok hl hs ht hvv BN BY CDG Lk L40 hvk hvi hvt hvn hN hle hsh0 hn
  unfold vC at LI LE ⊢
  go_in
  go_wp2_with fail
  refine (LV.out _).mono ?_
  rintro e W1 ⟨rfl, hb⟩
  have S1 := Lib.hid (S0.out.call hb)
  obtain ⟨c0, c1, c2, c3, -⟩ := S1.out
  clear hb
  go_wp2_with fail
  refine (LI.out _ S1.out.2.2.2.2.1).mono ?_
  rintro e W2 ⟨rfl, hb⟩
  have S2 := Lib.hid (S1.out.call hb)
  clear hb c0 c1 c2 c3
  obtain ⟨c0, c1, c2, c3, -⟩ := S2.out
  go_wp2_with fail
  refine (LE.out _).mono ?_
  rintro e W3 ⟨rfl, hb⟩
  have S3 := Lib.hid (S2.out.call hb)
  clear hb c0 c1 c2 c3
  obtain ⟨c0, -⟩ := S3.out
  go_wp2_with fail
  refine (CD.out _).mono ?_
  rintro e W4 ⟨y, rfl, hv, hb⟩
  have S4 := Lib.hid (S3.out.call hb)
  clear c0 hb S0 S1 S2 S3
  have hlen : ∃ A cp, y = .slice A N cp ∧ (0 < N → ∃ g, A = some ⟨g, 0, none⟩ ∧ g < W4.heap.size ∧ ∀ (i x : Nat), L[i]? = some x → W4.cell? ⟨g, i, none⟩ = some (.int .i64 (x : Int))) := by
    rcases hv with ⟨h1, h2⟩ | ⟨g, cp, h1, h2, h3⟩
    · have := HN.out; rw [h1] at this
      exact ⟨none, 0, by rw [h2, ← this]; rfl, fun h => by simp at this; omega⟩
    · exact ⟨_, cp, by rw [h1, HN.out], fun _ => ⟨g, rfl, h2, h3⟩⟩
  obtain ⟨A2, cp2, rfl, hcells⟩ := hlen
  have HC := Lib.hid hcells
  clear hcells hv
  go_wp2_with fail
  go_loopg [9, 11] N (fun gk s9 s11 wr => ∃ i : Nat, i ≤ N ∧ gk = N - i ∧ s11 = .int .i64 (i : Nat) ∧ s9 = .int .i64 (shZ v i) ∧ Below W4.heap.size W4 wr)
  case atStart => exact ⟨0, Nat.zero_le _, rfl, rfl, by rw [HSH.out], Below.refl _ _⟩
  case round =>
    obtain ⟨i, hi, rfl, rfl, rfl, hB⟩ := hrel
    by_cases hlt : i < N
    · obtain ⟨x, hx⟩ : ∃ x, L[i]? = some x := ⟨_, List.getElem?_eq_getElem (by rw [HN.out]; exact hlt)⟩
      obtain ⟨g, rfl, hg, hcells⟩ := HC.out (by omega)
      have hS := (BaS.of (S4.out.call hB) hg hB ((hB.cell (p := ⟨g, i, none⟩) hg).trans (hcells i x hx))).draw
      have LW := Lib.hid hB
      have HL := Lib.hid hlt
      have i0 : (i : Int) < (N : Int) := by omega
      rcases ST.out i x hx with ⟨hf, hp, hz⟩ | ⟨hf, D, hp, hg2, hl2, hm2, hD, hz⟩
      · obtain ⟨pb, pe, hpe⟩ : ∃ pb pe, putV (x : Int) v = (pb, pe) := ⟨_, _, rfl⟩
        have P1 := fun W => PU.out x W
        have F1 := fun W => FI.out x W
        rw [hpe] at P1 hp
        rw [hf] at F1
        have e0 : ((pe : Int) == 0) = false := by simp; exact hp
        have e1 : ((pe : Int) != 0) = true := by simp; exact hp
        unfold vC at P1 F1
        replace P1 := Lib.hid P1
        replace F1 := Lib.hid F1
        have HZ := Lib.hid hz
        have HSW := Lib.hid hS
        clear hf hp hz hpe hx hlt hB hcells hS
        obtain ⟨c0, c1, c2, c3, c4, -⟩ := HSW.out
        go_wp2_with fail
        have hS := HSW.out
        clear c0 c1 c2 c3 c4
        go_region_held3 (fun W => BaS w W4 g i x k n (bs t) (.slice A m cp) W) (exact hS)
          (first
            | (go_at_call 15; with_reducible refine (P1.out _).mono ?_; rintro e w1 ⟨rfl, hb⟩; have hS := hS.call hb; clear hb))
        have HS1 := Lib.hid hS
        clear hS
        go_wp2_with fail
        have hS := HS1.out.draw
        go_region_held3 (fun W => BaS w W4 g i x k n (bs t) (.slice A m cp) W) (exact hS)
          (first
            | (go_at_call 20; with_reducible refine (F1.out _).mono ?_; rintro e w1 ⟨rfl, hb⟩; have hS := hS.call hb; clear hb))
        have HS2 := Lib.hid hS
        clear hS HS1
        go_wp2_with fail
        go_roundg (N - (i + 1))
        case measure => have := HL.out; omega
        case rel => exact ⟨i + 1, HL.out, rfl, by go_num, by rw [HZ.out], HS2.out.low⟩
      · subst hm2
        have P1 := fun W => PU.out x W
        have F1 := fun W => FI.out x W
        rw [hp] at P1
        rw [hf] at F1
        have G1 := fun W => GE.out (x : Int) (D ++ s.data.toList) W (by rw [List.length_append]; have := HSZ.out; simp; omega)
        simp only [show ∀ l : List UInt8, (bs l).data.toList = l from fun _ => rfl] at G1
        rw [hg2, ← bs_add] at G1
        unfold GtRet at G1
        simp only at G1
        rw [HVE.out.1, HVE.out.2.2.1, HVE.out.2.2.2] at G1
        have hl0 : ((bs D).size : Int) = (D.length : Int) := by rw [bs_size2]
        have hl9 : ¬ 9223372036854775807 < (bs D).size + s.size := by rw [bs_size2]; have := HSZ.out; omega
        unfold vC at P1 F1 G1
        replace P1 := Lib.hid P1
        replace F1 := Lib.hid F1
        replace G1 := Lib.hid G1
        have HSW := Lib.hid hS
        have HD := Lib.hid hD
        subst hl2
        clear hf hp hx hlt hB hcells hS hg2 hD
        obtain ⟨c0, c1, c2, c3, c4, -⟩ := HSW.out
        rcases hz with ⟨z1, z2, z3⟩ | ⟨z1, z2, z3⟩
        · rw [z1]
          have HZ := Lib.hid z3
          subst z2
          clear z1 z3
          go_wp2_with fail
          have hS := HSW.out
          clear c0 c1 c2 c3 c4
          go_region_held3 (fun W => BaS w W4 g i x k n (bs t) (.slice A 0 cp) W) (exact hS)
            (first
              | (go_at_call 15; with_reducible refine (P1.out _).mono ?_; rintro e w1 ⟨rfl, hb⟩; have hS := hS.call hb; clear hb))
          have HS1 := Lib.hid hS
          clear hS
          go_wp2_with fail
          have hS := HS1.out.draw
          go_region_held3 (fun W => BaS w W4 g i x k n (bs t) (.slice A 0 cp) W) (exact hS)
            (first
              | (go_at_call 20; with_reducible refine (F1.out _).mono ?_; rintro e w1 ⟨rfl, hb⟩; have hS := hS.call hb; clear hb))
          have HS2 := Lib.hid hS
          clear hS HS1
          obtain ⟨c0, c1, c2, c3, c4, -⟩ := HS2.out
          go_wp2_with fail
          refine (G1.out _).mono ?_
          rintro e W6 ⟨rfl, hb⟩
          have HS3 := (HS2.out.call hb).call (below_box (.cells (vC k n (bs t) (.slice none 0 0)) 26))
          have SM1 := SM.out _ HS3.vs.2.2.2.2.1 (by trivial)
          unfold vC at SM1
          replace SM1 := Lib.hid SM1
          have HS4 := Lib.hid HS3
          unfold BaS at HS3
          unfold vC at HS3
          obtain ⟨-, d1, d2, d3, d4, -⟩ := HS3
          clear hb c0 c1 c2 c3 c4
          go_wp2_with fail
          refine SM1.out.mono ?_
          rintro e W7 ⟨rfl, hb⟩
          have HS5 := Lib.hid (HS4.out.call hb)
          clear hb d1 d2 d3 d4
          go_wp2_with fail
          go_roundg (N - (i + 1))
          case measure => have := HL.out; omega
          case rel => exact ⟨i + 1, HL.out, rfl, by go_num, by rw [HZ.out], HS5.out.low⟩
        · obtain ⟨z, hzz⟩ : ∃ z, shZ v i = z := ⟨_, rfl⟩
          rw [hzz] at z1 z2 z3 ⊢
          have HZ := Lib.hid z3
          have z4 : ¬ z < 0 := by omega
          have z5 : ¬ (D.length : Int) < z := by omega
          clear z2 z3 hzz
          go_wp2_with fail
          have hS := HSW.out
          clear c0 c1 c2 c3 c4
          go_region_held3 (fun W => BaS w W4 g i x k n (bs t) (.slice A 0 cp) W) (exact hS)
            (first
              | (go_at_call 15; with_reducible refine (P1.out _).mono ?_; rintro e w1 ⟨rfl, hb⟩; have hS := hS.call hb; clear hb))
          have HS1 := Lib.hid hS
          clear hS
          go_wp2_with fail
          have hS := HS1.out.draw
          go_region_held3 (fun W => BaS w W4 g i x k n (bs t) (.slice A 0 cp) W) (exact hS)
            (first
              | (go_at_call 20; with_reducible refine (F1.out _).mono ?_; rintro e w1 ⟨rfl, hb⟩; have hS := hS.call hb; clear hb))
          have HS2 := Lib.hid hS
          clear hS HS1
          obtain ⟨c0, c1, c2, c3, c4, -⟩ := HS2.out
          go_wp2_with fail
          refine (G1.out _).mono ?_
          rintro e W6 ⟨rfl, hb⟩
          have HS3 := (HS2.out.call hb).call (below_box (.cells (vC k n (bs t) (.slice none 0 0)) 26))
          have SM1 := SM.out _ HS3.vs.2.2.2.2.1 (by trivial)
          unfold vC at SM1
          replace SM1 := Lib.hid SM1
          have HS4 := Lib.hid HS3
          unfold BaS at HS3
          unfold vC at HS3
          obtain ⟨-, d1, d2, d3, d4, -⟩ := HS3
          clear hb c0 c1 c2 c3 c4
          go_wp2_with fail
          refine SM1.out.mono ?_
          rintro e W7 ⟨rfl, hb⟩
          have HS5 := Lib.hid (HS4.out.call hb)
          clear hb d1 d2 d3 d4
          go_wp2_with fail
          go_roundg (N - (i + 1))
          case measure => have := HL.out; omega
          case rel => exact ⟨i + 1, HL.out, rfl, by go_num, by rw [HZ.out], HS5.out.low⟩
    · obtain rfl : i = N := by omega
      have S5 := Lib.hid (S4.out.call hB)
      have GX := fun W => GE.out code s.data.toList W (by have := HSZ.out; simp; omega)
      rw [show bs s.data.toList = s from rfl] at GX
      obtain ⟨r, hr⟩ : ∃ r, getV code s.data.toList = r := ⟨_, rfl⟩
      obtain ⟨v2, n2, e2⟩ := r
      have PG1 := PG.out code s.data.toList
      have PE1 := PE.out code s.data.toList
      rw [hr] at GX PG1 PE1
      simp only at GX PG1 PE1
      unfold GtRet at GX
      have hle2 : (le : Int) = 0 ∧ ¬ shZ v i < 0 ∨ ((le : Int) == 0) = false := by
        by_cases h : le = 0
        · exact .inl ⟨by omega, by have := BA.out h; omega⟩
        · exact .inr (by simp; exact h)
      have HB5 := Lib.hid hB
      generalize shZ v i = z at *
      clear hB hr BA
      by_cases h2 : e2 = 0
      · obtain ⟨q1, q2, q3, q4, -⟩ := PG1 h2
        subst h2
        have hv2 : svC v2.kind v2.n v2.text 0 = v2 := by
          have := (check_v q1).2.2.1
          obtain ⟨_, _, _, it⟩ := v2
          simp only at this
          subst this; rfl
        have ht2 := (check_v q1).2.2.2.2.2
        have P2 := fun W => aput_any code v2.kind v2.n (bs v2.text) none 0 0 W q2 (by rw [bs_size2]; omega)
        have C2 := fun W => check_any v2.kind v2.n (bs v2.text) none 0 0 W q2 (by rw [bs_size2]; omega)
        simp only [show ∀ l : List UInt8, (bs l).data.toList = l from fun _ => rfl, hv2] at P2 C2
        rw [q4, ← ex_take] at P2
        rw [q1] at C2
        have hn0 : (0 : Int) ≤ (n2 : Int) := by omega
        have hn1 : (n2 : Int) ≤ (s.size : Int) := by have : s.data.toList.length = s.size := by simp
                                                     omega
        unfold vC at GX P2 C2
        replace GX := Lib.hid GX
        replace P2 := Lib.hid P2
        replace C2 := Lib.hid C2
        clear PG1 PE1 q1 q2 q3 q4 hv2 ht2
        rcases hle2 with ⟨h1, h3⟩ | h1
        · have h4 : le = 0 := by omega
          subst h4
          clear h1
          go_wp2_with fail
          refine (GX.out _).mono ?_
          rintro e W6 ⟨rfl, hb⟩
          have S6 := Lib.hid ((S5.out.call hb).call (below_box (.cells (vC v2.kind v2.n (bs v2.text) (.slice none 0 0)) 26)))
          have V6 := Lib.hid (VS.start W6 v2.kind v2.n (bs v2.text) (.slice none 0 0))
          clear hb
          go_wp2_with fail
          refine (P2.out _).mono ?_
          rintro e W7 ⟨rfl, hb⟩
          have S7 := Lib.hid (S6.out.call hb)
          have V7 := Lib.hid (V6.out.call hb)
          obtain ⟨d0, d1, d2, d3, -⟩ := V7.out
          clear hb
          go_wp2_with fail
          refine (C2.out _).mono ?_
          rintro e W8 ⟨rfl, hb⟩
          have S8 := Lib.hid (S7.out.call hb)
          clear hb d0 d1 d2 d3
          go_wp2_with fail
          go_ret
          exact ⟨by simp, S8.out.2.2.2.2.1⟩
        · go_wp2_with fail
          refine (GX.out _).mono ?_
          rintro e W6 ⟨rfl, hb⟩
          have S6 := Lib.hid ((S5.out.call hb).call (below_box (.cells (vC v2.kind v2.n (bs v2.text) (.slice none 0 0)) 26)))
          have V6 := Lib.hid (VS.start W6 v2.kind v2.n (bs v2.text) (.slice none 0 0))
          clear hb
          go_wp2_with fail
          refine (P2.out _).mono ?_
          rintro e W7 ⟨rfl, hb⟩
          have S7 := Lib.hid (S6.out.call hb)
          have V7 := Lib.hid (V6.out.call hb)
          obtain ⟨d0, d1, d2, d3, -⟩ := V7.out
          clear hb
          go_wp2_with fail
          refine (C2.out _).mono ?_
          rintro e W8 ⟨rfl, hb⟩
          have S8 := Lib.hid (S7.out.call hb)
          clear hb d0 d1 d2 d3
          go_wp2_with fail
          go_ret
          exact ⟨by simp, S8.out.2.2.2.2.1⟩
      · obtain ⟨-, q1⟩ := PE1 h2
        subst q1
        have e9 : ((e2 : Int) != 0) = true := by simp; exact h2
        unfold vC at GX
        replace GX := Lib.hid GX
        clear PG1 PE1 h2
        rcases hle2 with ⟨h1, h3⟩ | h1
        · have h4 : le = 0 := by omega
          subst h4
          clear h1
          go_wp2_with fail
          refine (GX.out _).mono ?_
          rintro e W6 ⟨rfl, hb⟩
          have S6 := Lib.hid ((S5.out.call hb).call (below_box (.cells (vC v2.kind v2.n (bs v2.text) (.slice none 0 0)) 26)))
          clear hb
          go_wp2_with fail
          go_ret
          exact ⟨rfl, S6.out.2.2.2.2.1⟩
        · go_wp2_with fail
          refine (GX.out _).mono ?_
          rintro e W6 ⟨rfl, hb⟩
          have S6 := Lib.hid ((S5.out.call hb).call (below_box (.cells (vC v2.kind v2.n (bs v2.text) (.slice none 0 0)) 26)))
          clear hb
          go_wp2_with fail
          go_ret
          exact ⟨rfl, S6.out.2.2.2.2.1⟩
theorem back_walk (v : Av) (q : Nat) (s : ByteArray) (code : Int) (w : World) (hv : VAt q w v) (ok : VOk q v) : Calls Tryd.prog 5 #[.agg (avC v), .string s, .int .i64 code] w fun e W => e = .returned (.bool true) ∧ Below w.heap.size w W := by
  cases hl : lightV v
  · exact back_off v q s code w hv (.inl hl)
  · by_cases hs : 600 < s.size
    · exact back_off v q s code w hv (.inr ⟨hl, hs⟩)
    · obtain ⟨k, n, t, A, cp, items⟩ := v
      exact back_on k n t A cp items q s code w hv ok hl (by omega)
end Go.Proofs.YtjbgnlnchchgcaaDoor
