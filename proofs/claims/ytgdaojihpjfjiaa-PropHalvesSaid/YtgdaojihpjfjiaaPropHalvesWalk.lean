/-
  The walk of polyglotlaw05.PropHalves. Condition: strings no longer than memory allows.
-/
import Derived.Test.YtgdaojihpjfjiaaPropGet
import Derived.Test.YtgdaojihpjfjiaaPropKit
import Derived.Test.YtgdaojihpjfjiaaVarRefRead
import Derived.Test.YtgdaojihpjfjiaaPick
namespace Go.Proofs.Ytgdaojihpjfjiaa
open Go.RowKit

/-- A list's bytes without their length. -/
theorem body_of {kind : Int} {l : List Pr} (h : validP kind l = 0) : rdN (bytesP kind l).1 = sz (bodyP l).length ∧ (bytesP kind l).1.drop (sz (bodyP l).length) = bodyP l ∧ (bytesP kind l).2 = 0 ∧ sz (bodyP l).length ≤ (bytesP kind l).1.length ∧ (bytesP kind l).1.length ≤ 268435459 := by
  obtain ⟨h1, h2, h3, h4⟩ := valid_parts h
  have hb : bytesP kind l = (vb (bodyP l).length (sz (bodyP l).length) ++ bodyP l, 0) := by unfold bytesP; rw [if_neg (by simp [h])]
  have hr := rd_of (run_vb _ h4 (bodyP l))
  rw [hb]
  refine ⟨by rw [hr.2.1]; rfl, ?_, rfl, ?_, ?_⟩
  · show (vb _ _ ++ bodyP l).drop _ = _
    rw [List.drop_left' (vb_length _ _)]
  · show _ ≤ (vb _ _ ++ bodyP l).length
    rw [List.length_append, vb_length]; omega
  · show (vb _ _ ++ bodyP l).length ≤ _
    rw [List.length_append, vb_length]
    have := sz_cases (bodyP l).length h4
    omega
theorem from_bs (l : List UInt8) (n : Nat) : (bs l).extract n (bs l).size = bs (l.drop n) := by
  apply ByteArray.ext
  apply Array.toList_inj.1
  exact Lib.extract_to_end (bs l) n
theorem behind_any (l r : List UInt8) (k : Nat) (w : World) (hm : l.length ≤ 1000000000) (hk : k ≤ l.length) (hr : rdN l = k) (hd : l.drop k = r) :
    Calls Try.prog 25 #[.string (bs l)] w fun e w' => e = .returned (.string (bs r)) ∧ ∃ m, w' = w.drewN m := by
  have hs := bs_size l
  have RD := ref_read_any (bs l) w (by omega)
  unfold ReadSame ReadRet at RD
  rw [bs_data, hr] at RD
  have RD := Lib.hid RD
  have g1 : (k : Int) ≤ (((bs l).size : Nat) : Int) := by omega
  have hx := Lib.hid ((from_bs l k).trans (congrArg bs hd))
  generalize bs l = s at *
  clear hm hk hr hd hs
  go_enter Try.func25, Try.ntmps25
  go_wp2_with fail
  refine (RD.out).mono ?_
  rintro e w1 ⟨rfl, rfl⟩
  go_wp2_with fail
  go_ret
  exact ⟨by rw [← hx.out]; rfl, 0, rfl⟩
/-- What is said of the halves. -/
theorem halved_l {kind : Int} {l : List Pr} (h : validP kind l = 0) (k : Nat) :
    validP kind (l.take k) = (if loneP (l.take k) then 9 else 0) ∧ validP kind (l.drop k) = (if loneP (l.drop k) then 9 else 0) ∧ bodyP l = bodyP (l.take k) ++ bodyP (l.drop k) ∧ (loneP (l.take k) = true ∨ loneP (l.drop k) = true → hasP l 22 = true) := by
  have e := List.take_append_drop k l
  refine ⟨?_, ?_, ?_, ?_⟩
  · have := part_valid (kind := kind) (a := l.take k) (b := l.drop k) (c := []) (by rw [List.append_nil, e]; exact h)
    rwa [List.append_nil] at this
  · have := part_valid (kind := kind) (a := []) (b := l.take k) (c := l.drop k) (by rw [List.nil_append, e]; exact h)
    rwa [List.nil_append] at this
  · rw [← bodyP_append, e]
  · intro hh
    have hq : ∀ m : List Pr, loneP m = true → hasP m 22 = true := fun m hm => by
      unfold loneP at hm
      simp at hm; exact hm.1
    have : hasP (l.take k ++ l.drop k) 22 = true := by
      unfold hasP; rw [List.any_append, Bool.or_eq_true]
      exact hh.imp (hq _) (hq _)
    rwa [e] at this
section
variable (kind cut : Int) (A : Option Addr) (n c : Nat) (l : List Pr) (w : World) (k0 : -9223372036854775808 ≤ kind) (k1 : kind ≤ 9223372036854775807) (hl : PL w A l) (hn : l.length = n) (hc : n ≤ c) (hcm : c ≤ 9223372036854775807) (ok : ∀ p ∈ l, PrOk p) (hm : ∀ p ∈ l, p.text.length ≤ 140737488351232 ∧ p.value.length ≤ 140737488351232)
include hl hn hm
theorem halves_dark (h : lightP l = false) :
    Calls Try.prog 8 #[.int .i64 kind, .slice A n c, .int .i64 cut] w fun e w' => e = .returned (.bool true) ∧ Below w.heap.size w w' := by
  have LT := fun W (hb : Below w.heap.size w W) => light_any A n c l W (hl.below hb) hn hm
  rw [h] at LT
  have LT := Lib.hid LT
  clear hl hn hm h
  go_enter Try.func8, Try.ntmps8
  go_wp2_with fail
  refine (lives_prop w).mono ?_
  rintro e w1 ⟨rfl, hb⟩
  go_wp2_with fail
  refine (LT.out _ hb).mono ?_
  rintro e w2 ⟨rfl, m, rfl⟩
  go_wp2_with fail
  go_ret
  exact ⟨rfl, below_draws hb _⟩
include k0 k1 hc ok
theorem halves_bad (h : lightP l = true) (hv : validP kind l ≠ 0) :
    Calls Try.prog 8 #[.int .i64 kind, .slice A n c, .int .i64 cut] w fun e w' => e = .returned (.bool true) ∧ Below w.heap.size w w' := by
  have LT := fun W (hb : Below w.heap.size w W) => light_any A n c l W (hl.below hb) hn hm
  rw [h] at LT
  have LT := Lib.hid LT
  have VL := Lib.hid (fun W (hb : Below w.heap.size w W) => valid_list kind A n c l W k0 k1 (hl.below hb) hn hc ok)
  generalize validP kind l = V at *
  have g1 : ((V : Int) == 0) = false := by simp; omega
  have g2 : ((V : Int) != 0) = true := by simp; omega
  clear hl hn hm h hv hc ok k0 k1
  go_enter Try.func8, Try.ntmps8
  go_wp2_with fail
  refine (lives_prop w).mono ?_
  rintro e w1 ⟨rfl, hb⟩
  go_wp2_with fail
  refine (LT.out _ hb).mono ?_
  rintro e w2 ⟨rfl, m, rfl⟩
  have hb2 := below_draws hb m
  clear hb
  go_wp2_with fail
  refine (VL.out _ hb2).mono ?_
  rintro e w3 ⟨rfl, hb3⟩
  have HB := Lib.hid (hb2.trans (hb3.mono hb2.size))
  clear hb2 hb3
  go_wp2_with fail
  go_ret
  exact ⟨rfl, HB.out⟩
end
theorem PL.addr_drop {W : World} {a : Addr} {l : List Pr} (h : PL W (some a) l) (k : Nat) : PL W (some (a.add (k * 4))) (l.drop k) := by
  by_cases hne : l = []
  · subst hne; rw [List.drop_nil]; exact PL.nil
  · obtain ⟨g, i, e, _⟩ := h.addr hne
    cases e
    have := h.drop k
    rwa [← Addr.add_lit] at this
section
variable (kind cut : Int) (a : Addr) (n c : Nat) (l : List Pr) (w : World) (k0 : -9223372036854775808 ≤ kind) (k1 : kind ≤ 9223372036854775807) (hl : PL w (some a) l) (hn : l.length = n) (hc : n ≤ c) (hcm : c ≤ 9223372036854775807) (ok : ∀ p ∈ l, PrOk p) (hm : ∀ p ∈ l, p.text.length ≤ 140737488351232 ∧ p.value.length ≤ 140737488351232)
include hl hn hm k0 k1 hc hcm ok
set_option maxRecDepth 100000 in
set_option maxHeartbeats 1000000 in
theorem halves_in (k : Nat) (hk : cut % ((n : Int) + 1) = (k : Int)) (hkc : k < c) (h : lightP l = true) (hv : validP kind l = 0) :
    Calls Try.prog 8 #[.int .i64 kind, .slice (some a) n c, .int .i64 cut] w fun e w' => e = .returned (.bool true) ∧ Below w.heap.size w w' := by
  have LT := fun W (hb : Below w.heap.size w W) => light_any (some a) n c l W (hl.below hb) hn hm
  rw [h] at LT
  have LT := Lib.hid LT
  have VL := fun W (hb : Below w.heap.size w W) => valid_list kind (some a) n c l W k0 k1 (hl.below hb) hn hc ok
  rw [hv] at VL
  have VL := Lib.hid VL
  obtain ⟨b1, b2, b3, b4, b5⟩ := body_of hv
  have hn1 : n ≤ 1000 := by have := (valid_parts hv).1; omega
  have hkn : k ≤ n := by have := Int.emod_lt_of_pos cut (show 0 < ((n : Int) + 1) by omega); omega
  have PK := fun W => pick_any cut ((n : Int) + 1) W (by omega) (by omega)
  rw [hk] at PK
  have PK := Lib.hid PK
  obtain ⟨p1, p2, p3, p4⟩ := halved_l hv k
  have AL := fun W (hb : Below w.heap.size w W) => bytes_list kind (some a) n c l W k0 k1 (hl.below hb) hn hc ok
  rw [b3] at AL
  have AL := Lib.hid AL
  have O1 := Lib.hid (fun W (hb : Below w.heap.size w W) => own_props (some a) k c (l.take k) W ((hl.below hb).take k) (by rw [List.length_take]; omega) (by omega))
  have O2 := Lib.hid (fun W (hb : Below w.heap.size w W) => own_props (some (a.add (k * 4))) (n - k) (c - k) (l.drop k) W ((hl.below hb).addr_drop k) (by rw [List.length_drop]; omega) (by omega))
  have q5 : ¬ k = c := by omega
  have B1 := Lib.hid (fun W A' c' (hP : PL W A' (l.take k)) (hcc : k ≤ c') => bytes_list kind A' k c' (l.take k) W k0 k1 hP (by rw [List.length_take]; omega) hcc (fun p hp => ok p (List.mem_of_mem_take hp)))
  have B2 := Lib.hid (fun W A' c' (hP : PL W A' (l.drop k)) (hcc : n - k ≤ c') => bytes_list kind A' (n - k) c' (l.drop k) W k0 k1 hP (by rw [List.length_drop]; omega) hcc (fun p hp => ok p (List.mem_of_mem_drop hp)))
  have GT := Lib.hid (fun W (hb : Below w.heap.size w W) => get_list (some a) n c l 22 W (hl.below hb) hn (by omega))
  have q1 : (k : Int) ≤ (n : Int) := by omega
  have q2 : (k : Int) ≤ (c : Int) := by omega
  have q3 : (n : Int) ≤ (c : Int) := by omega
  have q4 : (c : Int) ≤ 9223372036854775807 := by omega
  have hn1 : (n : Int) ≤ 1000 := by omega
  have T1 := Lib.hid (show (l.take k).length = k by rw [List.length_take]; omega)
  have T2 := Lib.hid (show (l.drop k).length = n - k by rw [List.length_drop]; omega)
  clear h hl hm ok hc hcm hk hn hkn
  have hp2 := p2
  have hp1 := p1
  have main : ∀ (s1 s2 : List UInt8) (e1 e2 : Nat), (bytesP kind (l.take k)) = (s1, e1) → bytesP kind (l.drop k) = (s2, e2) → 
      ((e1 = 0 ∧ e2 = 0 ∧ (∀ W, Calls Try.prog 25 #[.string (bs (bytesP kind l).1)] W fun e w' => e = .returned (.string (bs (bodyP l))) ∧ ∃ m, w' = W.drewN m) ∧ 
          (∀ W, Calls Try.prog 25 #[.string (bs s1)] W fun e w' => e = .returned (.string (bs (bodyP (l.take k)))) ∧ ∃ m, w' = W.drewN m) ∧
          (∀ W, Calls Try.prog 25 #[.string (bs s2)] W fun e w' => e = .returned (.string (bs (bodyP (l.drop k)))) ∧ ∃ m, w' = W.drewN m)) ∨ (hasP l 22 = true ∧ ((e1 = 9 ∧ e2 = 0) ∨ (e1 = 0 ∧ e2 = 9) ∨ (e1 = 9 ∧ e2 = 9)))) →
      Calls Try.prog 8 #[.int .i64 kind, .slice (some a) n c, .int .i64 cut] w fun e w' => e = .returned (.bool true) ∧ Below w.heap.size w w' := by
    intro s1 s2 e1 e2 h1 h2 hcase
    rw [h1] at B1
    rw [h2] at B2
    have B1 := Lib.hid B1.out
    have B2 := Lib.hid B2.out
    have P3 := Lib.hid p3
    have B4 := Lib.hid (valid_parts hv).2.2.2
    generalize (bytesP kind l).1 = S at *
    clear p1 p2 p3 p4 b1 b2 b3 b4 b5 h1 h2 hp1 hp2
    rcases hcase with ⟨rfl, rfl, D0, D1, D2⟩ | ⟨hh, hcase⟩
    · rw [P3.out, ← bs_append] at D0
      have hxx : ¬ 9223372036854775807 < (bs (bodyP (l.take k))).size + (bs (bodyP (l.drop k))).size := by
        rw [bs_size, bs_size, ← List.length_append, ← P3.out]
        have := B4.out
        omega
      generalize bs (bodyP (l.take k)) = x1 at *
      generalize bs (bodyP (l.drop k)) = x2 at *
      have D0 := Lib.hid D0
      have D1 := Lib.hid D1
      have D2 := Lib.hid D2
      go_enter Try.func8, Try.ntmps8
      go_wp2_with fail
      refine (lives_prop w).mono ?_
      rintro e w1 ⟨rfl, hb⟩
      go_wp2_with fail
      refine (LT.out _ hb).mono ?_
      rintro e w2 ⟨rfl, m, rfl⟩
      have hb2 := below_draws hb m
      clear hb
      go_wp2_with fail
      refine (VL.out _ hb2).mono ?_
      rintro e w3 ⟨rfl, hb3⟩
      have HB := Lib.hid (hb2.trans (hb3.mono hb2.size))
      clear hb2 hb3
      go_wp2_with fail
      refine (PK.out _).mono ?_
      rintro e w4 ⟨rfl, rfl⟩
      go_wp2_with fail
      refine (AL.out _ HB.out).mono ?_
      rintro e w5 ⟨rfl, hb5⟩
      have HB := Lib.hid (HB.out.trans (hb5.mono HB.out.size))
      clear hb5
      go_wp2_with fail
      refine (O1.out _ HB.out).mono ?_
      rintro e w6 ⟨v, rfl, ho, hb6⟩
      obtain ⟨A1, c1, rfl, hc1, hP1, _⟩ := PL.owned ho T1.out.symm
      have HB := Lib.hid (HB.out.trans (hb6.mono HB.out.size))
      have BC := Lib.hid (B1.out w6 A1 c1 hP1 hc1)
      clear hb6 ho hP1 hc1
      go_wp2_with fail
      refine (BC.out).mono ?_
      rintro e w7 ⟨rfl, hb7⟩
      have HB := Lib.hid (HB.out.trans (hb7.mono HB.out.size))
      clear hb7
      go_wp2_with fail
      refine (O2.out _ HB.out).mono ?_
      rintro e w8 ⟨v, rfl, ho, hb8⟩
      obtain ⟨A2, c2, rfl, hc2, hP2, _⟩ := PL.owned ho T2.out.symm
      have HB := Lib.hid (HB.out.trans (hb8.mono HB.out.size))
      have BD := Lib.hid (B2.out w8 A2 c2 hP2 hc2)
      clear hb8 ho hP2 hc2
      go_wp2_with fail
      refine (BD.out).mono ?_
      rintro e w9 ⟨rfl, hb9⟩
      have HB := Lib.hid (HB.out.trans (hb9.mono HB.out.size))
      clear hb9
      go_wp2_with fail
      refine (D0.out _).mono ?_
      rintro e w10 ⟨rfl, m1, rfl⟩
      go_wp2_with fail
      refine (D1.out _).mono ?_
      rintro e w11 ⟨rfl, m2, rfl⟩
      go_wp2_with fail
      refine (D2.out _).mono ?_
      rintro e w12 ⟨rfl, m3, rfl⟩
      go_wp2_with fail
      go_ret
      exact ⟨by simp, below_draws HB.out _⟩
    · have hg := getP_has l 22
      rw [hh] at hg
      have GT := GT.out
      rw [hg] at GT
      unfold propV at GT
      generalize (((getP l 22).1.n : Nat) : Int) = z1 at *
      generalize (getP l 22).1.id = z0 at *
      generalize bs (getP l 22).1.text = z2 at *
      generalize bs (getP l 22).1.value = z3 at *
      have GT := Lib.hid GT
      clear hg hh
      rcases hcase with ⟨rfl, rfl⟩ | ⟨rfl, rfl⟩ | ⟨rfl, rfl⟩
      all_goals
        go_enter Try.func8, Try.ntmps8
        go_wp2_with fail
        refine (lives_prop w).mono ?_
        rintro e w1 ⟨rfl, hb⟩
        go_wp2_with fail
        refine (LT.out _ hb).mono ?_
        rintro e w2 ⟨rfl, m, rfl⟩
        have hb2 := below_draws hb m
        clear hb
        go_wp2_with fail
        refine (VL.out _ hb2).mono ?_
        rintro e w3 ⟨rfl, hb3⟩
        have HB := Lib.hid (hb2.trans (hb3.mono hb2.size))
        clear hb2 hb3
        go_wp2_with fail
        refine (PK.out _).mono ?_
        rintro e w4 ⟨rfl, rfl⟩
        go_wp2_with fail
        refine (AL.out _ HB.out).mono ?_
        rintro e w5 ⟨rfl, hb5⟩
        have HB := Lib.hid (HB.out.trans (hb5.mono HB.out.size))
        clear hb5
        go_wp2_with fail
        refine (O1.out _ HB.out).mono ?_
        rintro e w6 ⟨v, rfl, ho, hb6⟩
        obtain ⟨A1, c1, rfl, hc1, hP1, _⟩ := PL.owned ho T1.out.symm
        have HB := Lib.hid (HB.out.trans (hb6.mono HB.out.size))
        have BC := Lib.hid (B1.out w6 A1 c1 hP1 hc1)
        clear hb6 ho hP1 hc1
        go_wp2_with fail
        refine (BC.out).mono ?_
        rintro e w7 ⟨rfl, hb7⟩
        have HB := Lib.hid (HB.out.trans (hb7.mono HB.out.size))
        clear hb7
        go_wp2_with fail
        refine (O2.out _ HB.out).mono ?_
        rintro e w8 ⟨v, rfl, ho, hb8⟩
        obtain ⟨A2, c2, rfl, hc2, hP2, _⟩ := PL.owned ho T2.out.symm
        have HB := Lib.hid (HB.out.trans (hb8.mono HB.out.size))
        have BD := Lib.hid (B2.out w8 A2 c2 hP2 hc2)
        clear hb8 ho hP2 hc2
        go_wp2_with fail
        refine (BD.out).mono ?_
        rintro e w9 ⟨rfl, hb9⟩
        have HB := Lib.hid (HB.out.trans (hb9.mono HB.out.size))
        clear hb9
        go_wp2_with fail
        refine (GT.out _ HB.out).mono ?_
        rintro e w10 ⟨rfl, hb10⟩
        have HB := Lib.hid (HB.out.trans (hb10.mono HB.out.size))
        clear hb10
        go_wp2_with fail
        go_ret
        exact ⟨rfl, HB.out.alloc HB.out.size _⟩
  have T0 : bytesP kind l = ((bytesP kind l).1, 0) := Prod.ext rfl b3
  by_cases f1 : loneP (l.take k) = true
  · rw [if_pos f1] at p1
    have r1 : bytesP kind (l.take k) = ([], 9) := by unfold bytesP; rw [if_pos (by rw [p1]; decide), p1]
    by_cases f2 : loneP (l.drop k) = true
    · rw [if_pos f2] at p2
      have r2 : bytesP kind (l.drop k) = ([], 9) := by unfold bytesP; rw [if_pos (by rw [p2]; decide), p2]
      exact main [] [] 9 9 r1 r2 (.inr ⟨p4 (.inl f1), .inr (.inr ⟨rfl, rfl⟩)⟩)
    · rw [if_neg f2] at p2
      exact main [] (bytesP kind (l.drop k)).1 9 0 r1 (Prod.ext rfl (body_of p2).2.2.1) (.inr ⟨p4 (.inl f1), .inl ⟨rfl, rfl⟩⟩)
  · rw [if_neg f1] at p1
    have B1' := body_of p1
    by_cases f2 : loneP (l.drop k) = true
    · rw [if_pos f2] at p2
      have r2 : bytesP kind (l.drop k) = ([], 9) := by unfold bytesP; rw [if_pos (by rw [p2]; decide), p2]
      exact main (bytesP kind (l.take k)).1 [] 0 9 (Prod.ext rfl B1'.2.2.1) r2 (.inr ⟨p4 (.inr f2), .inr (.inl ⟨rfl, rfl⟩)⟩)
    · rw [if_neg f2] at p2
      have B2' := body_of p2
      exact main (bytesP kind (l.take k)).1 (bytesP kind (l.drop k)).1 0 0 (Prod.ext rfl B1'.2.2.1) (Prod.ext rfl B2'.2.2.1) (.inl ⟨rfl, rfl, fun W => behind_any _ _ _ W (Nat.le_trans b5 (by decide)) b4 b1 b2, fun W => behind_any _ _ _ W (Nat.le_trans B1'.2.2.2.2 (by decide)) B1'.2.2.2.1 B1'.1 B1'.2.1, fun W => behind_any _ _ _ W (Nat.le_trans B2'.2.2.2.2 (by decide)) B2'.2.2.2.1 B2'.1 B2'.2.1⟩)
set_option maxRecDepth 100000 in
set_option maxHeartbeats 1000000 in
theorem halves_end (k : Nat) (hk : cut % ((n : Int) + 1) = (k : Int)) (hkc : k = c) (h : lightP l = true) (hv : validP kind l = 0) :
    Calls Try.prog 8 #[.int .i64 kind, .slice (some a) n c, .int .i64 cut] w fun e w' => e = .returned (.bool true) ∧ Below w.heap.size w w' := by
  have LT := fun W (hb : Below w.heap.size w W) => light_any (some a) n c l W (hl.below hb) hn hm
  rw [h] at LT
  have LT := Lib.hid LT
  have VL := fun W (hb : Below w.heap.size w W) => valid_list kind (some a) n c l W k0 k1 (hl.below hb) hn hc ok
  rw [hv] at VL
  have VL := Lib.hid VL
  obtain ⟨b1, b2, b3, b4, b5⟩ := body_of hv
  have hn1 : n ≤ 1000 := by have := (valid_parts hv).1; omega
  have hkn : k ≤ n := by have := Int.emod_lt_of_pos cut (show 0 < ((n : Int) + 1) by omega); omega
  have PK := fun W => pick_any cut ((n : Int) + 1) W (by omega) (by omega)
  rw [hk] at PK
  have PK := Lib.hid PK
  obtain ⟨p1, p2, p3, p4⟩ := halved_l hv k
  have AL := fun W (hb : Below w.heap.size w W) => bytes_list kind (some a) n c l W k0 k1 (hl.below hb) hn hc ok
  rw [b3] at AL
  have AL := Lib.hid AL
  have O1 := Lib.hid (fun W (hb : Below w.heap.size w W) => own_props (some a) k c (l.take k) W ((hl.below hb).take k) (by rw [List.length_take]; omega) (by omega))
  subst hkc
  have O2 := Lib.hid (fun W (_ : Below w.heap.size w W) => own_props (some a) (n - k) 0 (l.drop k) W (by rw [List.drop_of_length_le (by omega)]; exact PL.nil) (by rw [List.length_drop]; omega) (by omega))
  have B1 := Lib.hid (fun W A' c' (hP : PL W A' (l.take k)) (hcc : k ≤ c') => bytes_list kind A' k c' (l.take k) W k0 k1 hP (by rw [List.length_take]; omega) hcc (fun p hp => ok p (List.mem_of_mem_take hp)))
  have B2 := Lib.hid (fun W A' c' (hP : PL W A' (l.drop k)) (hcc : n - k ≤ c') => bytes_list kind A' (n - k) c' (l.drop k) W k0 k1 hP (by rw [List.length_drop]; omega) hcc (fun p hp => ok p (List.mem_of_mem_drop hp)))
  have GT := Lib.hid (fun W (hb : Below w.heap.size w W) => get_list (some a) n k l 22 W (hl.below hb) hn (by omega))
  have q1 : (k : Int) ≤ (n : Int) := by omega
  have q2 : (k : Int) ≤ (k : Int) := by omega
  have q3 : (n : Int) ≤ (k : Int) := by omega
  have q4 : (k : Int) ≤ 9223372036854775807 := by omega
  have hn1 : (n : Int) ≤ 1000 := by omega
  have T1 := Lib.hid (show (l.take k).length = k by rw [List.length_take]; omega)
  have T2 := Lib.hid (show (l.drop k).length = n - k by rw [List.length_drop]; omega)
  clear h hl hm ok hc hcm hk hn hkn
  have hp2 := p2
  have hp1 := p1
  have main : ∀ (s1 s2 : List UInt8) (e1 e2 : Nat), (bytesP kind (l.take k)) = (s1, e1) → bytesP kind (l.drop k) = (s2, e2) → 
      ((e1 = 0 ∧ e2 = 0 ∧ (∀ W, Calls Try.prog 25 #[.string (bs (bytesP kind l).1)] W fun e w' => e = .returned (.string (bs (bodyP l))) ∧ ∃ m, w' = W.drewN m) ∧ 
          (∀ W, Calls Try.prog 25 #[.string (bs s1)] W fun e w' => e = .returned (.string (bs (bodyP (l.take k)))) ∧ ∃ m, w' = W.drewN m) ∧
          (∀ W, Calls Try.prog 25 #[.string (bs s2)] W fun e w' => e = .returned (.string (bs (bodyP (l.drop k)))) ∧ ∃ m, w' = W.drewN m)) ∨ (hasP l 22 = true ∧ ((e1 = 9 ∧ e2 = 0) ∨ (e1 = 0 ∧ e2 = 9) ∨ (e1 = 9 ∧ e2 = 9)))) →
      Calls Try.prog 8 #[.int .i64 kind, .slice (some a) n k, .int .i64 cut] w fun e w' => e = .returned (.bool true) ∧ Below w.heap.size w w' := by
    intro s1 s2 e1 e2 h1 h2 hcase
    rw [h1] at B1
    rw [h2] at B2
    have B1 := Lib.hid B1.out
    have B2 := Lib.hid B2.out
    have P3 := Lib.hid p3
    have B4 := Lib.hid (valid_parts hv).2.2.2
    generalize (bytesP kind l).1 = S at *
    clear p1 p2 p3 p4 b1 b2 b3 b4 b5 h1 h2 hp1 hp2
    rcases hcase with ⟨rfl, rfl, D0, D1, D2⟩ | ⟨hh, hcase⟩
    · rw [P3.out, ← bs_append] at D0
      have hxx : ¬ 9223372036854775807 < (bs (bodyP (l.take k))).size + (bs (bodyP (l.drop k))).size := by
        rw [bs_size, bs_size, ← List.length_append, ← P3.out]
        have := B4.out
        omega
      generalize bs (bodyP (l.take k)) = x1 at *
      generalize bs (bodyP (l.drop k)) = x2 at *
      have D0 := Lib.hid D0
      have D1 := Lib.hid D1
      have D2 := Lib.hid D2
      go_enter Try.func8, Try.ntmps8
      go_wp2_with fail
      refine (lives_prop w).mono ?_
      rintro e w1 ⟨rfl, hb⟩
      go_wp2_with fail
      refine (LT.out _ hb).mono ?_
      rintro e w2 ⟨rfl, m, rfl⟩
      have hb2 := below_draws hb m
      clear hb
      go_wp2_with fail
      refine (VL.out _ hb2).mono ?_
      rintro e w3 ⟨rfl, hb3⟩
      have HB := Lib.hid (hb2.trans (hb3.mono hb2.size))
      clear hb2 hb3
      go_wp2_with fail
      refine (PK.out _).mono ?_
      rintro e w4 ⟨rfl, rfl⟩
      go_wp2_with fail
      refine (AL.out _ HB.out).mono ?_
      rintro e w5 ⟨rfl, hb5⟩
      have HB := Lib.hid (HB.out.trans (hb5.mono HB.out.size))
      clear hb5
      go_wp2_with fail
      refine (O1.out _ HB.out).mono ?_
      rintro e w6 ⟨v, rfl, ho, hb6⟩
      obtain ⟨A1, c1, rfl, hc1, hP1, _⟩ := PL.owned ho T1.out.symm
      have HB := Lib.hid (HB.out.trans (hb6.mono HB.out.size))
      have BC := Lib.hid (B1.out w6 A1 c1 hP1 hc1)
      clear hb6 ho hP1 hc1
      go_wp2_with fail
      refine (BC.out).mono ?_
      rintro e w7 ⟨rfl, hb7⟩
      have HB := Lib.hid (HB.out.trans (hb7.mono HB.out.size))
      clear hb7
      go_wp2_with fail
      refine (O2.out _ HB.out).mono ?_
      rintro e w8 ⟨v, rfl, ho, hb8⟩
      obtain ⟨A2, c2, rfl, hc2, hP2, _⟩ := PL.owned ho T2.out.symm
      have HB := Lib.hid (HB.out.trans (hb8.mono HB.out.size))
      have BD := Lib.hid (B2.out w8 A2 c2 hP2 hc2)
      clear hb8 ho hP2 hc2
      go_wp2_with fail
      refine (BD.out).mono ?_
      rintro e w9 ⟨rfl, hb9⟩
      have HB := Lib.hid (HB.out.trans (hb9.mono HB.out.size))
      clear hb9
      go_wp2_with fail
      refine (D0.out _).mono ?_
      rintro e w10 ⟨rfl, m1, rfl⟩
      go_wp2_with fail
      refine (D1.out _).mono ?_
      rintro e w11 ⟨rfl, m2, rfl⟩
      go_wp2_with fail
      refine (D2.out _).mono ?_
      rintro e w12 ⟨rfl, m3, rfl⟩
      go_wp2_with fail
      go_ret
      exact ⟨by simp, below_draws HB.out _⟩
    · have hg := getP_has l 22
      rw [hh] at hg
      have GT := GT.out
      rw [hg] at GT
      unfold propV at GT
      generalize (((getP l 22).1.n : Nat) : Int) = z1 at *
      generalize (getP l 22).1.id = z0 at *
      generalize bs (getP l 22).1.text = z2 at *
      generalize bs (getP l 22).1.value = z3 at *
      have GT := Lib.hid GT
      clear hg hh
      rcases hcase with ⟨rfl, rfl⟩ | ⟨rfl, rfl⟩ | ⟨rfl, rfl⟩
      all_goals
        go_enter Try.func8, Try.ntmps8
        go_wp2_with fail
        refine (lives_prop w).mono ?_
        rintro e w1 ⟨rfl, hb⟩
        go_wp2_with fail
        refine (LT.out _ hb).mono ?_
        rintro e w2 ⟨rfl, m, rfl⟩
        have hb2 := below_draws hb m
        clear hb
        go_wp2_with fail
        refine (VL.out _ hb2).mono ?_
        rintro e w3 ⟨rfl, hb3⟩
        have HB := Lib.hid (hb2.trans (hb3.mono hb2.size))
        clear hb2 hb3
        go_wp2_with fail
        refine (PK.out _).mono ?_
        rintro e w4 ⟨rfl, rfl⟩
        go_wp2_with fail
        refine (AL.out _ HB.out).mono ?_
        rintro e w5 ⟨rfl, hb5⟩
        have HB := Lib.hid (HB.out.trans (hb5.mono HB.out.size))
        clear hb5
        go_wp2_with fail
        refine (O1.out _ HB.out).mono ?_
        rintro e w6 ⟨v, rfl, ho, hb6⟩
        obtain ⟨A1, c1, rfl, hc1, hP1, _⟩ := PL.owned ho T1.out.symm
        have HB := Lib.hid (HB.out.trans (hb6.mono HB.out.size))
        have BC := Lib.hid (B1.out w6 A1 c1 hP1 hc1)
        clear hb6 ho hP1 hc1
        go_wp2_with fail
        refine (BC.out).mono ?_
        rintro e w7 ⟨rfl, hb7⟩
        have HB := Lib.hid (HB.out.trans (hb7.mono HB.out.size))
        clear hb7
        go_wp2_with fail
        refine (O2.out _ HB.out).mono ?_
        rintro e w8 ⟨v, rfl, ho, hb8⟩
        obtain ⟨A2, c2, rfl, hc2, hP2, _⟩ := PL.owned ho T2.out.symm
        have HB := Lib.hid (HB.out.trans (hb8.mono HB.out.size))
        have BD := Lib.hid (B2.out w8 A2 c2 hP2 hc2)
        clear hb8 ho hP2 hc2
        go_wp2_with fail
        refine (BD.out).mono ?_
        rintro e w9 ⟨rfl, hb9⟩
        have HB := Lib.hid (HB.out.trans (hb9.mono HB.out.size))
        clear hb9
        go_wp2_with fail
        refine (GT.out _ HB.out).mono ?_
        rintro e w10 ⟨rfl, hb10⟩
        have HB := Lib.hid (HB.out.trans (hb10.mono HB.out.size))
        clear hb10
        go_wp2_with fail
        go_ret
        exact ⟨rfl, HB.out.alloc HB.out.size _⟩
  have T0 : bytesP kind l = ((bytesP kind l).1, 0) := Prod.ext rfl b3
  by_cases f1 : loneP (l.take k) = true
  · rw [if_pos f1] at p1
    have r1 : bytesP kind (l.take k) = ([], 9) := by unfold bytesP; rw [if_pos (by rw [p1]; decide), p1]
    by_cases f2 : loneP (l.drop k) = true
    · rw [if_pos f2] at p2
      have r2 : bytesP kind (l.drop k) = ([], 9) := by unfold bytesP; rw [if_pos (by rw [p2]; decide), p2]
      exact main [] [] 9 9 r1 r2 (.inr ⟨p4 (.inl f1), .inr (.inr ⟨rfl, rfl⟩)⟩)
    · rw [if_neg f2] at p2
      exact main [] (bytesP kind (l.drop k)).1 9 0 r1 (Prod.ext rfl (body_of p2).2.2.1) (.inr ⟨p4 (.inl f1), .inl ⟨rfl, rfl⟩⟩)
  · rw [if_neg f1] at p1
    have B1' := body_of p1
    by_cases f2 : loneP (l.drop k) = true
    · rw [if_pos f2] at p2
      have r2 : bytesP kind (l.drop k) = ([], 9) := by unfold bytesP; rw [if_pos (by rw [p2]; decide), p2]
      exact main (bytesP kind (l.take k)).1 [] 0 9 (Prod.ext rfl B1'.2.2.1) r2 (.inr ⟨p4 (.inr f2), .inr (.inl ⟨rfl, rfl⟩)⟩)
    · rw [if_neg f2] at p2
      have B2' := body_of p2
      exact main (bytesP kind (l.take k)).1 (bytesP kind (l.drop k)).1 0 0 (Prod.ext rfl B1'.2.2.1) (Prod.ext rfl B2'.2.2.1) (.inl ⟨rfl, rfl, fun W => behind_any _ _ _ W (Nat.le_trans b5 (by decide)) b4 b1 b2, fun W => behind_any _ _ _ W (Nat.le_trans B1'.2.2.2.2 (by decide)) B1'.2.2.2.1 B1'.1 B1'.2.1, fun W => behind_any _ _ _ W (Nat.le_trans B2'.2.2.2.2 (by decide)) B2'.2.2.2.1 B2'.1 B2'.2.1⟩)
end
section
variable (kind cut : Int) (n c : Nat) (l : List Pr) (w : World) (k0 : -9223372036854775808 ≤ kind) (k1 : kind ≤ 9223372036854775807) (hl : PL w none l) (hn : l.length = n) (hc : n ≤ c) (hcm : c ≤ 9223372036854775807) (ok : ∀ p ∈ l, PrOk p) (hm : ∀ p ∈ l, p.text.length ≤ 140737488351232 ∧ p.value.length ≤ 140737488351232)
include hl hn hm k0 k1 hc hcm ok
set_option maxRecDepth 100000 in
set_option maxHeartbeats 1000000 in
theorem halves_none (k : Nat) (hk : cut % ((n : Int) + 1) = (k : Int)) (hz : l = []) (h : lightP l = true) (hv : validP kind l = 0) :
    Calls Try.prog 8 #[.int .i64 kind, .slice none n c, .int .i64 cut] w fun e w' => e = .returned (.bool true) ∧ Below w.heap.size w w' := by
  have LT := fun W (hb : Below w.heap.size w W) => light_any none n c l W (hl.below hb) hn hm
  rw [h] at LT
  have LT := Lib.hid LT
  have VL := fun W (hb : Below w.heap.size w W) => valid_list kind none n c l W k0 k1 (hl.below hb) hn hc ok
  rw [hv] at VL
  have VL := Lib.hid VL
  obtain ⟨b1, b2, b3, b4, b5⟩ := body_of hv
  have hn1 : n ≤ 1000 := by have := (valid_parts hv).1; omega
  have hkn : k ≤ n := by have := Int.emod_lt_of_pos cut (show 0 < ((n : Int) + 1) by omega); omega
  have PK := fun W => pick_any cut ((n : Int) + 1) W (by omega) (by omega)
  rw [hk] at PK
  have PK := Lib.hid PK
  obtain ⟨p1, p2, p3, p4⟩ := halved_l hv k
  have AL := fun W (hb : Below w.heap.size w W) => bytes_list kind none n c l W k0 k1 (hl.below hb) hn hc ok
  rw [b3] at AL
  have AL := Lib.hid AL
  have O1 := Lib.hid (fun W (_ : Below w.heap.size w W) => own_props none k c (l.take k) W (by rw [hz, List.take_nil]; exact PL.nil) (by rw [List.length_take]; omega) (by omega))
  have O2 := Lib.hid (fun W (_ : Below w.heap.size w W) => own_props none (n - k) (c - k) (l.drop k) W (by rw [hz, List.drop_nil]; exact PL.nil) (by rw [List.length_drop]; omega) (by omega))
  have B1 := Lib.hid (fun W A' c' (hP : PL W A' (l.take k)) (hcc : k ≤ c') => bytes_list kind A' k c' (l.take k) W k0 k1 hP (by rw [List.length_take]; omega) hcc (fun p hp => ok p (List.mem_of_mem_take hp)))
  have B2 := Lib.hid (fun W A' c' (hP : PL W A' (l.drop k)) (hcc : n - k ≤ c') => bytes_list kind A' (n - k) c' (l.drop k) W k0 k1 hP (by rw [List.length_drop]; omega) hcc (fun p hp => ok p (List.mem_of_mem_drop hp)))
  have GT := Lib.hid (fun W (hb : Below w.heap.size w W) => get_list none n c l 22 W (hl.below hb) hn (by omega))
  have q1 : (k : Int) ≤ (n : Int) := by omega
  have q2 : (k : Int) ≤ (c : Int) := by omega
  have q3 : (n : Int) ≤ (c : Int) := by omega
  have q4 : (c : Int) ≤ 9223372036854775807 := by omega
  have hn1 : (n : Int) ≤ 1000 := by omega
  have T1 := Lib.hid (show (l.take k).length = k by rw [List.length_take]; omega)
  have T2 := Lib.hid (show (l.drop k).length = n - k by rw [List.length_drop]; omega)
  clear h hl hm ok hc hcm hk hn hkn
  have hp2 := p2
  have hp1 := p1
  have main : ∀ (s1 s2 : List UInt8) (e1 e2 : Nat), (bytesP kind (l.take k)) = (s1, e1) → bytesP kind (l.drop k) = (s2, e2) → 
      ((e1 = 0 ∧ e2 = 0 ∧ (∀ W, Calls Try.prog 25 #[.string (bs (bytesP kind l).1)] W fun e w' => e = .returned (.string (bs (bodyP l))) ∧ ∃ m, w' = W.drewN m) ∧ 
          (∀ W, Calls Try.prog 25 #[.string (bs s1)] W fun e w' => e = .returned (.string (bs (bodyP (l.take k)))) ∧ ∃ m, w' = W.drewN m) ∧
          (∀ W, Calls Try.prog 25 #[.string (bs s2)] W fun e w' => e = .returned (.string (bs (bodyP (l.drop k)))) ∧ ∃ m, w' = W.drewN m)) ∨ (hasP l 22 = true ∧ ((e1 = 9 ∧ e2 = 0) ∨ (e1 = 0 ∧ e2 = 9) ∨ (e1 = 9 ∧ e2 = 9)))) →
      Calls Try.prog 8 #[.int .i64 kind, .slice none n c, .int .i64 cut] w fun e w' => e = .returned (.bool true) ∧ Below w.heap.size w w' := by
    intro s1 s2 e1 e2 h1 h2 hcase
    rw [h1] at B1
    rw [h2] at B2
    have B1 := Lib.hid B1.out
    have B2 := Lib.hid B2.out
    have P3 := Lib.hid p3
    have B4 := Lib.hid (valid_parts hv).2.2.2
    generalize (bytesP kind l).1 = S at *
    clear p1 p2 p3 p4 b1 b2 b3 b4 b5 h1 h2 hp1 hp2
    rcases hcase with ⟨rfl, rfl, D0, D1, D2⟩ | ⟨hh, hcase⟩
    · rw [P3.out, ← bs_append] at D0
      have hxx : ¬ 9223372036854775807 < (bs (bodyP (l.take k))).size + (bs (bodyP (l.drop k))).size := by
        rw [bs_size, bs_size, ← List.length_append, ← P3.out]
        have := B4.out
        omega
      generalize bs (bodyP (l.take k)) = x1 at *
      generalize bs (bodyP (l.drop k)) = x2 at *
      have D0 := Lib.hid D0
      have D1 := Lib.hid D1
      have D2 := Lib.hid D2
      go_enter Try.func8, Try.ntmps8
      go_wp2_with fail
      refine (lives_prop w).mono ?_
      rintro e w1 ⟨rfl, hb⟩
      go_wp2_with fail
      refine (LT.out _ hb).mono ?_
      rintro e w2 ⟨rfl, m, rfl⟩
      have hb2 := below_draws hb m
      clear hb
      go_wp2_with fail
      refine (VL.out _ hb2).mono ?_
      rintro e w3 ⟨rfl, hb3⟩
      have HB := Lib.hid (hb2.trans (hb3.mono hb2.size))
      clear hb2 hb3
      go_wp2_with fail
      refine (PK.out _).mono ?_
      rintro e w4 ⟨rfl, rfl⟩
      go_wp2_with fail
      refine (AL.out _ HB.out).mono ?_
      rintro e w5 ⟨rfl, hb5⟩
      have HB := Lib.hid (HB.out.trans (hb5.mono HB.out.size))
      clear hb5
      go_wp2_with fail
      refine (O1.out _ HB.out).mono ?_
      rintro e w6 ⟨v, rfl, ho, hb6⟩
      obtain ⟨A1, c1, rfl, hc1, hP1, _⟩ := PL.owned ho T1.out.symm
      have HB := Lib.hid (HB.out.trans (hb6.mono HB.out.size))
      have BC := Lib.hid (B1.out w6 A1 c1 hP1 hc1)
      clear hb6 ho hP1 hc1
      go_wp2_with fail
      refine (BC.out).mono ?_
      rintro e w7 ⟨rfl, hb7⟩
      have HB := Lib.hid (HB.out.trans (hb7.mono HB.out.size))
      clear hb7
      go_wp2_with fail
      refine (O2.out _ HB.out).mono ?_
      rintro e w8 ⟨v, rfl, ho, hb8⟩
      obtain ⟨A2, c2, rfl, hc2, hP2, _⟩ := PL.owned ho T2.out.symm
      have HB := Lib.hid (HB.out.trans (hb8.mono HB.out.size))
      have BD := Lib.hid (B2.out w8 A2 c2 hP2 hc2)
      clear hb8 ho hP2 hc2
      go_wp2_with fail
      refine (BD.out).mono ?_
      rintro e w9 ⟨rfl, hb9⟩
      have HB := Lib.hid (HB.out.trans (hb9.mono HB.out.size))
      clear hb9
      go_wp2_with fail
      refine (D0.out _).mono ?_
      rintro e w10 ⟨rfl, m1, rfl⟩
      go_wp2_with fail
      refine (D1.out _).mono ?_
      rintro e w11 ⟨rfl, m2, rfl⟩
      go_wp2_with fail
      refine (D2.out _).mono ?_
      rintro e w12 ⟨rfl, m3, rfl⟩
      go_wp2_with fail
      go_ret
      exact ⟨by simp, below_draws HB.out _⟩
    · have hg := getP_has l 22
      rw [hh] at hg
      have GT := GT.out
      rw [hg] at GT
      unfold propV at GT
      generalize (((getP l 22).1.n : Nat) : Int) = z1 at *
      generalize (getP l 22).1.id = z0 at *
      generalize bs (getP l 22).1.text = z2 at *
      generalize bs (getP l 22).1.value = z3 at *
      have GT := Lib.hid GT
      clear hg hh
      rcases hcase with ⟨rfl, rfl⟩ | ⟨rfl, rfl⟩ | ⟨rfl, rfl⟩
      all_goals
        go_enter Try.func8, Try.ntmps8
        go_wp2_with fail
        refine (lives_prop w).mono ?_
        rintro e w1 ⟨rfl, hb⟩
        go_wp2_with fail
        refine (LT.out _ hb).mono ?_
        rintro e w2 ⟨rfl, m, rfl⟩
        have hb2 := below_draws hb m
        clear hb
        go_wp2_with fail
        refine (VL.out _ hb2).mono ?_
        rintro e w3 ⟨rfl, hb3⟩
        have HB := Lib.hid (hb2.trans (hb3.mono hb2.size))
        clear hb2 hb3
        go_wp2_with fail
        refine (PK.out _).mono ?_
        rintro e w4 ⟨rfl, rfl⟩
        go_wp2_with fail
        refine (AL.out _ HB.out).mono ?_
        rintro e w5 ⟨rfl, hb5⟩
        have HB := Lib.hid (HB.out.trans (hb5.mono HB.out.size))
        clear hb5
        go_wp2_with fail
        refine (O1.out _ HB.out).mono ?_
        rintro e w6 ⟨v, rfl, ho, hb6⟩
        obtain ⟨A1, c1, rfl, hc1, hP1, _⟩ := PL.owned ho T1.out.symm
        have HB := Lib.hid (HB.out.trans (hb6.mono HB.out.size))
        have BC := Lib.hid (B1.out w6 A1 c1 hP1 hc1)
        clear hb6 ho hP1 hc1
        go_wp2_with fail
        refine (BC.out).mono ?_
        rintro e w7 ⟨rfl, hb7⟩
        have HB := Lib.hid (HB.out.trans (hb7.mono HB.out.size))
        clear hb7
        go_wp2_with fail
        refine (O2.out _ HB.out).mono ?_
        rintro e w8 ⟨v, rfl, ho, hb8⟩
        obtain ⟨A2, c2, rfl, hc2, hP2, _⟩ := PL.owned ho T2.out.symm
        have HB := Lib.hid (HB.out.trans (hb8.mono HB.out.size))
        have BD := Lib.hid (B2.out w8 A2 c2 hP2 hc2)
        clear hb8 ho hP2 hc2
        go_wp2_with fail
        refine (BD.out).mono ?_
        rintro e w9 ⟨rfl, hb9⟩
        have HB := Lib.hid (HB.out.trans (hb9.mono HB.out.size))
        clear hb9
        go_wp2_with fail
        refine (GT.out _ HB.out).mono ?_
        rintro e w10 ⟨rfl, hb10⟩
        have HB := Lib.hid (HB.out.trans (hb10.mono HB.out.size))
        clear hb10
        go_wp2_with fail
        go_ret
        exact ⟨rfl, HB.out.alloc HB.out.size _⟩
  have T0 : bytesP kind l = ((bytesP kind l).1, 0) := Prod.ext rfl b3
  by_cases f1 : loneP (l.take k) = true
  · rw [if_pos f1] at p1
    have r1 : bytesP kind (l.take k) = ([], 9) := by unfold bytesP; rw [if_pos (by rw [p1]; decide), p1]
    by_cases f2 : loneP (l.drop k) = true
    · rw [if_pos f2] at p2
      have r2 : bytesP kind (l.drop k) = ([], 9) := by unfold bytesP; rw [if_pos (by rw [p2]; decide), p2]
      exact main [] [] 9 9 r1 r2 (.inr ⟨p4 (.inl f1), .inr (.inr ⟨rfl, rfl⟩)⟩)
    · rw [if_neg f2] at p2
      exact main [] (bytesP kind (l.drop k)).1 9 0 r1 (Prod.ext rfl (body_of p2).2.2.1) (.inr ⟨p4 (.inl f1), .inl ⟨rfl, rfl⟩⟩)
  · rw [if_neg f1] at p1
    have B1' := body_of p1
    by_cases f2 : loneP (l.drop k) = true
    · rw [if_pos f2] at p2
      have r2 : bytesP kind (l.drop k) = ([], 9) := by unfold bytesP; rw [if_pos (by rw [p2]; decide), p2]
      exact main (bytesP kind (l.take k)).1 [] 0 9 (Prod.ext rfl B1'.2.2.1) r2 (.inr ⟨p4 (.inr f2), .inr (.inl ⟨rfl, rfl⟩)⟩)
    · rw [if_neg f2] at p2
      have B2' := body_of p2
      exact main (bytesP kind (l.take k)).1 (bytesP kind (l.drop k)).1 0 0 (Prod.ext rfl B1'.2.2.1) (Prod.ext rfl B2'.2.2.1) (.inl ⟨rfl, rfl, fun W => behind_any _ _ _ W (Nat.le_trans b5 (by decide)) b4 b1 b2, fun W => behind_any _ _ _ W (Nat.le_trans B1'.2.2.2.2 (by decide)) B1'.2.2.2.1 B1'.1 B1'.2.1, fun W => behind_any _ _ _ W (Nat.le_trans B2'.2.2.2.2 (by decide)) B2'.2.2.2.1 B2'.1 B2'.2.1⟩)
end
theorem halves_walk (kind cut : Int) (A : Option Addr) (n c : Nat) (l : List Pr) (w : World) (k0 : -9223372036854775808 ≤ kind) (k1 : kind ≤ 9223372036854775807) (hl : PL w A l) (hn : l.length = n) (hc : n ≤ c) (hcm : c ≤ 9223372036854775807) (ok : ∀ p ∈ l, PrOk p) (hm : ∀ p ∈ l, p.text.length ≤ 140737488351232 ∧ p.value.length ≤ 140737488351232) :
    Calls Try.prog 8 #[.int .i64 kind, .slice A n c, .int .i64 cut] w fun e w' => e = .returned (.bool true) ∧ Below w.heap.size w w' := by
  by_cases h : lightP l = true
  · by_cases hv : validP kind l = 0
    · obtain ⟨k, hk⟩ : ∃ k : Nat, cut % ((n : Int) + 1) = (k : Int) := ⟨(cut % ((n : Int) + 1)).toNat, by have := Int.emod_nonneg cut (show ((n : Int) + 1) ≠ 0 by omega); omega⟩
      have hkn : k ≤ n := by have := Int.emod_lt_of_pos cut (show 0 < ((n : Int) + 1) by omega); omega
      cases A with
      | none =>
        have hz : l = [] := Classical.byContradiction fun hne => by obtain ⟨g, i, e, _⟩ := hl.addr hne; cases e
        exact halves_none kind cut n c l w k0 k1 hl hn hc hcm ok hm k hk hz h hv
      | some a =>
        by_cases hkc : k < c
        · exact halves_in kind cut a n c l w k0 k1 hl hn hc hcm ok hm k hk hkc h hv
        · exact halves_end kind cut a n c l w k0 k1 hl hn hc hcm ok hm k hk (by omega) h hv
    · exact halves_bad kind cut A n c l w k0 k1 hl hn hc ok hm h hv
  · exact halves_dark kind cut A n c l w hl hn hm (by simpa using h)
end Go.Proofs.Ytgdaojihpjfjiaa
