/-
  The contracts of polyglotref05.Valid and Bytes. Condition: at most 1,010 properties, with strings of up to 200,000 bytes.
-/
import Derived.Deep.RegionHeld3
import Derived.Deep.LoopGhost
import Derived.Test.YtckdbnndpoleeaaGreatK51
import Derived.Test.YtckdbnndpoleeaaGreatK45
import Derived.Test.YtckdbnndpoleeaaGreatK47
import Derived.Test.YtckdbnndpoleeaaGreatK07
namespace Go.Proofs.YtckdbnndpoleeaaGreat
open Go.RowKit

theorem each_split (kind : Int) (l : List Pr) (k : Nat) (p : Pr) (hp : l[k]? = some p) : eachP kind (l.take k) (l.drop k) = if checkP kind p ≠ 0 then checkP kind p else if twiceP kind (l.take k) p.id then 9 else eachP kind (l.take (k + 1)) (l.drop (k + 1)) := by
  have hk := (List.getElem?_eq_some_iff.1 hp).1
  have hd : l.drop k = p :: l.drop (k + 1) := by
    rw [List.drop_eq_getElem_cons hk]; congr 1
    rw [List.getElem?_eq_getElem hk] at hp; exact Option.some.inj hp
  have ht : l.take (k + 1) = l.take k ++ [p] := by rw [List.take_add_one, hp]; rfl
  rw [hd, ht, eachP]
set_option maxRecDepth 100000 in
set_option maxHeartbeats 2000000 in
theorem ref_valid_list (kind : Int) (A : Option Addr) (n c : Nat) (l : List Pr) (w : World) (hl : PL w A l) (hn : l.length = n) (hc : n ≤ c) (hcm : c ≤ 9223372036854775807) (hN : n ≤ 1010) (ht : ∀ p ∈ l, p.text.length ≤ 200000) :
    Calls Tryz.prog 22 #[.int .i64 kind, .slice A n c] w fun e w' => e = .returned (.int .i64 ((validP kind l : Nat) : Int)) ∧ Below w.heap.size w w' := by
  by_cases h1 : 1000 < n
  · have hV : validP kind l = 4 := by unfold validP; rw [if_pos (by omega)]
    have q1 : (1000 : Int) < (n : Int) := by omega
    rw [hV]
    clear hl hn hc hcm hN ht h1 hV
    go_enter Tryz.func22, Tryz.ntmps22
    go_wp2_with fail
    go_ret
    exact ⟨rfl, Below.refl _ _⟩
  have q1 : ¬ (1000 : Int) < (n : Int) := by omega
  obtain ⟨V, hV⟩ : ∃ V, validP kind l = V := ⟨_, rfl⟩
  have hV2 := hV
  unfold validP at hV2
  rw [if_neg (by omega)] at hV2
  rw [hV]
  have HV := Lib.hid hV2
  have HL := Lib.hid hl
  have HN := Lib.hid hn
  have HT := Lib.hid ht
  have HNN := Lib.hid hN
  have LO := Lib.hid (fun W (hb : Below w.heap.size w W) => ref_lone A n c l W (hl.below hb) hn (by omega))
  have q2 : (n : Int) ≤ (c : Int) := by omega
  have q3 : (c : Int) ≤ 9223372036854775807 := by omega
  have q4 : (n : Int) ≤ 1010 := by omega
  have TW := Lib.hid (fun W (hb : Below w.heap.size w W) k id (hk : k ≤ n) => ref_twice kind A k c (l.take k) id W ((hl.below hb).take k) (by rw [List.length_take]; omega) (by omega))
  clear hl hn hc hcm hN ht h1 hV hV2
  go_enter Tryz.func22, Tryz.ntmps22
  go_wp2_with fail
  go_loopg [5] n (fun gk s5 wx => ∃ k : Nat, k ≤ n ∧ gk = n - k ∧ s5 = .int .i64 (k : Int) ∧ eachP kind (l.take k) (l.drop k) = eachP kind [] l ∧ (∀ j p, j < k → l[j]? = some p → checkP kind p = 0) ∧ Below w.heap.size w wx)
  case atStart => exact ⟨0, Nat.zero_le _, rfl, rfl, rfl, fun j p h => by omega, Below.refl _ _⟩
  case round =>
    obtain ⟨k, hk, rfl, rfl, hE, hC, hB⟩ := hrel
    have HB := Lib.hid hB
    by_cases hlt : k < n
    · have hkl : k < l.length := by rw [HN.out]; exact hlt
      obtain ⟨p, hp⟩ : ∃ p, l[k]? = some p := ⟨_, List.getElem?_eq_getElem hkl⟩
      obtain ⟨g, i, rfl, hg', c0, c1, c2, c3⟩ := (HL.out.below hB).at hp
      rw [each_split kind l k p hp] at hE
      have CK := fun W => ref_check kind p W (HT.out p (List.mem_of_getElem? hp))
      obtain ⟨E, hEE⟩ : ∃ E, checkP kind p = E := ⟨_, rfl⟩
      rw [hEE] at CK hE
      have g1 : (k : Int) < (n : Int) := by omega
      have g2 : (k : Int) ≤ (c : Int) := by omega
      have g3 : (0 : Int) ≤ (k : Int) := by omega
      have MK := Lib.hid (fun W (h : Below w.heap.size w W) => (show W.cell? ⟨g, i + k * 4, none⟩ = some (.int .i64 p.id) ∧ Below w.heap.size w W from by
        obtain ⟨g', i', e', _, d0, d1, d2, d3⟩ := (HL.out.below h).at hp
        cases e'
        exact ⟨d0, h⟩))
      have CK := Lib.hid CK
      have HEE := Lib.hid hEE
      have HLT := Lib.hid hlt
      have HP := Lib.hid hp
      have HC := Lib.hid hC
      unfold propV at CK
      by_cases e0 : E = 0
      · subst e0
        rw [if_neg (by simp)] at hE
        have TW1 := Lib.hid (fun W hb => TW.out W hb k p.id (by omega))
        obtain ⟨b, hb⟩ : ∃ b, twiceP kind (l.take k) p.id = b := ⟨_, rfl⟩
        rw [hb] at hE TW1
        have HE := Lib.hid hE
        clear hE hb hlt hk hp hkl hC hEE hg' hB
        go_wp2_with fail
        refine (CK.out _).mono ?_
        rintro e w1 ⟨rfl, hb⟩
        have hS := MK.out w1.drew (below_draws (HB.out.trans (hb.mono HB.out.size)) 1)
        clear hb c0 c1 c2 c3
        go_wp2_with fail
        go_region_held3 (fun w' => w'.cell? ⟨g, i + k * 4, none⟩ = some (.int .i64 p.id) ∧ Below w.heap.size w w')
          (exact hS)
          (first
            | (go_at_call 39; with_reducible refine (TW1.out _ hS.2).mono ?_; rintro e w2 ⟨rfl, hb⟩; have hS := MK.out _ (hS.2.trans (hb.mono hS.2.size)); clear hb))
        rename_i hHeld
        have HB1 := Lib.hid hS.2
        clear hHeld hS
        cases b with
        | true =>
          have hV := HV.out
          have hE := HE.out
          rw [if_pos rfl] at hE
          rw [← hE, if_pos (by decide)] at hV
          subst hV
          clear hE
          go_wp2_with fail
          go_ret
          exact ⟨rfl, HB1.out⟩
        | false =>
          have hE := HE.out
          rw [if_neg (by decide)] at hE
          have HE2 := Lib.hid hE
          clear hE
          go_wp2_with fail
          go_roundg (n - (k + 1))
          case measure => have := HLT.out; omega
          case rel =>
            refine ⟨k + 1, by have := HLT.out; omega, rfl, by go_num, HE2.out, fun j q hj hq => ?_, HB1.out⟩
            by_cases hjk : j = k
            · subst hjk
              have := hq.symm.trans HP.out
              injection this with this
              rw [this]; exact HEE.out
            · exact HC.out j q (by omega) hq
      · have n0 : (((E : Nat) : Int) != 0) = true := by rw [bne_iff_ne]; omega
        rw [if_pos e0] at hE
        have HE := Lib.hid hE
        have E0 := Lib.hid e0
        clear hE e0 hlt hk hp hkl hC hEE hg' hB
        go_wp2_with fail
        refine (CK.out _).mono ?_
        rintro e w1 ⟨rfl, hb⟩
        have HB1 := Lib.hid (HB.out.trans (hb.mono HB.out.size))
        have hV := HV.out
        rw [← HE.out, if_pos E0.out] at hV
        subst hV
        clear hb c0 c1 c2 c3
        go_wp2_with fail
        go_ret
        exact ⟨rfl, HB1.out⟩
    · obtain rfl : k = n := by omega
      have e1 : l.take k = l := List.take_of_length_le (by rw [HN.out]; omega)
      have e2 : l.drop k = [] := List.drop_of_length_le (by rw [HN.out]; omega)
      rw [e1, e2] at hE
      have h0 : eachP kind [] l = 0 := by rw [← hE]; rfl
      have hV := HV.out
      rw [if_neg (by simp [h0])] at hV
      have ck : ∀ p ∈ l, checkP kind p = 0 := fun p hp => by
        obtain ⟨j, hj⟩ := List.mem_iff_getElem?.1 hp
        exact hC j p (by have := (List.getElem?_eq_some_iff.1 hj).1; rw [HN.out] at this; exact this) hj
      have BO := Lib.hid (fun W (hb : Below w.heap.size w W) => ref_body A k c l W (HL.out.below hb) HN.out HNN.out ck)
      have LO1 := Lib.hid (LO.out wr HB.out)
      cases hlo : loneP l with
      | true =>
        rw [hlo] at LO1
        rw [hlo, if_pos rfl] at hV
        subst hV
        clear hE h0 ck hlo hC hB hlt hk e1 e2 BO
        go_wp2_with fail
        refine (LO1.out).mono ?_
        rintro e w1 ⟨rfl, hb⟩
        have HB1 := Lib.hid (HB.out.trans (hb.mono HB.out.size))
        clear hb
        go_wp2_with fail
        go_ret
        exact ⟨rfl, HB1.out⟩
      | false =>
        rw [hlo] at LO1
        rw [hlo, if_neg (by decide)] at hV
        obtain ⟨z, hz⟩ : ∃ z, (bs (bodyP l)).size = z := ⟨_, rfl⟩
        have hz2 : (bodyP l).length = z := by rw [← hz, bs_size]
        rw [hz2] at hV
        have HVV := Lib.hid hV
        have HZ := Lib.hid hz
        clear hE h0 ck hlo hC hB hlt hk e1 e2 hV hz2
        generalize bs (bodyP l) = x at *
        go_wp2_with fail
        refine (LO1.out).mono ?_
        rintro e w1 ⟨rfl, hb⟩
        have HB1 := Lib.hid (HB.out.trans (hb.mono HB.out.size))
        clear hb
        go_wp2_with fail
        refine (BO.out _ HB1.out).mono ?_
        rintro e w2 ⟨rfl, hb⟩
        have HB2 := Lib.hid (HB1.out.trans (hb.mono HB1.out.size))
        clear hb BO
        subst hz
        by_cases hb : 268435455 < x.size
        · have hV := HVV.out
          rw [if_pos hb] at hV
          subst hV
          have q9 : (268435455 : Int) < (x.size : Int) := by omega
          clear hb
          go_wp2_with fail
          go_ret
          exact ⟨rfl, HB2.out⟩
        · have hV := HVV.out
          rw [if_neg hb] at hV
          subst hV
          have q9 : ¬ (268435455 : Int) < (x.size : Int) := by omega
          clear hb
          go_wp2_with fail
          go_ret
          exact ⟨rfl, HB2.out⟩
set_option maxRecDepth 100000 in
set_option maxHeartbeats 2000000 in
theorem ref_bytes_list (kind : Int) (A : Option Addr) (n c : Nat) (l : List Pr) (w : World) (hl : PL w A l) (hn : l.length = n) (hc : n ≤ c) (hcm : c ≤ 9223372036854775807) (hN : n ≤ 1010) (ht : ∀ p ∈ l, p.text.length ≤ 200000) :
    Calls Tryz.prog 8 #[.int .i64 kind, .slice A n c] w fun e w' => e = .returned (.tuple #[.string (bs (bytesP kind l).1), .int .i64 ((bytesP kind l).2 : Nat)]) ∧ Below w.heap.size w w' := by
  have VA := ref_valid_list kind A n c l w hl hn hc hcm hN ht
  by_cases hv : validP kind l = 0
  · obtain ⟨v1, v2, v3, v4⟩ := valid_parts hv
    have ck : ∀ p ∈ l, checkP kind p = 0 := ((each_good kind l).1 v2).1
    have BO := Lib.hid (fun W (hb : Below w.heap.size w W) => ref_body A n c l W (hl.below hb) hn hN ck)
    have RB := Lib.hid (fun W => ref_bytes_some (bodyP l).length W v4)
    rw [hv] at VA
    have VA := Lib.hid VA
    have hb1 : (bytesP kind l).1 = vb (bodyP l).length (sz (bodyP l).length) ++ bodyP l := by unfold bytesP; rw [if_neg (by simp [hv])]
    have hb2 : (bytesP kind l).2 = 0 := by unfold bytesP; rw [if_neg (by simp [hv])]
    have hsz := sz_cases (bodyP l).length v4
    have hs1 : (bs (bodyP l)).size = (bodyP l).length := bs_size _
    have n1 : ¬ 9223372036854775807 < (bs (vb (bodyP l).length (sz (bodyP l).length))).size + (bs (bodyP l)).size := by rw [bs_size, bs_size, vb_length]; omega
    rw [hb1, hb2, ← bs_append]
    rw [← hs1] at RB n1 ⊢
    generalize bs (vb ((bs (bodyP l)).size : Nat) (sz ((bs (bodyP l)).size : Nat))) = x2 at *
    generalize bs (bodyP l) = x1 at *
    clear hl hn hc hcm hN ht hv v1 v2 v3 v4 ck hb1 hb2 hsz hs1
    go_enter Tryz.func8, Tryz.ntmps8
    go_wp2_with fail
    refine (VA.out).mono ?_
    rintro e w1 ⟨rfl, hb⟩
    have HB := Lib.hid hb
    clear hb
    go_wp2_with fail
    refine (BO.out _ HB.out).mono ?_
    rintro e w2 ⟨rfl, hb⟩
    have HB := Lib.hid (HB.out.trans (hb.mono HB.out.size))
    clear hb
    go_wp2_with fail
    refine (RB.out _).mono ?_
    rintro e w3 ⟨rfl, hb⟩
    have HB := Lib.hid (HB.out.trans (hb.mono HB.out.size))
    clear hb
    go_wp2_with fail
    go_ret2
    exact ⟨rfl, HB.out⟩
  · have hb1 : bytesP kind l = ([], validP kind l) := by unfold bytesP; rw [if_pos hv]
    rw [hb1]
    generalize validP kind l = V at *
    have q1 : (((V : Nat) : Int) != 0) = true := by rw [bne_iff_ne]; omega
    have VA := Lib.hid VA
    clear hl hn hc hcm hN ht hv hb1
    go_enter Tryz.func8, Tryz.ntmps8
    go_wp2_with fail
    refine (VA.out).mono ?_
    rintro e w1 ⟨rfl, hb⟩
    have HB := Lib.hid hb
    clear hb
    go_wp2_with fail
    go_ret2
    exact ⟨rfl, HB.out⟩
end Go.Proofs.YtckdbnndpoleeaaGreat
