/-
  The contracts of polyglotref05.Same, slices.Equal and prop.Same at whatever two lists. Condition: at most 70,000 properties.
-/
import Derived.Deep.LoopGhost
import Derived.Deep.QuietTactic
import Derived.Test.YtckdbnndpoleeaaGreatK30
namespace Go.Proofs.YtckdbnndpoleeaaGreat
open Go.RowKit

theorem drewN_two (w : World) (x y : Nat) : (w.drewN x).drewN y = w.drewN (x + y) := by simp [World.drewN, Nat.add_assoc]
/-- In which field two properties differ. -/
theorem pr_differ (p q : Pr) : p = q ∨ (p.id == q.id) = false ∨ (p.id = q.id ∧ (((p.n : Nat) : Int) == ((q.n : Nat) : Int)) = false) ∨ (p.id = q.id ∧ p.n = q.n ∧ ((bs p.text).toList == (bs q.text).toList) = false) ∨ (p.id = q.id ∧ p.n = q.n ∧ p.text = q.text ∧ ((bs p.value).toList == (bs q.value).toList) = false) := by
  obtain ⟨a, b, c, d⟩ := p
  obtain ⟨a', b', c', d'⟩ := q
  simp only [bs_toList]
  by_cases h1 : a = a'
  · by_cases h2 : b = b'
    · by_cases h3 : c = c'
      · by_cases h4 : d = d'
        · subst h1 h2 h3 h4; exact .inl rfl
        · exact .inr (.inr (.inr (.inr ⟨h1, h2, h3, by rw [beq_eq_false_iff_ne]; exact h4⟩)))
      · exact .inr (.inr (.inr (.inl ⟨h1, h2, by rw [beq_eq_false_iff_ne]; exact h3⟩)))
    · exact .inr (.inr (.inl ⟨h1, by rw [beq_eq_false_iff_ne]; omega⟩))
  · exact .inr (.inl (by rw [beq_eq_false_iff_ne]; exact h1))
theorem lists_eq {l m : List Pr} {n : Nat} (hl : l.length = n) (hm : m.length = n) (h : ∀ j p q, j < n → l[j]? = some p → m[j]? = some q → p = q) : l = m := by
  apply List.ext_getElem?
  intro j
  by_cases hj : j < n
  · rw [List.getElem?_eq_getElem (by omega), List.getElem?_eq_getElem (by omega)]
    exact congrArg some (h j _ _ hj (List.getElem?_eq_getElem (by omega)) (List.getElem?_eq_getElem (by omega)))
  · rw [List.getElem?_eq_none (by omega), List.getElem?_eq_none (by omega)]
set_option maxHeartbeats 2000000 in
set_option maxRecDepth 100000 in
theorem rsame_lists (A B : Option Addr) (na nb c d : Nat) (l m : List Pr) (w : World) (hA : PL w A l) (hB : PL w B m) (hla : l.length = na) (hlb : m.length = nb) (hN : na ≤ 70000) (hM : nb ≤ 70000) :
    Calls Tryz.prog 25 #[.slice A na c, .slice B nb d] w fun e w' => e = .returned (.bool (decide (l = m))) ∧ ∃ k, w' = w.drewN k := by
  by_cases hn : na = nb
  · subst hn
    obtain ⟨D, hD⟩ : ∃ D, decide (l = m) = D := ⟨_, rfl⟩
    rw [hD]
    have HD := Lib.hid hD
    have HA := Lib.hid hA
    have HB := Lib.hid hB
    have HLA := Lib.hid hla
    have HLB := Lib.hid hlb
    have q0 : (na : Int) ≤ 70000 := by omega
    clear hA hB hla hlb hN hM hD
    go_enter Tryz.func25, Tryz.ntmps25
    go_wp2_with fail
    go_loopg [5] na (fun gk i wr => ∃ k x : Nat, k ≤ na ∧ gk = na - k ∧ i = .int .i64 (k : Int) ∧ wr = w.drewN x ∧ ∀ j p q, j < k → l[j]? = some p → m[j]? = some q → p = q)
    case atStart => exact ⟨0, 0, Nat.zero_le _, rfl, rfl, rfl, fun j p q h => by omega⟩
    case round =>
      obtain ⟨k, x, hk, rfl, rfl, rfl, hS⟩ := hrel
      have HS := Lib.hid hS
      by_cases hlt : k < na
      · have hkl : k < l.length := by rw [HLA.out]; exact hlt
        have hkm : k < m.length := by rw [HLB.out]; exact hlt
        obtain ⟨p, hp⟩ : ∃ p, l[k]? = some p := ⟨_, List.getElem?_eq_getElem hkl⟩
        obtain ⟨q, hq⟩ : ∃ q, m[k]? = some q := ⟨_, List.getElem?_eq_getElem hkm⟩
        obtain ⟨ga, ia, rfl, _, a0, a1, a2, a3⟩ := HA.out.at hp
        obtain ⟨gb, ib, rfl, _, b0, b1, b2, b3⟩ := HB.out.at hq
        have HP := Lib.hid hp
        have HQ := Lib.hid hq
        have HL := Lib.hid hlt
        have g1 : (k : Int) < (na : Int) := by omega
        have hno : p ≠ q → D = false := fun h => by
          rw [← HD.out]
          exact decide_eq_false fun e => h (by subst e; exact Option.some.inj (HP.out.symm.trans HQ.out))
        have HNO := Lib.hid hno
        clear hS hkl hkm hp hq hlt hk hno
        rcases pr_differ p q with h | h | ⟨h1, h2⟩ | ⟨h1, h2, h3⟩ | ⟨h1, h2, h3, h4⟩
        · subst h
          generalize p.id = x0 at a0 b0
          generalize ((p.n : Nat) : Int) = x1 at a1 b1
          generalize bs p.text = x2 at a2 b2
          generalize bs p.value = x3 at a3 b3
          go_wp2_with fail
          go_quiet (fail)
          go_wp2_with fail
          go_roundg (na - (k + 1))
          case measure => have := HL.out; omega
          case rel =>
            refine ⟨k + 1, _, by have := HL.out; omega, rfl, by go_num, rfl, fun j u v hj hu hv => ?_⟩
            by_cases hjk : j = k
            · subst hjk
              exact Option.some.inj ((hu.symm.trans HP.out).trans (HQ.out.symm.trans hv))
            · exact HS.out j u v (by omega) hu hv
        · have hD := HNO.out (fun e => by rw [e] at h; simp at h)
          subst hD
          generalize p.id = x0 at *
          generalize ((p.n : Nat) : Int) = x1 at *
          generalize bs p.text = x2 at *
          generalize bs p.value = x3 at *
          generalize q.id = y0 at *
          generalize ((q.n : Nat) : Int) = y1 at *
          generalize bs q.text = y2 at *
          generalize bs q.value = y3 at *
          go_wp2_with fail
          go_quiet (fail)
          go_wp2_with fail
          go_ret
          exact ⟨rfl, _, drewN_two _ _ _⟩
        · have hD := HNO.out (fun e => by rw [e] at h2; simp at h2)
          subst hD
          rw [h1] at a0
          clear h1
          generalize p.id = x0 at *
          generalize ((p.n : Nat) : Int) = x1 at *
          generalize bs p.text = x2 at *
          generalize bs p.value = x3 at *
          generalize q.id = y0 at *
          generalize ((q.n : Nat) : Int) = y1 at *
          generalize bs q.text = y2 at *
          generalize bs q.value = y3 at *
          go_wp2_with fail
          go_quiet (fail)
          go_wp2_with fail
          go_ret
          exact ⟨rfl, _, drewN_two _ _ _⟩
        · have hD := HNO.out (fun e => by rw [e] at h3; simp at h3)
          subst hD
          rw [h1] at a0
          rw [h2] at a1
          clear h1 h2
          generalize p.id = x0 at *
          generalize ((p.n : Nat) : Int) = x1 at *
          generalize bs p.text = x2 at *
          generalize bs p.value = x3 at *
          generalize q.id = y0 at *
          generalize ((q.n : Nat) : Int) = y1 at *
          generalize bs q.text = y2 at *
          generalize bs q.value = y3 at *
          go_wp2_with fail
          go_quiet (fail)
          go_wp2_with fail
          go_ret
          exact ⟨rfl, _, drewN_two _ _ _⟩
        · have hD := HNO.out (fun e => by rw [e] at h4; simp at h4)
          subst hD
          rw [h1] at a0
          rw [h2] at a1
          rw [h3] at a2
          clear h1 h2 h3
          generalize p.id = x0 at *
          generalize ((p.n : Nat) : Int) = x1 at *
          generalize bs p.text = x2 at *
          generalize bs p.value = x3 at *
          generalize q.id = y0 at *
          generalize ((q.n : Nat) : Int) = y1 at *
          generalize bs q.text = y2 at *
          generalize bs q.value = y3 at *
          go_wp2_with fail
          go_quiet (fail)
          go_wp2_with fail
          go_ret
          exact ⟨rfl, _, drewN_two _ _ _⟩
      · obtain rfl : k = na := by omega
        have hD : D = true := by rw [← HD.out]; exact decide_eq_true (lists_eq HLA.out HLB.out hS)
        subst hD
        clear hS hlt hk
        go_wp2_with fail
        go_ret
        exact ⟨rfl, _, rfl⟩
  · have hD : decide (l = m) = false := decide_eq_false fun e => hn (by rw [← hla, ← hlb, e])
    have q0 : ((na : Int) != (nb : Int)) = true := by rw [bne_iff_ne]; omega
    rw [hD]
    clear hA hB hla hlb hN hM hD hn
    go_enter Tryz.func25, Tryz.ntmps25
    go_wp2_with fail
    go_ret
    exact ⟨rfl, 0, rfl⟩
set_option maxHeartbeats 2000000 in
set_option maxRecDepth 100000 in
theorem sequal_lists (A B : Option Addr) (na nb c d : Nat) (l m : List Pr) (w : World) (hA : PL w A l) (hB : PL w B m) (hla : l.length = na) (hlb : m.length = nb) (hN : na ≤ 70000) (hM : nb ≤ 70000) :
    Calls Tryz.prog 48 #[.slice A na c, .slice B nb d] w fun e w' => e = .returned (.bool (decide (l = m))) ∧ ∃ k, w' = w.drewN k := by
  by_cases hn : na = nb
  · subst hn
    obtain ⟨D, hD⟩ : ∃ D, decide (l = m) = D := ⟨_, rfl⟩
    rw [hD]
    have HD := Lib.hid hD
    have HA := Lib.hid hA
    have HB := Lib.hid hB
    have HLA := Lib.hid hla
    have HLB := Lib.hid hlb
    have q0 : (na : Int) ≤ 70000 := by omega
    clear hA hB hla hlb hN hM hD
    go_enter Tryz.func48, Tryz.ntmps48
    go_wp2_with fail
    go_loopg [13] na (fun gk i wr => ∃ k x : Nat, k ≤ na ∧ gk = na - k ∧ i = .int .i64 (k : Int) ∧ wr = w.drewN x ∧ ∀ j p q, j < k → l[j]? = some p → m[j]? = some q → p = q)
    case atStart => exact ⟨0, 0, Nat.zero_le _, rfl, rfl, rfl, fun j p q h => by omega⟩
    case round =>
      obtain ⟨k, x, hk, rfl, rfl, rfl, hS⟩ := hrel
      have HS := Lib.hid hS
      by_cases hlt : k < na
      · have hkl : k < l.length := by rw [HLA.out]; exact hlt
        have hkm : k < m.length := by rw [HLB.out]; exact hlt
        obtain ⟨p, hp⟩ : ∃ p, l[k]? = some p := ⟨_, List.getElem?_eq_getElem hkl⟩
        obtain ⟨q, hq⟩ : ∃ q, m[k]? = some q := ⟨_, List.getElem?_eq_getElem hkm⟩
        obtain ⟨ga, ia, rfl, _, a0, a1, a2, a3⟩ := HA.out.at hp
        obtain ⟨gb, ib, rfl, _, b0, b1, b2, b3⟩ := HB.out.at hq
        have HP := Lib.hid hp
        have HQ := Lib.hid hq
        have HL := Lib.hid hlt
        have g1 : (k : Int) < (na : Int) := by omega
        have hno : p ≠ q → D = false := fun h => by
          rw [← HD.out]
          exact decide_eq_false fun e => h (by subst e; exact Option.some.inj (HP.out.symm.trans HQ.out))
        have HNO := Lib.hid hno
        clear hS hkl hkm hp hq hlt hk hno
        rcases pr_differ p q with h | h | ⟨h1, h2⟩ | ⟨h1, h2, h3⟩ | ⟨h1, h2, h3, h4⟩
        · subst h
          generalize p.id = x0 at a0 b0
          generalize ((p.n : Nat) : Int) = x1 at a1 b1
          generalize bs p.text = x2 at a2 b2
          generalize bs p.value = x3 at a3 b3
          go_wp2_with fail
          go_quiet (fail)
          go_wp2_with fail
          go_roundg (na - (k + 1))
          case measure => have := HL.out; omega
          case rel =>
            refine ⟨k + 1, _, by have := HL.out; omega, rfl, by go_num, rfl, fun j u v hj hu hv => ?_⟩
            by_cases hjk : j = k
            · subst hjk
              exact Option.some.inj ((hu.symm.trans HP.out).trans (HQ.out.symm.trans hv))
            · exact HS.out j u v (by omega) hu hv
        · have hD := HNO.out (fun e => by rw [e] at h; simp at h)
          subst hD
          generalize p.id = x0 at *
          generalize ((p.n : Nat) : Int) = x1 at *
          generalize bs p.text = x2 at *
          generalize bs p.value = x3 at *
          generalize q.id = y0 at *
          generalize ((q.n : Nat) : Int) = y1 at *
          generalize bs q.text = y2 at *
          generalize bs q.value = y3 at *
          go_wp2_with fail
          go_quiet (fail)
          go_wp2_with fail
          go_ret
          exact ⟨rfl, _, drewN_two _ _ _⟩
        · have hD := HNO.out (fun e => by rw [e] at h2; simp at h2)
          subst hD
          rw [h1] at a0
          clear h1
          generalize p.id = x0 at *
          generalize ((p.n : Nat) : Int) = x1 at *
          generalize bs p.text = x2 at *
          generalize bs p.value = x3 at *
          generalize q.id = y0 at *
          generalize ((q.n : Nat) : Int) = y1 at *
          generalize bs q.text = y2 at *
          generalize bs q.value = y3 at *
          go_wp2_with fail
          go_quiet (fail)
          go_wp2_with fail
          go_ret
          exact ⟨rfl, _, drewN_two _ _ _⟩
        · have hD := HNO.out (fun e => by rw [e] at h3; simp at h3)
          subst hD
          rw [h1] at a0
          rw [h2] at a1
          clear h1 h2
          generalize p.id = x0 at *
          generalize ((p.n : Nat) : Int) = x1 at *
          generalize bs p.text = x2 at *
          generalize bs p.value = x3 at *
          generalize q.id = y0 at *
          generalize ((q.n : Nat) : Int) = y1 at *
          generalize bs q.text = y2 at *
          generalize bs q.value = y3 at *
          go_wp2_with fail
          go_quiet (fail)
          go_wp2_with fail
          go_ret
          exact ⟨rfl, _, drewN_two _ _ _⟩
        · have hD := HNO.out (fun e => by rw [e] at h4; simp at h4)
          subst hD
          rw [h1] at a0
          rw [h2] at a1
          rw [h3] at a2
          clear h1 h2 h3
          generalize p.id = x0 at *
          generalize ((p.n : Nat) : Int) = x1 at *
          generalize bs p.text = x2 at *
          generalize bs p.value = x3 at *
          generalize q.id = y0 at *
          generalize ((q.n : Nat) : Int) = y1 at *
          generalize bs q.text = y2 at *
          generalize bs q.value = y3 at *
          go_wp2_with fail
          go_quiet (fail)
          go_wp2_with fail
          go_ret
          exact ⟨rfl, _, drewN_two _ _ _⟩
      · obtain rfl : k = na := by omega
        have hD : D = true := by rw [← HD.out]; exact decide_eq_true (lists_eq HLA.out HLB.out hS)
        subst hD
        clear hS hlt hk
        go_wp2_with fail
        go_ret
        exact ⟨rfl, _, rfl⟩
  · have hD : decide (l = m) = false := decide_eq_false fun e => hn (by rw [← hla, ← hlb, e])
    have q0 : ((na : Int) != (nb : Int)) = true := by rw [bne_iff_ne]; omega
    rw [hD]
    clear hA hB hla hlb hN hM hD hn
    go_enter Tryz.func48, Tryz.ntmps48
    go_wp2_with fail
    go_ret
    exact ⟨rfl, 0, rfl⟩
theorem psame_lists (A B : Option Addr) (na nb c d : Nat) (l m : List Pr) (w : World) (hA : PL w A l) (hB : PL w B m) (hla : l.length = na) (hlb : m.length = nb) (hN : na ≤ 70000) (hM : nb ≤ 70000) :
    Calls Tryz.prog 24 #[.slice A na c, .slice B nb d] w fun e w' => e = .returned (.bool (decide (l = m))) ∧ ∃ k, w' = w.drewN k := by
  have EQ := Lib.hid (sequal_lists A B na nb c d l m w hA hB hla hlb hN hM)
  clear hA hB hla hlb hN hM
  go_enter Tryz.func24, Tryz.ntmps24
  go_wp2_with fail
  refine (EQ.out).mono ?_
  rintro e w1 ⟨rfl, k, rfl⟩
  go_wp2_with fail
  go_ret
  exact ⟨rfl, k, rfl⟩
end Go.Proofs.YtckdbnndpoleeaaGreat
