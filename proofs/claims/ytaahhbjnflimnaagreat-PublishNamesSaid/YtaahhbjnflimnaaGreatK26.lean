/-
  The contracts of head.described, head.flagsFit and head.Check. No condition.
  The contract of polyglotkit.Same at whatever two lists of properties. Condition: at most 70,000 elements.
-/
import Derived.Great.BuildSlice
import Derived.Deep.LoopGhost
import Derived.Deep.QuietTactic
import Derived.Test.YtaahhbjnflimnaaGreatK22
import Derived.Test.YtaahhbjnflimnaaGreatK18
namespace Go.Proofs.YtaahhbjnflimnaaGreat
open Go.RowKit

/-- A header as a value. -/
def hdV (h : Hd) : Value := .agg #[.int .i64 h.kind, .int .i64 h.flags, .int .i64 h.length]
/-- The bits of a flag. -/
def bitF (f m : Int) : Int := bits .and .i64 f m
def DesRet (k : Int) (d r : Bool) (q : Int) (w : World) (e : Ending) (w' : World) : Prop :=
  ∃ c : Array Value, e = .returned (.agg c) ∧ c.size = 25 ∧ c[0]? = some (.int .i64 k) ∧ c[1]? = some (.bool d) ∧ c[2]? = some (.bool r) ∧ c[3]? = some (.int .i64 q) ∧ Below w.heap.size w w'
set_option maxRecDepth 100000 in
set_option maxHeartbeats 1000000 in
theorem described_any (h : Hd) (w : World) : Calls Tryz.prog 195 #[hdV h] w (DesRet h.kind (bits .and .i64 h.flags 8 != 0) (bits .and .i64 h.flags 1 != 0) (wrap64 ((bits .and .i64 h.flags 6).tdiv 2)) w) := by
  have hzv := zero_pk
  have HZ := Lib.hid pkZ_size
  have HB := Lib.hid (fun o o' => below_then (below_box (w := w) o) (below_box o'))
  have HN := Lib.hid (fun o o' => heap_alloc2_new w o o')
  have hne : ¬ pkZ = #[] := by intro h; have := pkZ_size; rw [h] at this; cases this
  generalize pkZ = Z at hzv HZ hne
  generalize hD : pkD h.kind (bits .and .i64 h.flags 8 != 0) (bits .and .i64 h.flags 1 != 0) (wrap64 ((bits .and .i64 h.flags 6).tdiv 2)) = D
  have HD := Lib.hid hD
  clear hD
  unfold hdV
  go_enter Tryz.func195, Tryz.ntmps195
  go_wp2_with (first
    | (refine wpList_buildTo rfl 28 _ rfl (some 17) rfl D (by rw [← HD.out]; kernel_rfl) ?_)
    | (refine wpList_store_row rfl _ _ _ rfl (w.heap.size + 1) D rfl rfl 28 _ (HN.out _ _) ?c1 ?c2 ?c3 ?_))
  case c1 => rw [← HD.out]; exact info_pk
  case c2 => rw [HZ.out, ← HD.out]; rfl
  case c3 => rw [← HD.out]; exact pkD_one _ _ _ _
  refine ret_row (cs := D) rfl rfl rfl Tryz.underlying28 rfl (by rw [← HD.out]; exact info_pk) (setRow_heap _ _ _ _ _ _ (HN.out _ _)) ?_
  rw [← HD.out]
  exact ⟨_, rfl, rfl, rfl, rfl, rfl, rfl, belowRow (HB.out _ _) (by omega) _⟩

/-- Which flags a packet can have: those that the packet that they describe has. -/
def fitH (k f : Int) : Bool := (flagsO k (bits .and .i64 f 8 != 0) (bits .and .i64 f 1 != 0) (wrap64 ((bits .and .i64 f 6).tdiv 2))).2 == 0 && (flagsO k (bits .and .i64 f 8 != 0) (bits .and .i64 f 1 != 0) (wrap64 ((bits .and .i64 f 6).tdiv 2))).1 == f
theorem flagsO_range (k : Int) (d r : Bool) (q : Int) : 0 ≤ (flagsO k d r q).1 ∧ (flagsO k d r q).1 ≤ 15 := by
  unfold flagsO
  split
  · exact ⟨by decide, by decide⟩
  split
  · cases h : qosOk d q
    · exact ⟨Int.le_refl 0, show (0 : Int) ≤ 15 by decide⟩
    · rw [if_pos rfl]
      unfold qosOk at h
      simp only [Bool.and_eq_true, decide_eq_true_eq, Bool.not_eq_true'] at h
      obtain ⟨⟨q0, q2⟩, _⟩ := h
      unfold packF
      cases d <;> cases r <;> simp <;> omega
  · exact ⟨by decide, by decide⟩
theorem fit_flags (k f : Int) : fitH k f = flagsH k f := by
  by_cases hf : 0 ≤ f ∧ f ≤ 15
  · have : f = 0 ∨ f = 1 ∨ f = 2 ∨ f = 3 ∨ f = 4 ∨ f = 5 ∨ f = 6 ∨ f = 7 ∨ f = 8 ∨ f = 9 ∨ f = 10 ∨ f = 11 ∨ f = 12 ∨ f = 13 ∨ f = 14 ∨ f = 15 := by omega
    by_cases h3 : k = 3
    · subst h3
      rcases this with rfl | rfl | rfl | rfl | rfl | rfl | rfl | rfl | rfl | rfl | rfl | rfl | rfl | rfl | rfl | rfl <;> decide +kernel
    by_cases h6 : k = 6 ∨ k = 8 ∨ k = 10
    · unfold fitH flagsO flagsH
      rw [if_pos h6, if_neg h3, if_pos h6, beq_self_eq_true, Bool.true_and, Bool.eq_iff_iff, beq_iff_eq, beq_iff_eq]
      exact eq_comm
    · unfold fitH flagsO flagsH
      rw [if_neg h6, if_neg h3, if_neg h3, if_neg h6, beq_self_eq_true, Bool.true_and, Bool.eq_iff_iff, beq_iff_eq, beq_iff_eq]
      exact eq_comm
  · have h1 : fitH k f = false := by
      unfold fitH
      have := flagsO_range k (bits .and .i64 f 8 != 0) (bits .and .i64 f 1 != 0) (wrap64 ((bits .and .i64 f 6).tdiv 2))
      generalize flagsO k (bits .and .i64 f 8 != 0) (bits .and .i64 f 1 != 0) (wrap64 ((bits .and .i64 f 6).tdiv 2)) = z at *
      rw [Bool.and_eq_false_iff]
      right
      rw [beq_eq_false_iff_ne]
      omega
    rw [h1]
    cases h : flagsH k f
    · rfl
    · exact absurd (flags_range h) hf

/-- head.flagsFit. -/
theorem flags_fit_any (h : Hd) (w : World) : Calls Tryz.prog 139 #[hdV h] w fun e w' => e = .returned (.bool (flagsH h.kind h.flags)) ∧ Below w.heap.size w w' := by
  rw [← fit_flags]
  unfold fitH
  have D := Lib.hid (described_any h)
  generalize (bits .and .i64 h.flags 8 != 0) = d at *
  generalize (bits .and .i64 h.flags 1 != 0) = r at *
  generalize (wrap64 ((bits .and .i64 h.flags 6).tdiv 2)) = q at *
  have HB := Lib.hid (fun o => below_box (w := w) o)
  have F := Lib.hid (fun (c : Array Value) (W : World) (hs : c.size = 25) (h0 : c[0]? = some (.int .i64 h.kind)) (h1 : c[1]? = some (.bool d)) (h2 : c[2]? = some (.bool r)) (h3 : c[3]? = some (.int .i64 q)) => flags_of W hs h0 h1 h2 h3)
  generalize flagsO h.kind d r q = z at *
  obtain ⟨k, f, l⟩ := h
  obtain ⟨B, hB⟩ : ∃ B, (z.2 == 0 && z.1 == (⟨k, f, l⟩ : Hd).flags) = B := ⟨_, rfl⟩
  rw [hB]
  have EB := Lib.hid hB
  clear hB
  unfold hdV at *
  go_enter Tryz.func139, Tryz.ntmps139
  go_wp2_with fail
  refine (D.out _).mono ?_
  rintro e w' ⟨c, rfl, hs, h0, h1, h2, h3, hb⟩
  have FF := Lib.hid (F.out c w' hs h0 h1 h2 h3)
  have B2 := Lib.hid (below_then (HB.out _) hb)
  clear hs h0 h1 h2 h3
  obtain ⟨x, y⟩ := z
  have hc := hb.cell (p := ⟨w.heap.size, 1, none⟩) (by simp)
  rw [World.cell?_alloc_at _ _ _ _ rfl] at hc
  have HS := Lib.hid (show w.heap.size < w'.heap.size by have := hb.size; rw [World.size_alloc] at this; omega)
  clear hb
  go_wp2_with fail
  refine (FF.out).mono ?_
  rintro e w2 ⟨rfl, hb⟩
  have B3 := Lib.hid (below_then B2.out hb)
  have hc2 := (hb.cell (p := ⟨w.heap.size, 1, none⟩) HS.out).trans hc
  clear hc hb
  by_cases hy : y = 0
  · subst hy
    have hx : (x == f) = B := EB.out
    have HX := Lib.hid hx
    clear hx
    go_wp2_with fail
    go_ret
    exact ⟨congrArg (fun b => Ending.returned (Value.bool b)) HX.out, B3.out⟩
  · have hy2 : ((y : Int) == 0) = false := by simp; omega
    have hy3 : false = B := by rw [← EB.out]; show false = ((y == 0) && (x == f)); simp [hy]
    have HX := Lib.hid hy3
    clear hy3 hy
    go_wp2_with fail
    go_ret
    exact ⟨congrArg (fun b => Ending.returned (Value.bool b)) HX.out, B3.out⟩

/-- head.Check. -/
theorem hcheck_any (v : Int) (h : Hd) (w : World) : Calls Tryz.prog 79 #[.int .i64 v, hdV h] w fun e w' => e = .returned (.int .i64 (checkH v h : Nat)) ∧ Below w.heap.size w w' := by
  have K := Lib.hid (check_kind v h.kind)
  have F := Lib.hid (flags_fit_any h)
  have S := Lib.hid (size_any h.length)
  have HB := Lib.hid (fun o => below_box (w := w) o)
  by_cases hk : kindE v h.kind = 0
  · rw [hk] at K
    cases hf : flagsH h.kind h.flags
    · have e : checkH v h = 7 := by
        unfold kindE at hk
        unfold checkH
        cases hv : verH v
        · rw [hv] at hk; cases hk
        · cases hv2 : kindH v h.kind
          · rw [hv, hv2] at hk; cases hk
          · rw [hf]; rfl
      rw [e]
      rw [hf] at F
      clear e hf hk
      obtain ⟨k, f, l⟩ := h
      unfold hdV at *
      go_enter Tryz.func79, Tryz.ntmps79
      go_wp2_with fail
      refine (K.out _).mono ?_
      rintro e w' ⟨rfl, rfl⟩
      go_wp2_with fail
      refine (F.out _).mono ?_
      rintro e w' ⟨rfl, hb⟩
      have B2 := Lib.hid (below_then (HB.out _) hb)
      clear hb
      go_wp2_with fail
      go_ret
      exact ⟨rfl, B2.out⟩
    · rw [hf] at F
      have e : checkH v h = if sz h.length = 0 then 2 else 0 := by
        unfold kindE at hk
        unfold checkH
        cases hv : verH v
        · rw [hv] at hk; cases hk
        · cases hv2 : kindH v h.kind
          · rw [hv, hv2] at hk; cases hk
          · rw [hf]
            simp only [Bool.true_eq_false, if_false]
            by_cases hl : h.length < 0 ∨ 268435455 < h.length
            · rw [if_pos hl, if_pos (sz_zero.2 hl)]
            · rw [if_neg hl, if_neg (fun h0 => hl (sz_zero.1 h0))]
      rw [e]
      clear e hf hk
      obtain ⟨k, f, l⟩ := h
      unfold hdV at *
      by_cases h0 : sz l = 0
      · rw [if_pos h0]
        rw [show sz (⟨k, f, l⟩ : Hd).length = sz l from rfl, h0] at S
        clear h0
        go_enter Tryz.func79, Tryz.ntmps79
        go_wp2_with fail
        refine (K.out _).mono ?_
        rintro e w' ⟨rfl, rfl⟩
        go_wp2_with fail
        refine (F.out _).mono ?_
        rintro e w' ⟨rfl, hb⟩
        have B2 := Lib.hid (below_then (HB.out _) hb)
        have hc := hb.cell (p := ⟨w.heap.size, 2, none⟩) (by simp)
        rw [World.cell?_alloc_at _ _ _ _ rfl] at hc
        clear hb
        go_wp2_with fail
        refine (S.out _).mono ?_
        rintro e w' ⟨rfl, rfl⟩
        go_wp2_with fail
        go_ret
        exact ⟨rfl, B2.out⟩
      · rw [if_neg h0]
        have hn : ((sz l : Int) == 0) = false := by simp; omega
        clear h0
        go_enter Tryz.func79, Tryz.ntmps79
        go_wp2_with fail
        refine (K.out _).mono ?_
        rintro e w' ⟨rfl, rfl⟩
        go_wp2_with fail
        refine (F.out _).mono ?_
        rintro e w' ⟨rfl, hb⟩
        have B2 := Lib.hid (below_then (HB.out _) hb)
        have hc := hb.cell (p := ⟨w.heap.size, 2, none⟩) (by simp)
        rw [World.cell?_alloc_at _ _ _ _ rfl] at hc
        clear hb
        go_wp2_with fail
        refine (S.out _).mono ?_
        rintro e w' ⟨rfl, rfl⟩
        go_wp2_with fail
        go_ret
        exact ⟨rfl, B2.out⟩
  · have e : ((checkH v h : Nat) : Int) = kindE v h.kind := by
      unfold kindE at hk ⊢
      unfold checkH
      cases hv : verH v
      · rfl
      · cases hv2 : kindH v h.kind
        · rfl
        · rw [hv, hv2] at hk; exact absurd rfl hk
    rw [e]
    have hn : (kindE v h.kind == 0) = false := by rw [beq_eq_false_iff_ne]; exact hk
    clear e hk F S
    obtain ⟨k, f, l⟩ := h
    unfold hdV at *
    generalize kindE v k = z at *
    go_enter Tryz.func79, Tryz.ntmps79
    go_wp2_with fail
    refine (K.out _).mono ?_
    rintro e w' ⟨rfl, rfl⟩
    go_wp2_with fail
    go_ret
    exact ⟨rfl, HB.out _⟩
end Go.Proofs.YtaahhbjnflimnaaGreat
namespace Go.Proofs.YtaahhbjnflimnaaGreat
open Go.RowKit

set_option maxHeartbeats 2000000 in
set_option maxRecDepth 100000 in
theorem ksame_prop (A B : Option Addr) (na nb c d : Nat) (l m : List Pr) (w : World) (hA : PL w A l) (hB : PL w B m) (hla : l.length = na) (hlb : m.length = nb) (hN : na ≤ 70000) (hM : nb ≤ 70000) :
    Calls Tryz.prog 65 #[.slice A na c, .slice B nb d] w fun e w' => e = .returned (.bool (decide (l = m))) ∧ ∃ k, w' = w.drewN k := by
  by_cases hn : na = nb
  · subst hn
    obtain ⟨D, hD⟩ : ∃ D, decide (l = m) = D := ⟨_, rfl⟩
    rw [hD]
    have HD := Lib.hid hD
    have HA := Lib.hid hA
    have HB := Lib.hid hB
    have HLA := Lib.hid hla
    have HLB := Lib.hid hlb
    have q0 : (na : Int) ≤ 70000 := by omega
    clear hA hB hla hlb hN hM hD
    go_enter Tryz.func65, Tryz.ntmps65
    go_wp2_with fail
    go_loopg [5] na (fun gk i wr => ∃ k x : Nat, k ≤ na ∧ gk = na - k ∧ i = .int .i64 (k : Int) ∧ wr = w.drewN x ∧ ∀ j p q, j < k → l[j]? = some p → m[j]? = some q → p = q)
    case atStart => exact ⟨0, 0, Nat.zero_le _, rfl, rfl, rfl, fun j p q h => by omega⟩
    case round =>
      obtain ⟨k, x, hk, rfl, rfl, rfl, hS⟩ := hrel
      have HS := Lib.hid hS
      by_cases hlt : k < na
      · have hkl : k < l.length := by rw [HLA.out]; exact hlt
        have hkm : k < m.length := by rw [HLB.out]; exact hlt
        obtain ⟨p, hp⟩ : ∃ p, l[k]? = some p := ⟨_, List.getElem?_eq_getElem hkl⟩
        obtain ⟨q, hq⟩ : ∃ q, m[k]? = some q := ⟨_, List.getElem?_eq_getElem hkm⟩
        obtain ⟨ga, ia, rfl, _, a0, a1, a2, a3⟩ := HA.out.at hp
        obtain ⟨gb, ib, rfl, _, b0, b1, b2, b3⟩ := HB.out.at hq
        have HP := Lib.hid hp
        have HQ := Lib.hid hq
        have HL := Lib.hid hlt
        have g1 : (k : Int) < (na : Int) := by omega
        have hno : p ≠ q → D = false := fun h => by
          rw [← HD.out]
          exact decide_eq_false fun e => h (by subst e; exact Option.some.inj (HP.out.symm.trans HQ.out))
        have HNO := Lib.hid hno
        clear hS hkl hkm hp hq hlt hk hno
        rcases pr_differ p q with h | h | ⟨h1, h2⟩ | ⟨h1, h2, h3⟩ | ⟨h1, h2, h3, h4⟩
        · subst h
          generalize p.id = x0 at a0 b0
          generalize ((p.n : Nat) : Int) = x1 at a1 b1
          generalize bs p.text = x2 at a2 b2
          generalize bs p.value = x3 at a3 b3
          go_wp2_with fail
          go_quiet (fail)
          go_wp2_with fail
          go_roundg (na - (k + 1))
          case measure => have := HL.out; omega
          case rel =>
            refine ⟨k + 1, _, by have := HL.out; omega, rfl, by go_num, rfl, fun j u v hj hu hv => ?_⟩
            by_cases hjk : j = k
            · subst hjk
              exact Option.some.inj ((hu.symm.trans HP.out).trans (HQ.out.symm.trans hv))
            · exact HS.out j u v (by omega) hu hv
        · have hD := HNO.out (fun e => by rw [e] at h; simp at h)
          subst hD
          generalize p.id = x0 at *
          generalize ((p.n : Nat) : Int) = x1 at *
          generalize bs p.text = x2 at *
          generalize bs p.value = x3 at *
          generalize q.id = y0 at *
          generalize ((q.n : Nat) : Int) = y1 at *
          generalize bs q.text = y2 at *
          generalize bs q.value = y3 at *
          go_wp2_with fail
          go_quiet (fail)
          go_wp2_with fail
          go_ret
          exact ⟨rfl, _, drewN_two _ _ _⟩
        · have hD := HNO.out (fun e => by rw [e] at h2; simp at h2)
          subst hD
          rw [h1] at a0
          clear h1
          generalize p.id = x0 at *
          generalize ((p.n : Nat) : Int) = x1 at *
          generalize bs p.text = x2 at *
          generalize bs p.value = x3 at *
          generalize q.id = y0 at *
          generalize ((q.n : Nat) : Int) = y1 at *
          generalize bs q.text = y2 at *
          generalize bs q.value = y3 at *
          go_wp2_with fail
          go_quiet (fail)
          go_wp2_with fail
          go_ret
          exact ⟨rfl, _, drewN_two _ _ _⟩
        · have hD := HNO.out (fun e => by rw [e] at h3; simp at h3)
          subst hD
          rw [h1] at a0
          rw [h2] at a1
          clear h1 h2
          generalize p.id = x0 at *
          generalize ((p.n : Nat) : Int) = x1 at *
          generalize bs p.text = x2 at *
          generalize bs p.value = x3 at *
          generalize q.id = y0 at *
          generalize ((q.n : Nat) : Int) = y1 at *
          generalize bs q.text = y2 at *
          generalize bs q.value = y3 at *
          go_wp2_with fail
          go_quiet (fail)
          go_wp2_with fail
          go_ret
          exact ⟨rfl, _, drewN_two _ _ _⟩
        · have hD := HNO.out (fun e => by rw [e] at h4; simp at h4)
          subst hD
          rw [h1] at a0
          rw [h2] at a1
          rw [h3] at a2
          clear h1 h2 h3
          generalize p.id = x0 at *
          generalize ((p.n : Nat) : Int) = x1 at *
          generalize bs p.text = x2 at *
          generalize bs p.value = x3 at *
          generalize q.id = y0 at *
          generalize ((q.n : Nat) : Int) = y1 at *
          generalize bs q.text = y2 at *
          generalize bs q.value = y3 at *
          go_wp2_with fail
          go_quiet (fail)
          go_wp2_with fail
          go_ret
          exact ⟨rfl, _, drewN_two _ _ _⟩
      · obtain rfl : k = na := by omega
        have hD : D = true := by rw [← HD.out]; exact decide_eq_true (lists_eq HLA.out HLB.out hS)
        subst hD
        clear hS hlt hk
        go_wp2_with fail
        go_ret
        exact ⟨rfl, _, rfl⟩
  · have hD : decide (l = m) = false := decide_eq_false fun e => hn (by rw [← hla, ← hlb, e])
    have q0 : ((na : Int) != (nb : Int)) = true := by rw [bne_iff_ne]; omega
    rw [hD]
    clear hA hB hla hlb hN hM hD hn
    go_enter Tryz.func65, Tryz.ntmps65
    go_wp2_with fail
    go_ret
    exact ⟨rfl, 0, rfl⟩
end Go.Proofs.YtaahhbjnflimnaaGreat
