/-
  The contracts of polyglotref05.Valid and Bytes. Condition: at most 1,010 properties, with strings of up to 200,000 bytes.
  The contracts of the reference's small functions: polyglotref07.Version, Tail, Right; polyglotref08.bit, text, wrong. Condition: at most 1,010 properties, with strings of up to 200,000 bytes.
  The contracts of polyglotref09.Alias and Valid. Condition: RfP; the packet's fields are what their types hold.
  The contract of polyglotref09.Valid. Condition: RuP; the packet's fields are what their types hold.
  The contract of polyglotref09.Body. Condition: RuP; the packet's fields are what their types hold.
-/
import Derived.Deep.RegionHeld3
import Derived.Deep.LoopGhost
import Derived.Deep.DeepCutAuto
import Derived.Test.YtaahhbjnflimnaaGreatK50
import Derived.Test.YtaahhbjnflimnaaGreatK37
import Derived.Test.YtaahhbjnflimnaaGreatK32
import Derived.Test.YtaahhbjnflimnaaGreatK09
import Derived.Test.YtaahhbjnflimnaaGreatK39
import Derived.Test.YtaahhbjnflimnaaGreatK27
import Derived.Test.YtaahhbjnflimnaaGreatK15
import Derived.Test.YtaahhbjnflimnaaGreatK19
namespace Go.Proofs.YtaahhbjnflimnaaGreat
open Go.RowKit

theorem each_split (kind : Int) (l : List Pr) (k : Nat) (p : Pr) (hp : l[k]? = some p) : eachP kind (l.take k) (l.drop k) = if checkP kind p ≠ 0 then checkP kind p else if twiceP kind (l.take k) p.id then 9 else eachP kind (l.take (k + 1)) (l.drop (k + 1)) := by
  have hk := (List.getElem?_eq_some_iff.1 hp).1
  have hd : l.drop k = p :: l.drop (k + 1) := by
    rw [List.drop_eq_getElem_cons hk]; congr 1
    rw [List.getElem?_eq_getElem hk] at hp; exact Option.some.inj hp
  have ht : l.take (k + 1) = l.take k ++ [p] := by rw [List.take_add_one, hp]; rfl
  rw [hd, ht, eachP]
set_option maxRecDepth 100000 in
set_option maxHeartbeats 2000000 in
theorem ref_valid_list (kind : Int) (A : Option Addr) (n c : Nat) (l : List Pr) (w : World) (hl : PL w A l) (hn : l.length = n) (hc : n ≤ c) (hcm : c ≤ 9223372036854775807) (hN : n ≤ 1010) (ht : ∀ p ∈ l, p.text.length ≤ 200000) :
    Calls Tryz.prog 137 #[.int .i64 kind, .slice A n c] w fun e w' => e = .returned (.int .i64 ((validP kind l : Nat) : Int)) ∧ Below w.heap.size w w' := by
  by_cases h1 : 1000 < n
  · have hV : validP kind l = 4 := by unfold validP; rw [if_pos (by omega)]
    have q1 : (1000 : Int) < (n : Int) := by omega
    rw [hV]
    clear hl hn hc hcm hN ht h1 hV
    go_enter Tryz.func137, Tryz.ntmps137
    go_wp2_with fail
    go_ret
    exact ⟨rfl, Below.refl _ _⟩
  have q1 : ¬ (1000 : Int) < (n : Int) := by omega
  obtain ⟨V, hV⟩ : ∃ V, validP kind l = V := ⟨_, rfl⟩
  have hV2 := hV
  unfold validP at hV2
  rw [if_neg (by omega)] at hV2
  rw [hV]
  have HV := Lib.hid hV2
  have HL := Lib.hid hl
  have HN := Lib.hid hn
  have HT := Lib.hid ht
  have HNN := Lib.hid hN
  have LO := Lib.hid (fun W (hb : Below w.heap.size w W) => ref_lone A n c l W (hl.below hb) hn (by omega))
  have q2 : (n : Int) ≤ (c : Int) := by omega
  have q3 : (c : Int) ≤ 9223372036854775807 := by omega
  have q4 : (n : Int) ≤ 1010 := by omega
  have TW := Lib.hid (fun W (hb : Below w.heap.size w W) k id (hk : k ≤ n) => ref_twice kind A k c (l.take k) id W ((hl.below hb).take k) (by rw [List.length_take]; omega) (by omega))
  clear hl hn hc hcm hN ht h1 hV hV2
  go_enter Tryz.func137, Tryz.ntmps137
  go_wp2_with fail
  go_loopg [5] n (fun gk s5 wx => ∃ k : Nat, k ≤ n ∧ gk = n - k ∧ s5 = .int .i64 (k : Int) ∧ eachP kind (l.take k) (l.drop k) = eachP kind [] l ∧ (∀ j p, j < k → l[j]? = some p → checkP kind p = 0) ∧ Below w.heap.size w wx)
  case atStart => exact ⟨0, Nat.zero_le _, rfl, rfl, rfl, fun j p h => by omega, Below.refl _ _⟩
  case round =>
    obtain ⟨k, hk, rfl, rfl, hE, hC, hB⟩ := hrel
    have HB := Lib.hid hB
    by_cases hlt : k < n
    · have hkl : k < l.length := by rw [HN.out]; exact hlt
      obtain ⟨p, hp⟩ : ∃ p, l[k]? = some p := ⟨_, List.getElem?_eq_getElem hkl⟩
      obtain ⟨g, i, rfl, hg', c0, c1, c2, c3⟩ := (HL.out.below hB).at hp
      rw [each_split kind l k p hp] at hE
      have CK := fun W => ref_check kind p W (HT.out p (List.mem_of_getElem? hp))
      obtain ⟨E, hEE⟩ : ∃ E, checkP kind p = E := ⟨_, rfl⟩
      rw [hEE] at CK hE
      have g1 : (k : Int) < (n : Int) := by omega
      have g2 : (k : Int) ≤ (c : Int) := by omega
      have g3 : (0 : Int) ≤ (k : Int) := by omega
      have MK := Lib.hid (fun W (h : Below w.heap.size w W) => (show W.cell? ⟨g, i + k * 4, none⟩ = some (.int .i64 p.id) ∧ Below w.heap.size w W from by
        obtain ⟨g', i', e', _, d0, d1, d2, d3⟩ := (HL.out.below h).at hp
        cases e'
        exact ⟨d0, h⟩))
      have CK := Lib.hid CK
      have HEE := Lib.hid hEE
      have HLT := Lib.hid hlt
      have HP := Lib.hid hp
      have HC := Lib.hid hC
      unfold propV at CK
      by_cases e0 : E = 0
      · subst e0
        rw [if_neg (by simp)] at hE
        have TW1 := Lib.hid (fun W hb => TW.out W hb k p.id (by omega))
        obtain ⟨b, hb⟩ : ∃ b, twiceP kind (l.take k) p.id = b := ⟨_, rfl⟩
        rw [hb] at hE TW1
        have HE := Lib.hid hE
        clear hE hb hlt hk hp hkl hC hEE hg' hB
        go_wp2_with fail
        refine (CK.out _).mono ?_
        rintro e w1 ⟨rfl, hb⟩
        have hS := MK.out w1.drew (below_draws (HB.out.trans (hb.mono HB.out.size)) 1)
        clear hb c0 c1 c2 c3
        go_wp2_with fail
        go_region_held3 (fun w' => w'.cell? ⟨g, i + k * 4, none⟩ = some (.int .i64 p.id) ∧ Below w.heap.size w w')
          (exact hS)
          (first
            | (go_at_call 178; with_reducible refine (TW1.out _ hS.2).mono ?_; rintro e w2 ⟨rfl, hb⟩; have hS := MK.out _ (hS.2.trans (hb.mono hS.2.size)); clear hb))
        rename_i hHeld
        have HB1 := Lib.hid hS.2
        clear hHeld hS
        cases b with
        | true =>
          have hV := HV.out
          have hE := HE.out
          rw [if_pos rfl] at hE
          rw [← hE, if_pos (by decide)] at hV
          subst hV
          clear hE
          go_wp2_with fail
          go_ret
          exact ⟨rfl, HB1.out⟩
        | false =>
          have hE := HE.out
          rw [if_neg (by decide)] at hE
          have HE2 := Lib.hid hE
          clear hE
          go_wp2_with fail
          go_roundg (n - (k + 1))
          case measure => have := HLT.out; omega
          case rel =>
            refine ⟨k + 1, by have := HLT.out; omega, rfl, by go_num, HE2.out, fun j q hj hq => ?_, HB1.out⟩
            by_cases hjk : j = k
            · subst hjk
              have := hq.symm.trans HP.out
              injection this with this
              rw [this]; exact HEE.out
            · exact HC.out j q (by omega) hq
      · have n0 : (((E : Nat) : Int) != 0) = true := by rw [bne_iff_ne]; omega
        rw [if_pos e0] at hE
        have HE := Lib.hid hE
        have E0 := Lib.hid e0
        clear hE e0 hlt hk hp hkl hC hEE hg' hB
        go_wp2_with fail
        refine (CK.out _).mono ?_
        rintro e w1 ⟨rfl, hb⟩
        have HB1 := Lib.hid (HB.out.trans (hb.mono HB.out.size))
        have hV := HV.out
        rw [← HE.out, if_pos E0.out] at hV
        subst hV
        clear hb c0 c1 c2 c3
        go_wp2_with fail
        go_ret
        exact ⟨rfl, HB1.out⟩
    · obtain rfl : k = n := by omega
      have e1 : l.take k = l := List.take_of_length_le (by rw [HN.out]; omega)
      have e2 : l.drop k = [] := List.drop_of_length_le (by rw [HN.out]; omega)
      rw [e1, e2] at hE
      have h0 : eachP kind [] l = 0 := by rw [← hE]; rfl
      have hV := HV.out
      rw [if_neg (by simp [h0])] at hV
      have ck : ∀ p ∈ l, checkP kind p = 0 := fun p hp => by
        obtain ⟨j, hj⟩ := List.mem_iff_getElem?.1 hp
        exact hC j p (by have := (List.getElem?_eq_some_iff.1 hj).1; rw [HN.out] at this; exact this) hj
      have BO := Lib.hid (fun W (hb : Below w.heap.size w W) => ref_body A k c l W (HL.out.below hb) HN.out HNN.out ck)
      have LO1 := Lib.hid (LO.out wr HB.out)
      cases hlo : loneP l with
      | true =>
        rw [hlo] at LO1
        rw [hlo, if_pos rfl] at hV
        subst hV
        clear hE h0 ck hlo hC hB hlt hk e1 e2 BO
        go_wp2_with fail
        refine (LO1.out).mono ?_
        rintro e w1 ⟨rfl, hb⟩
        have HB1 := Lib.hid (HB.out.trans (hb.mono HB.out.size))
        clear hb
        go_wp2_with fail
        go_ret
        exact ⟨rfl, HB1.out⟩
      | false =>
        rw [hlo] at LO1
        rw [hlo, if_neg (by decide)] at hV
        obtain ⟨z, hz⟩ : ∃ z, (bs (bodyP l)).size = z := ⟨_, rfl⟩
        have hz2 : (bodyP l).length = z := by rw [← hz, bs_size]
        rw [hz2] at hV
        have HVV := Lib.hid hV
        have HZ := Lib.hid hz
        clear hE h0 ck hlo hC hB hlt hk e1 e2 hV hz2
        generalize bs (bodyP l) = x at *
        go_wp2_with fail
        refine (LO1.out).mono ?_
        rintro e w1 ⟨rfl, hb⟩
        have HB1 := Lib.hid (HB.out.trans (hb.mono HB.out.size))
        clear hb
        go_wp2_with fail
        refine (BO.out _ HB1.out).mono ?_
        rintro e w2 ⟨rfl, hb⟩
        have HB2 := Lib.hid (HB1.out.trans (hb.mono HB1.out.size))
        clear hb BO
        subst hz
        by_cases hb : 268435455 < x.size
        · have hV := HVV.out
          rw [if_pos hb] at hV
          subst hV
          have q9 : (268435455 : Int) < (x.size : Int) := by omega
          clear hb
          go_wp2_with fail
          go_ret
          exact ⟨rfl, HB2.out⟩
        · have hV := HVV.out
          rw [if_neg hb] at hV
          subst hV
          have q9 : ¬ (268435455 : Int) < (x.size : Int) := by omega
          clear hb
          go_wp2_with fail
          go_ret
          exact ⟨rfl, HB2.out⟩
set_option maxRecDepth 100000 in
set_option maxHeartbeats 2000000 in
theorem ref_bytes_list (kind : Int) (A : Option Addr) (n c : Nat) (l : List Pr) (w : World) (hl : PL w A l) (hn : l.length = n) (hc : n ≤ c) (hcm : c ≤ 9223372036854775807) (hN : n ≤ 1010) (ht : ∀ p ∈ l, p.text.length ≤ 200000) :
    Calls Tryz.prog 112 #[.int .i64 kind, .slice A n c] w fun e w' => e = .returned (.tuple #[.string (bs (bytesP kind l).1), .int .i64 ((bytesP kind l).2 : Nat)]) ∧ Below w.heap.size w w' := by
  have VA := ref_valid_list kind A n c l w hl hn hc hcm hN ht
  by_cases hv : validP kind l = 0
  · obtain ⟨v1, v2, v3, v4⟩ := valid_parts hv
    have ck : ∀ p ∈ l, checkP kind p = 0 := ((each_good kind l).1 v2).1
    have BO := Lib.hid (fun W (hb : Below w.heap.size w W) => ref_body A n c l W (hl.below hb) hn hN ck)
    have RB := Lib.hid (fun W => ref_bytes_some (bodyP l).length W v4)
    rw [hv] at VA
    have VA := Lib.hid VA
    have hb1 : (bytesP kind l).1 = vb (bodyP l).length (sz (bodyP l).length) ++ bodyP l := by unfold bytesP; rw [if_neg (by simp [hv])]
    have hb2 : (bytesP kind l).2 = 0 := by unfold bytesP; rw [if_neg (by simp [hv])]
    have hsz := sz_cases (bodyP l).length v4
    have hs1 : (bs (bodyP l)).size = (bodyP l).length := bs_size _
    have n1 : ¬ 9223372036854775807 < (bs (vb (bodyP l).length (sz (bodyP l).length))).size + (bs (bodyP l)).size := by rw [bs_size, bs_size, vb_length]; omega
    rw [hb1, hb2, ← bs_append]
    rw [← hs1] at RB n1 ⊢
    generalize bs (vb ((bs (bodyP l)).size : Nat) (sz ((bs (bodyP l)).size : Nat))) = x2 at *
    generalize bs (bodyP l) = x1 at *
    clear hl hn hc hcm hN ht hv v1 v2 v3 v4 ck hb1 hb2 hsz hs1
    go_enter Tryz.func112, Tryz.ntmps112
    go_wp2_with fail
    refine (VA.out).mono ?_
    rintro e w1 ⟨rfl, hb⟩
    have HB := Lib.hid hb
    clear hb
    go_wp2_with fail
    refine (BO.out _ HB.out).mono ?_
    rintro e w2 ⟨rfl, hb⟩
    have HB := Lib.hid (HB.out.trans (hb.mono HB.out.size))
    clear hb
    go_wp2_with fail
    refine (RB.out _).mono ?_
    rintro e w3 ⟨rfl, hb⟩
    have HB := Lib.hid (HB.out.trans (hb.mono HB.out.size))
    clear hb
    go_wp2_with fail
    go_ret2
    exact ⟨rfl, HB.out⟩
  · have hb1 : bytesP kind l = ([], validP kind l) := by unfold bytesP; rw [if_pos hv]
    rw [hb1]
    generalize validP kind l = V at *
    have q1 : (((V : Nat) : Int) != 0) = true := by rw [bne_iff_ne]; omega
    have VA := Lib.hid VA
    clear hl hn hc hcm hN ht hv hb1
    go_enter Tryz.func112, Tryz.ntmps112
    go_wp2_with fail
    refine (VA.out).mono ?_
    rintro e w1 ⟨rfl, hb⟩
    have HB := Lib.hid hb
    clear hb
    go_wp2_with fail
    go_ret2
    exact ⟨rfl, HB.out⟩
end Go.Proofs.YtaahhbjnflimnaaGreat
namespace Go.Proofs.YtaahhbjnflimnaaGreat
open Go.RowKit

/-- Properties of which the contracts of the reference speak. -/
structure FewP (w : World) (A : Option Addr) (n c : Nat) (l : List Pr) : Prop where
  at' : PL w A l
  len : l.length = n
  cap : n ≤ c
  capm : c ≤ 9223372036854775807
  few : n ≤ 1010
  small : ∀ p ∈ l, p.text.length ≤ 200000
theorem FewP.below {w w' : World} {A : Option Addr} {n c : Nat} {l : List Pr} (h : FewP w A n c l) (hb : Below w.heap.size w w') : FewP w' A n c l := ⟨h.at'.below hb, h.len, h.cap, h.capm, h.few, h.small⟩
theorem rf_tail (v kind : Int) (A : Option Addr) (n c : Nat) (l : List Pr) (w : World) (h : FewP w A n c l) (hv : v = 4 ∨ v = 5) : Calls Tryz.prog 46 #[.int .i64 v, .int .i64 kind, .slice A n c] w fun e w' => e = .returned (.string (bs (tailC v kind l))) ∧ Below w.heap.size w w' := by
  have B := Lib.hid (ref_bytes_list kind A n c l w h.at' h.len h.cap h.capm h.few h.small)
  clear h
  rcases hv with rfl | rfl
  · clear B
    have LO := Lib.hid (Below.refl w.heap.size w)
    rw [show tailC 4 kind l = [] from rfl]
    go_enter Tryz.func46, Tryz.ntmps46
    go_wp2
    go_ret
    exact ⟨rfl, LO.out⟩
  · rw [show tailC 5 kind l = (bytesP kind l).1 from rfl]
    go_enter Tryz.func46, Tryz.ntmps46
    go_wp2_with fail
    refine (B.out).mono ?_
    rintro e W ⟨rfl, hb⟩
    go_wp2_with fail
    go_ret
    exact ⟨rfl, hb⟩
theorem rf_right (v kind : Int) (A : Option Addr) (n c : Nat) (l : List Pr) (w : World) (h : FewP w A n c l) (hv : v = 4 ∨ v = 5) (h4 : v = 4 → l = []) : Calls Tryz.prog 72 #[.int .i64 v, .int .i64 kind, .slice A n c] w fun e w' => e = .returned (.int .i64 ((rightC v kind l : Nat) : Int)) ∧ Below w.heap.size w w' := by
  have B := Lib.hid (ref_valid_list kind A n c l w h.at' h.len h.cap h.capm h.few h.small)
  have hn : n = l.length := h.len.symm
  clear h
  rcases hv with rfl | rfl
  · rw [h4 rfl] at hn
    obtain rfl : n = 0 := hn
    clear B h4
    have LO := Lib.hid (Below.refl w.heap.size w)
    rw [show rightC 4 kind l = 0 from rfl]
    go_enter Tryz.func72, Tryz.ntmps72
    go_wp2
    go_ret
    exact ⟨rfl, LO.out⟩
  · rw [show rightC 5 kind l = validP kind l from rfl]
    clear h4 hn
    go_enter Tryz.func72, Tryz.ntmps72
    go_wp2_with fail
    refine (B.out).mono ?_
    rintro e W ⟨rfl, hb⟩
    go_wp2_with fail
    go_ret
    exact ⟨rfl, hb⟩
end Go.Proofs.YtaahhbjnflimnaaGreat
namespace Go.Proofs.YtaahhbjnflimnaaGreat
open Go.RowKit

/-- A packet of which the reference's contracts speak. -/
structure RuP (p : Pk) (a : Ad) : Prop where
  few : p.props.length ≤ 1010
  cap : p.props.length ≤ a.pc
  capm : a.pc ≤ 9223372036854775807
  small : ∀ x ∈ p.props, x.text.length ≤ 200000
  topic : p.topic.length ≤ 200000
theorem RuP.ps {p : Pk} {a : Ad} (h : RuP p a) (w : World) (hp : PkAt w p a) : FewP w a.ps p.props.length a.pc p.props := ⟨hp.ps, rfl, h.cap, h.capm, h.few, h.small⟩
set_option maxRecDepth 100000 in
set_option maxHeartbeats 1000000 in
theorem ru_alias (p : Pk) (a : Ad) (w : World) (hp : PkAt w p a) (sp : Short p) (ok : ∀ x ∈ p.props, PrOk x) : Calls Tryz.prog 28 #[.agg (pkC p a)] w fun e w' => e = .returned (.tuple #[.int .i64 (((getP p.props 35).1.n : Nat) : Int), .bool (hasP p.props 35)]) ∧ Below w.heap.size w w' := by
  have S0 := Lib.hid (BxS.made w p a)
  have GE := fun W (h : BxS w p a W) => ref_get_list a.ps p.props.length a.pc p.props 35 W (hp.below h.low).ps rfl sp.2.2.1
  have hn := getP_range ok 35
  rw [getP_has] at GE
  generalize hasP p.props 35 = B at *
  generalize (getP p.props 35).1 = g at *
  obtain ⟨gi, n, gt, gv⟩ := g
  have hn : n < 4294967296 := hn
  have hn0 : (n : Int) < 4294967296 := by omega
  have c24 : (w.alloc (.cells (pkC p a) 28)).cell? ⟨w.heap.size, 24, none⟩ = some (.slice a.ps p.props.length a.pc) := S0.out.cell 24
  replace GE := Lib.hid GE
  unfold propV at GE
  clear hp sp ok hn
  go_enter Tryz.func28, Tryz.ntmps28
  go_wp2_with fail
  refine (GE.out _ S0.out).mono ?_
  rintro e W ⟨rfl, hb⟩
  have LO := Lib.hid (below_then S0.out.low hb)
  clear hb c24
  go_wp2_with fail
  go_ret2
  exact ⟨rfl, LO.out.alloc LO.out.size _⟩
/-- The reference's packet with those fields alone, whatever the version. -/
def usedF (p : Pk) : Pk := { Pk.zero with kind := p.kind, dup := p.dup, retain := p.retain, qos := p.qos, id := p.id, topic := p.topic, payload := p.payload, props := p.props }
def usedFA (a : Ad) : Ad := { adZ with ps := a.ps, pc := a.pc }
theorem usedF_at {w : World} {p : Pk} {a : Ad} (h : PkAt w p a) : PkAt w (usedF p) (usedFA a) := ⟨fun e => absurd rfl e, fun e => absurd rfl e, fun e => absurd rfl e, h.ps⟩
theorem usedF_short {p : Pk} (h : Short p) : Short (usedF p) := ⟨Nat.zero_le _, Nat.zero_le _, h.2.2.1, Nat.zero_le _⟩
def badF (v : Int) (p : Pk) : Bool := !decide (p = usedF p) || (p.qos == 0 && p.id != 0) || (decide (0 < p.qos) && (decide (p.id < 1) || decide (65535 < p.id))) || (v == 4 && decide (0 < (p.props.length : Int)))
def badT (v : Int) (p : Pk) : Bool := !nameL p.topic && !(p.topic.isEmpty && hasP p.props 35 && v == 5)
theorem valid_ref (v : Int) (p : Pk) : validU v p = if (!verH v || p.kind != 3) = true then 2 else if (flagsF v p.kind p.dup p.retain p.qos).2 ≠ 0 then (flagsF v p.kind p.dup p.retain p.qos).2 else if badF v p = true then 2 else if badT v p = true then 10 else rightC v 3 p.props := by
  unfold validU
  by_cases hk : p.kind = 3
  · have hk2 : (p.kind != 3) = false := by simpa using hk
    rw [if_neg (by simpa using hk), hk2, Bool.or_false, hk]
    cases hv : verH v
    · rw [if_pos (show (!false) = true from rfl)]
      have : (flagsF v 3 p.dup p.retain p.qos).2 = 2 := by rw [flags_u_err, if_pos hv]
      rw [this, if_pos (by decide)]
    · rw [if_neg (show ¬ (!true) = true by decide)]
      by_cases hf : (flagsF v 3 p.dup p.retain p.qos).2 = 0
      · have e0 : ∀ (A B : Nat), (if (flagsF v 3 p.dup p.retain p.qos).2 ≠ 0 then A else B) = B := fun A B => if_neg (by simpa using hf)
        rw [e0, e0]
        have hq := qos_u (flags_u.1 hf).2
        have hv2 := ver_u hv
        have hb : (idU p && decide (p = usedU v p)) = !badF v p := by
          have h1 : decide (p = usedU v p) = (decide (p = usedF p) && (v == 5 || p.props.isEmpty)) := by
            rw [Bool.eq_iff_iff, Bool.and_eq_true, decide_eq_true_eq, decide_eq_true_eq, Bool.or_eq_true, beq_iff_eq, List.isEmpty_iff]
            rcases hv2 with rfl | rfl
            · obtain ⟨⟩ := p
              simp [usedU, usedF, Pk.zero]
              grind
            · obtain ⟨⟩ := p
              simp [usedU, usedF, Pk.zero]
          have h2 : idU p = (!(p.qos == 0 && p.id != 0) && !(decide (0 < p.qos) && (decide (p.id < 1) || decide (65535 < p.id)))) := by
            unfold idU
            by_cases h0 : p.qos = 0
            · rw [if_pos h0, h0]
              simp [bne]
            · have : 0 < p.qos := by omega
              rw [if_neg h0, Bool.eq_iff_iff]
              simp [h0, this]
              intro _
              omega
          have h3 : (v == 4 && decide (0 < (p.props.length : Int))) = !(v == 5 || p.props.isEmpty) := by
            rcases hv2 with rfl | rfl
            · cases p.props <;> simp
            · rfl
          rw [h1, h2]
          unfold badF
          rw [h3]
          generalize decide (p = usedF p) = b1
          generalize (p.qos == 0 && p.id != 0) = b2
          generalize (decide (0 < p.qos) && (decide (p.id < 1) || decide (65535 < p.id))) = b3
          generalize (v == 5 || p.props.isEmpty) = b4
          cases b1 <;> cases b2 <;> cases b3 <;> cases b4 <;> rfl
        rw [hb]
        cases hbf : badF v p
        · have hz : v = 4 → p.props = [] := fun h4 => by
            unfold badF at hbf
            rw [Bool.or_eq_false_iff] at hbf
            have := hbf.2
            rw [h4] at this
            have h : ¬ (0 : Int) < (p.props.length : Int) := by simpa using this
            exact List.length_eq_zero_iff.1 (by omega)
          have ht : topicU p = !badT v p := by
            unfold topicU badT
            rcases hv2 with rfl | rfl
            · rw [hz rfl]
              cases nameL p.topic <;> cases p.topic.isEmpty <;> rfl
            · cases nameL p.topic <;> cases p.topic.isEmpty <;> cases hasP p.props 35 <;> rfl
          have hr : rightC v 3 p.props = validP 3 p.props := by
            unfold rightC
            split
            · rfl
            · rw [hz (by omega)]; decide
          rw [hr, ht]
          cases badT v p <;> rfl
        · rfl
      · rw [if_pos hf, if_pos hf]
  · have hk2 : (p.kind != 3) = true := by simpa using hk
    rw [if_pos hk, hk2, Bool.or_true, if_pos rfl]
end Go.Proofs.YtaahhbjnflimnaaGreat
namespace Go.Proofs.YtaahhbjnflimnaaGreat
open Go.RowKit

set_option maxRecDepth 100000 in
set_option maxHeartbeats 4000000 in
theorem ru_valid (v : Int) (p : Pk) (a : Ad) (w : World) (hp : PkAt w p a) (sp : Short p) (ok : PkOk p) (fp : RuP p a) :
    Calls Tryz.prog 29 #[.int .i64 v, .agg (pkC p a)] w fun e w' => e = .returned (.int .i64 ((validU v p : Nat) : Int)) ∧ Below w.heap.size w w' := by
  have S0 := Lib.hid (BxS.made w p a)
  have C1 := Lib.hid (pkC_size p a)
  have VE := Lib.hid (fun W => ref_version v W)
  have FL := fun W => ref_flags7 v (k := p.kind) (q := p.qos) (d := p.dup) (r := p.retain) (c := pkC p a) W rfl rfl rfl rfl
  unfold FlRet at FL
  replace FL := Lib.hid FL
  have SM := Lib.hid (fun W (h1 : PkAt W p a) (h2 : PkAt W (usedF p) (usedFA a)) => ref_same7 p (usedF p) a (usedFA a) W h1 h2 sp (usedF_short sp))
  have AL := Lib.hid (fun W (h : BxS w p a W) => ru_alias p a W (hp.below h.low) sp (fun x hx => (ok.pps x hx).1))
  have NM := fun W => (ref_name (bs p.topic) W (by rw [bs_size]; exact fp.topic)).mono fun e w' (hh : _ ∧ W = w') => (⟨hh.1, hh.2 ▸ Below.refl _ _⟩ : _ ∧ Below W.heap.size W w')
  rw [bs_data] at NM
  replace NM := Lib.hid NM
  have HP := Lib.hid hp
  have FP := Lib.hid fp
  obtain ⟨R, hR⟩ : ∃ R, validU v p = R := ⟨_, rfl⟩
  rw [hR]
  rw [valid_ref] at hR
  obtain ⟨b1, hb1⟩ : ∃ b, (!verH v || p.kind != 3) = b := ⟨_, rfl⟩
  obtain ⟨fe, hfe⟩ : ∃ fe, (flagsF v p.kind p.dup p.retain p.qos).2 = fe := ⟨_, rfl⟩
  obtain ⟨b2, hb2⟩ : ∃ b, badF v p = b := ⟨_, rfl⟩
  obtain ⟨b3, hb3⟩ : ∃ b, badT v p = b := ⟨_, rfl⟩
  rw [hb1, hfe, hb2, hb3] at hR
  have HR := Lib.hid hR
  have HB1 := Lib.hid hb1
  have HFE := Lib.hid hfe
  have HB2 := Lib.hid hb2
  have HB3 := Lib.hid hb3
  have HZ := Lib.hid pkZ_size
  have hzv := zero_pk
  have hne : ¬ pkZ = #[] := by intro h; have := pkZ_size; rw [h] at this; cases this
  have hEm : ((bs p.topic).toList == []) = p.topic.isEmpty := by rw [bs_toList]; cases p.topic <;> rfl
  have HEm := Lib.hid hEm
  obtain ⟨D, hD⟩ : ∃ D, pkC (usedF p) (usedFA a) = D := ⟨_, rfl⟩
  have HD := Lib.hid hD
  have HD1 := Lib.hid (show D.size = 25 by rw [← hD]; exact pkC_size _ _)
  have HD2 := Lib.hid (show D.all (·.oneCell') = true by rw [← hD]; exact pkC_one _ _)
  clear hp sp ok fp hR hb1 hfe hb2 hb3 hEm hD
  have K := Lib.hid (fun W (h : BxS w p a W) (j : Nat) => h.cell j)
  go_enter Tryz.func29, Tryz.ntmps29
  go_upto_region 1 with fail
  go_cut [17] (fun s17 wx => s17 = .bool b1 ∧ BxS w p a wx)
  case first =>
    have KV := VE.out
    have k0 : (w.alloc (.cells (pkC p a) 28)).cell? ⟨w.heap.size, 0, none⟩ = some (.int .i64 p.kind) := S0.out.cell 0
    cases hv : verH v with
    | false =>
      rw [hv] at KV
      have hb := HB1.out
      rw [hv] at hb
      have HT := Lib.hid (show true = b1 by rw [← hb]; rfl)
      replace KV := Lib.hid KV
      clear hb hv HB1
      go_wp2_with fail
      refine (KV.out _).mono ?_
      rintro e W ⟨rfl, rfl⟩
      go_wp2_with fail
      go_meet
      exact ⟨congrArg Value.bool HT.out, S0.out⟩
    | true =>
      rw [hv] at KV
      have hb := HB1.out
      rw [hv] at hb
      have HT := Lib.hid (show (p.kind != 3) = b1 by rw [← hb]; rfl)
      replace KV := Lib.hid KV
      clear hb hv HB1
      go_wp2_with fail
      refine (KV.out _).mono ?_
      rintro e W ⟨rfl, rfl⟩
      go_wp2_with fail
      go_meet
      exact ⟨congrArg Value.bool HT.out, S0.out⟩
  case rest =>
    obtain ⟨rfl, hS⟩ := hcut
    have S1 := Lib.hid hS
    have V45 := Lib.hid (show b1 = false → v = 4 ∨ v = 5 from fun h => ver_u (by have := HB1.out; rw [h, Bool.or_eq_false_iff] at this; simpa using this.1))
    have N4 := Lib.hid (show b2 = false → v = 4 → p.props = [] from fun h h4 => by
      have hh := HB2.out
      rw [h, badF, Bool.or_eq_false_iff, h4] at hh
      have h5 : ¬ (0 : Int) < (p.props.length : Int) := by simpa using hh.2
      exact List.length_eq_zero_iff.1 (by omega))
    clear hS S0 VE HB1
    cases b1 with
    | true =>
      have HT := Lib.hid (show 2 = R by rw [← HR.out, if_pos rfl])
      clear HR
      go_wp2_with fail
      go_ret
      exact ⟨by rw [← HT.out]; rfl, S1.out.low⟩
    | false =>
      go_wp2_with (refine wpList_load_row rfl _ _ rfl w.heap.size rfl 28 _ (0, 0) _ S1.out.box Tryz.underlying28 rfl (by rw [C1.out]; exact info_pk) ?_)
      refine (FL.out _).mono ?_
      rintro e W2 ⟨rfl, hb⟩
      have S2 := Lib.hid (S1.out.call hb)
      clear hb S1
      by_cases h0 : fe = 0
      · have e0 : (((flagsF v p.kind p.dup p.retain p.qos).2 : Nat) : Int) = 0 := by rw [HFE.out, h0]; rfl
        rw [e0]
        clear e0
        have HR2 := Lib.hid (show (if b2 = true then 2 else if b3 = true then 10 else rightC v 3 p.props) = R by rw [← HR.out, if_neg (show ¬ false = true by decide), if_neg (show ¬ fe ≠ 0 by simpa using h0)])
        clear h0 HR HFE
        have k0 : W2.cell? ⟨w.heap.size, 0, none⟩ = some (.int .i64 p.kind) := S2.out.cell 0
        have k1 : W2.cell? ⟨w.heap.size, 1, none⟩ = some (.bool p.dup) := S2.out.cell 1
        have k2 : W2.cell? ⟨w.heap.size, 2, none⟩ = some (.bool p.retain) := S2.out.cell 2
        have k3 : W2.cell? ⟨w.heap.size, 3, none⟩ = some (.int .i64 p.qos) := S2.out.cell 3
        have k4 : W2.cell? ⟨w.heap.size, 4, none⟩ = some (.int .i64 p.id) := S2.out.cell 4
        have k5 : W2.cell? ⟨w.heap.size, 5, none⟩ = some (.string (bs p.topic)) := S2.out.cell 5
        have k6 : W2.cell? ⟨w.heap.size, 6, none⟩ = some (.string (bs p.payload)) := S2.out.cell 6
        have k24 : W2.cell? ⟨w.heap.size, 24, none⟩ = some (.slice a.ps p.props.length a.pc) := S2.out.cell 24
        have GN := Lib.hid (heap_alloc_new W2 (.cells pkZ 28))
        have bx : Below W2.heap.size W2 ((W2.alloc (.cells pkZ 28)).setRow W2.heap.size D) := belowRow (below_box _) (Nat.le_refl _) _
        have S3 := Lib.hid (S2.out.call bx)
        have G3 := Lib.hid (setRow_heap _ _ _ D _ _ GN.out)
        clear bx
        go_upto_region 7 with (first
          | (refine wpList_buildTo rfl 28 _ rfl (some _) rfl D (by rw [← HD.out]; kernel_rfl) ?_)
          | (refine wpList_store_row rfl _ _ _ rfl W2.heap.size D rfl rfl 28 _ GN.out (by rw [HD1.out]; exact info_pk) (by rw [HZ.out, HD1.out]) HD2.out ?_))
        clear k0 k1 k2 k3 k4 k5 k6 k24 GN S2
        generalize (W2.alloc (.cells pkZ 28)).setRow W2.heap.size D = W3 at *
        generalize W2.heap.size = B at *
        have SMx := SM.out W3 (HP.out.below S3.out.low) (usedF_at (HP.out.below S3.out.low))
        unfold pkV at SMx
        rw [HD.out] at SMx
        obtain ⟨eq, heq⟩ : ∃ b, decide (p = usedF p) = b := ⟨_, rfl⟩
        rw [heq] at SMx
        have SMx := Lib.hid SMx
        have hbf := HB2.out
        unfold badF at hbf
        rw [heq] at hbf
        have HBF := Lib.hid hbf
        clear hbf heq HB2 SM
        simp only [Act.put]
        go_cut [82] (fun s82 wx => s82 = .bool b2 ∧ BxS w p a wx)
        case first =>
          go_wp2_with (first
            | (refine wpList_load_row rfl _ _ rfl w.heap.size rfl 28 _ (0, 0) _ S3.out.box Tryz.underlying28 rfl (by rw [C1.out]; exact info_pk) ?_)
            | (refine wpList_load_row rfl _ _ rfl B rfl 28 D (0, 0) _ G3.out Tryz.underlying28 rfl (by rw [HD1.out]; exact info_pk) ?_))
          refine (SMx.out).mono ?_
          rintro e W4 ⟨rfl, hb⟩
          have S4 := Lib.hid (S3.out.call hb)
          clear hb S3 G3
          have k3 : W4.cell? ⟨w.heap.size, 3, none⟩ = some (.int .i64 p.qos) := S4.out.cell 3
          have k4 : W4.cell? ⟨w.heap.size, 4, none⟩ = some (.int .i64 p.id) := S4.out.cell 4
          have k24 : W4.cell? ⟨w.heap.size, 24, none⟩ = some (.slice a.ps p.props.length a.pc) := S4.out.cell 24
          generalize p.qos = q at *
          generalize p.id = i at *
          generalize p.props.length = n at *
          cases eq
          · have HT := Lib.hid (show true = b2 by rw [← HBF.out]; rfl)
            clear HBF
            go_wp2_with fail
            go_meet
            exact ⟨congrArg Value.bool HT.out, S4.out⟩
          · rcases Bool.eq_false_or_eq_true (q == 0) with c1 | c1
            · have c3 : decide ((0 : Int) < q) = false := decide_eq_false (by have h : q = 0 := (by simpa using c1); omega)
              rcases Bool.eq_false_or_eq_true (i != 0) with c2 | c2
              · go_wp2_with fail
                go_meet
                exact ⟨congrArg Value.bool (by rw [← HBF.out]; simp only [c1, c2]; rfl), S4.out⟩
              · rcases Bool.eq_false_or_eq_true (v == 4) with c6 | c6
                · go_wp2_with fail
                  go_meet
                  exact ⟨congrArg Value.bool (by rw [← HBF.out]; simp only [c1, c2, c3, c6]; simp [Int.natCast_pos]), S4.out⟩
                · go_wp2_with fail
                  go_meet
                  exact ⟨congrArg Value.bool (by rw [← HBF.out]; simp only [c1, c2, c3, c6]; rfl), S4.out⟩
            · rcases Bool.eq_false_or_eq_true (decide ((0 : Int) < q)) with c3 | c3
              · rcases Bool.eq_false_or_eq_true (decide (i < (1 : Int))) with c4 | c4
                · go_wp2_with fail
                  go_meet
                  exact ⟨congrArg Value.bool (by rw [← HBF.out]; simp only [c1, c3, c4]; rfl), S4.out⟩
                · rcases Bool.eq_false_or_eq_true (decide ((65535 : Int) < i)) with c5 | c5
                  · go_wp2_with fail
                    go_meet
                    exact ⟨congrArg Value.bool (by rw [← HBF.out]; simp only [c1, c3, c4, c5]; rfl), S4.out⟩
                  · rcases Bool.eq_false_or_eq_true (v == 4) with c6 | c6
                    · go_wp2_with fail
                      go_meet
                      exact ⟨congrArg Value.bool (by rw [← HBF.out]; simp only [c1, c3, c4, c5, c6]; simp [Int.natCast_pos]), S4.out⟩
                    · go_wp2_with fail
                      go_meet
                      exact ⟨congrArg Value.bool (by rw [← HBF.out]; simp only [c1, c3, c4, c5, c6]; rfl), S4.out⟩
              · rcases Bool.eq_false_or_eq_true (v == 4) with c6 | c6
                · go_wp2_with fail
                  go_meet
                  exact ⟨congrArg Value.bool (by rw [← HBF.out]; simp only [c1, c3, c6]; simp [Int.natCast_pos]), S4.out⟩
                · go_wp2_with fail
                  go_meet
                  exact ⟨congrArg Value.bool (by rw [← HBF.out]; simp only [c1, c3, c6]; rfl), S4.out⟩
        case rest =>
          obtain ⟨rfl, hS⟩ := hcut
          have S5 := Lib.hid hS
          clear hS S3 G3 SMx HBF
          cases b2 with
          | true =>
            have HT := Lib.hid (show 2 = R by rw [← HR2.out, if_pos rfl])
            clear HR2
            go_wp2_with fail
            go_ret
            exact ⟨by rw [← HT.out]; rfl, S5.out.low⟩
          | false =>
            go_wp2_with (refine wpList_load_row rfl _ _ rfl w.heap.size rfl 28 _ (0, 0) _ S5.out.box Tryz.underlying28 rfl (by rw [C1.out]; exact info_pk) ?_)
            refine (AL.out _ S5.out).mono ?_
            rintro e W6 ⟨rfl, hb⟩
            have S6 := Lib.hid (S5.out.call hb)
            clear hb S5
            have k5 : W6.cell? ⟨w.heap.size, 5, none⟩ = some (.string (bs p.topic)) := S6.out.cell 5
            go_upto_region 10 with fail
            have hbt := HB3.out
            unfold badT at hbt
            have HBT := Lib.hid hbt
            clear hbt HB3
            go_cut [104] (fun s104 wx => s104 = .bool b3 ∧ BxS w p a wx)
            case first =>
              have hEm := HEm.out
              generalize hasP p.props 35 = al at *
              generalize nameL p.topic = nm at *
              generalize p.topic.isEmpty = em at *
              generalize bs p.topic = T at *
              have NMx := NM.out
              have NMx := Lib.hid NMx
              go_wp2_with fail
              refine (NMx.out _).mono ?_
              rintro e W7 ⟨rfl, hb⟩
              have S7 := Lib.hid (S6.out.call hb)
              have k5 : W7.cell? ⟨w.heap.size, 5, none⟩ = some (.string T) := (World.cell?_of_block (a := ⟨w.heap.size, 5, none⟩) (hb.block _ (lt_of_block S6.out.box))).trans k5
              clear hb S6
              by_cases h5 : v = 5
              · have e5 : (v == 5) = true := by simpa using h5
                clear h5
                cases nm <;> cases em <;> cases al
                all_goals
                  go_wp2_with fail
                  go_meet
                  exact ⟨congrArg Value.bool (by rw [← HBT.out, e5]; rfl), S7.out⟩
              · have e5 : (v == 5) = false := by simpa using h5
                clear h5
                cases nm <;> cases em <;> cases al
                all_goals
                  go_wp2_with fail
                  go_meet
                  exact ⟨congrArg Value.bool (by rw [← HBT.out, e5]; rfl), S7.out⟩
            case rest =>
              obtain ⟨rfl, hS⟩ := hcut
              have S7 := Lib.hid hS
              clear hS S6 k5 HBT NM AL HEm
              cases b3 with
              | true =>
                have HT := Lib.hid (show 10 = R by rw [← HR2.out, if_neg (by decide), if_pos rfl])
                clear HR2
                go_wp2_with fail
                go_ret
                exact ⟨by rw [← HT.out]; rfl, S7.out.low⟩
              | false =>
                have hR4 : rightC v 3 p.props = R := by rw [← HR2.out, if_neg (by decide), if_neg (by decide)]
                have RG := rf_right v 3 a.ps p.props.length a.pc p.props wc (FP.out.ps wc (HP.out.below S7.out.low)) (V45.out trivial) (N4.out trivial)
                rw [hR4] at RG
                have RG := Lib.hid RG
                have k24 : wc.cell? ⟨w.heap.size, 24, none⟩ = some (.slice a.ps p.props.length a.pc) := S7.out.cell 24
                clear hR4 HR2 V45 N4
                go_wp2_with fail
                refine RG.out.mono ?_
                rintro e W8 ⟨rfl, hb⟩
                have HL := Lib.hid (below_then S7.out.low hb)
                clear hb
                go_wp2_with fail
                go_ret
                exact ⟨rfl, HL.out⟩
      · have e0 : ((flagsF v p.kind p.dup p.retain p.qos).2 : Nat) = fe := HFE.out
        have HT := Lib.hid (show fe = R by rw [← HR.out, if_neg (show ¬ false = true by decide), if_pos h0])
        have d0 : ((fe : Int) == 0) = false := by simpa using h0
        have d1 : ((fe : Int) != 0) = true := by simpa using h0
        rw [e0]
        clear e0 h0 HR HFE V45 N4
        go_wp2_with fail
        go_ret
        exact ⟨by rw [← HT.out]; rfl, S2.out.low⟩
end Go.Proofs.YtaahhbjnflimnaaGreat
namespace Go.Proofs.YtaahhbjnflimnaaGreat
open Go.RowKit

set_option maxRecDepth 100000 in
set_option maxHeartbeats 2000000 in
theorem ru_body (v : Int) (p : Pk) (a : Ad) (w : World) (hp : PkAt w p a) (sp : Short p) (ok : PkOk p) (fp : RuP p a) :
    Calls Tryz.prog 26 #[.int .i64 v, .agg (pkC p a)] w fun e w' => e = .returned (.tuple #[.string (bs (bodyU v p).1), .int .i64 ((bodyU v p).2 : Nat)]) ∧ Below w.heap.size w w' := by
  have S0 := Lib.hid (BxS.made w p a)
  have C1 := Lib.hid (pkC_size p a)
  have VA := fun W (h : BxS w p a W) => ru_valid v p a W (hp.below h.low) sp ok fp
  unfold bodyU
  by_cases hv : validU v p = 0
  · rw [if_neg (by simpa using hv), raw_u]
    rw [hv] at VA
    obtain ⟨l1, l2, l3⟩ := raw_u_len ok hv
    have hv45 := (valid_u hv).2.1
    have hi := (valid_u hv).2.2.2.1
    have hq := qos_u (valid_u hv).2.2.1
    have ht := (valid_u hv).2.2.2.2.2.1
    have l4 := id_len p
    have TX := fun W => ref_text_yes (bs p.topic) W (by rw [bs_data]; exact topic_u ht)
    rw [bs_data] at TX
    have PR := fun W (h : BxS w p a W) => (rf_tail v 3 a.ps p.props.length a.pc p.props W (fp.ps W (hp.below h.low)) hv45).mono fun e W' hh => (⟨hh.1, h.call hh.2⟩ : _ ∧ BxS w p a W')
    have K3 := Lib.hid (show ∀ W, BxS w p a W → W.cell? ⟨w.heap.size, 3, none⟩ = some (.int .i64 p.qos) from fun W h => h.cell 3)
    have K4 := Lib.hid (show ∀ W, BxS w p a W → W.cell? ⟨w.heap.size, 4, none⟩ = some (.int .i64 p.id) from fun W h => h.cell 4)
    have K5 := Lib.hid (show ∀ W, BxS w p a W → W.cell? ⟨w.heap.size, 5, none⟩ = some (.string (bs p.topic)) from fun W h => h.cell 5)
    have e1 : bs (enc2 p.topic) ++ bs (idL p) = bs (enc2 p.topic ++ idL p) := bs_append _ _
    have e2 : bs (enc2 p.topic ++ idL p) ++ bs (tailC v 3 p.props) = bs (enc2 p.topic ++ idL p ++ tailC v 3 p.props) := bs_append _ _
    have e3 : bs (enc2 p.topic ++ idL p ++ tailC v 3 p.props) ++ bs p.payload = bs (enc2 p.topic ++ idL p ++ tailC v 3 p.props ++ p.payload) := bs_append _ _
    have s0 : ¬ 9223372036854775807 < (bs (enc2 p.topic)).size + (bs (idL p)).size := by rw [bs_size, bs_size]; omega
    have s2 : (bs (enc2 p.topic ++ idL p ++ tailC v 3 p.props)).size ≤ 9223372036854775807 := by rw [bs_size]; simp only [List.length_append]; omega
    have s3 : (bs (enc2 p.topic ++ idL p ++ tailC v 3 p.props ++ p.payload)).size ≤ 9223372036854775807 := by rw [bs_size]; simp only [List.length_append]; omega
    have AD := Lib.hid (And.intro (And.intro e2 s2) (And.intro e3 s3))
    replace VA := Lib.hid VA
    replace TX := Lib.hid TX
    replace PR := Lib.hid PR
    have hid : p.qos = 0 ∧ idL p = [] ∨ (0 < p.qos ∧ ∃ n : Nat, p.id = n ∧ n < 65536 ∧ idL p = be n 2) := by
      rcases id_range hi with h | ⟨h, h0, h1⟩
      · exact .inl ⟨h, by rw [idL, if_pos h]⟩
      · exact .inr ⟨by omega, p.id.toNat, by omega, by omega, by rw [idL, if_neg h]⟩
    clear hp sp ok fp hv l1 l2 l3 l4 hi ht e2 e3 s2 s3 hv45 hq
    have KC := Lib.hid (fun W (h : BxS w p a W) => (⟨h.cell 6, h.cell 24⟩ : W.cell? ⟨w.heap.size, 6, none⟩ = some (.string (bs p.payload)) ∧ W.cell? ⟨w.heap.size, 24, none⟩ = some (.slice a.ps p.props.length a.pc)))
    rcases hid with ⟨hq, hid⟩ | ⟨hq, n, hn, hlt, hid⟩
    · rw [hid, List.append_nil] at AD ⊢
      rw [hq] at K3
      clear hid hq e1 s0 K4
      go_enter Tryz.func26, Tryz.ntmps26
      go_wp2_with (refine wpList_load_row rfl _ _ rfl w.heap.size rfl 28 _ (0, 0) _ S0.out.box Tryz.underlying28 rfl (by rw [C1.out]; exact info_pk) ?_)
      refine (VA.out _ S0.out).mono ?_
      rintro e W ⟨rfl, hb⟩
      have S1 := Lib.hid (S0.out.call hb)
      have k5 : W.cell? ⟨w.heap.size, 5, none⟩ = some (.string (bs p.topic)) := K5.out W S1.out
      clear hb S0
      go_wp2_with fail
      refine (TX.out _).mono ?_
      rintro e W2 ⟨rfl, hb⟩
      have S2 := Lib.hid (S1.out.call hb)
      have k3 : W2.cell? ⟨w.heap.size, 3, none⟩ = some (.int .i64 0) := K3.out W2 S2.out
      clear hb S1 k5
      go_upto_region 7 with fail
      refine pr_body (S := BxS w p a) (b := w.heap.size) S2.out.draw (fun W h => (KC.out W h).1) (fun W h => (KC.out W h).2) PR.out AD.out.1.1 AD.out.1.2 AD.out.2.1 AD.out.2.2 ?_
      intro W h
      have LO := Lib.hid h.low
      clear h
      go_wp2_with fail
      go_ret2
      exact ⟨rfl, LO.out⟩
    · rw [hid] at AD e1 s0 ⊢
      rw [hn] at K4
      have g0 : decide (0 < p.qos) = true := decide_eq_true hq
      have PU := Lib.hid (fun W => ref_put n 2 W (by omega) (by decide) (by decide))
      have h2 : (n : Int) < 65536 := by omega
      have E1 := Lib.hid e1
      have S00 := Lib.hid s0
      clear hid hq hn hlt e1 s0
      generalize p.qos = q at *
      go_enter Tryz.func26, Tryz.ntmps26
      go_wp2_with (refine wpList_load_row rfl _ _ rfl w.heap.size rfl 28 _ (0, 0) _ S0.out.box Tryz.underlying28 rfl (by rw [C1.out]; exact info_pk) ?_)
      refine (VA.out _ S0.out).mono ?_
      rintro e W ⟨rfl, hb⟩
      have S1 := Lib.hid (S0.out.call hb)
      have k5 : W.cell? ⟨w.heap.size, 5, none⟩ = some (.string (bs p.topic)) := K5.out W S1.out
      clear hb S0
      go_wp2_with fail
      refine (TX.out _).mono ?_
      rintro e W2 ⟨rfl, hb⟩
      have S2 := Lib.hid (S1.out.call hb)
      have k3 : W2.cell? ⟨w.heap.size, 3, none⟩ = some (.int .i64 q) := K3.out W2 S2.out
      have k4 : W2.cell? ⟨w.heap.size, 4, none⟩ = some (.int .i64 n) := K4.out W2 S2.out
      clear hb S1 k5
      go_wp2_with fail
      refine (PU.out _).mono ?_
      rintro e W3 ⟨rfl, hb⟩
      have S3 := Lib.hid (S2.out.call hb)
      clear hb S2 k3 k4
      have s0 := S00.out
      go_upto_region 7 with fail
      have e1 := E1.out
      simp only [e1]
      refine pr_body (S := BxS w p a) (b := w.heap.size) S3.out.draw (fun W h => (KC.out W h).1) (fun W h => (KC.out W h).2) PR.out AD.out.1.1 AD.out.1.2 AD.out.2.1 AD.out.2.2 ?_
      intro W h
      have LO := Lib.hid h.low
      clear h
      go_wp2_with fail
      go_ret2
      exact ⟨rfl, LO.out⟩
  · rw [if_pos hv]
    generalize validU v p = R at *
    have e1 : ((R : Int) == 0) = false := by simpa using hv
    have e2 : ((R : Int) != 0) = true := by simpa using hv
    replace VA := Lib.hid VA
    clear hp sp ok fp hv
    go_enter Tryz.func26, Tryz.ntmps26
    go_wp2_with (refine wpList_load_row rfl _ _ rfl w.heap.size rfl 28 _ (0, 0) _ S0.out.box Tryz.underlying28 rfl (by rw [C1.out]; exact info_pk) ?_)
    refine (VA.out _ S0.out).mono ?_
    rintro e W ⟨rfl, hb⟩
    have S1 := Lib.hid (S0.out.call hb)
    clear hb S0
    go_wp2_with fail
    go_ret2
    exact ⟨rfl, S1.out.low⟩
end Go.Proofs.YtaahhbjnflimnaaGreat
