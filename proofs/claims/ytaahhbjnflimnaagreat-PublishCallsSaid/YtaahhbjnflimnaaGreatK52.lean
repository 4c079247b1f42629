/-
  The contract of polyglotref09.Read. Condition: at most 2,000 bytes.
  The walk of PublishCalls. Condition: the packet's fields are what their types hold; the length of the string.
-/
import Derived.Deep.DeepCutAuto
import Derived.Test.YtaahhbjnflimnaaGreatK51
import Derived.Test.YtaahhbjnflimnaaGreatK19
import Derived.Test.YtaahhbjnflimnaaGreatK43
import Derived.Test.YtaahhbjnflimnaaGreatK48
import Derived.Test.YtaahhbjnflimnaaGreatK44
import Derived.Test.YtaahhbjnflimnaaGreatK12
import Derived.Test.YtaahhbjnflimnaaGreatK16
import Derived.Test.YtaahhbjnflimnaaGreatK37
import Derived.Test.YtaahhbjnflimnaaGreatK13
import Derived.Test.YtaahhbjnflimnaaGreatK36
import Derived.Test.YtaahhbjnflimnaaGreatK47
namespace Go.Proofs.YtaahhbjnflimnaaGreat
open Go.RowKit

/-- What the reference's Read returns. -/
def RvRet (w : World) (R : Pk × Nat) (e : Ending) (W : World) : Prop := ∃ a : Ad, e = .returned (.tuple #[.agg (pkC R.1 a), .int .i64 (R.2 : Nat)]) ∧ PkAt W R.1 a ∧ Below w.heap.size w W
/-- What stands while the reference's Read runs: its result, the packet's block, the cursor. -/
structure RvS (w : World) (B cb : Nat) (s : ByteArray) (P : Pk) (a : Ad) (y : Cs) (W : World) : Prop where
  low : Below w.heap.size w W
  rs : W.heap[w.heap.size]? = some (.cells pkZ 28 (0, 0))
  pk : W.heap[B]? = some (.cells (pkC P a) 28 (0, 0))
  cs : RsAt W cb s y
  ps : PL W a.ps P.props
  c1 : w.heap.size < B
  c2 : B < cb
  pf : ∀ g i, a.ps = some ⟨g, i, none⟩ → cb < g
section
variable {w W W' : World} {B cb : Nat} {s : ByteArray} {P : Pk} {a : Ad} {y z : Cs} {v f : Int}
theorem RvS.call (h : RvS w B cb s P a y W) (hg : W.grownBy W' (some cb)) (hy : RsAt W' cb s z) : RvS w B cb s P a z W' := by
  have h1 := h.c1
  have h2 := h.c2
  exact ⟨h.low.grown hg h.low.size (fun k e => by have := Option.some.inj e; omega), (hg.block _ (lt_of_block h.rs) (fun e => by have := Option.some.inj e; omega)).trans h.rs, (hg.block _ (lt_of_block h.pk) (fun e => by have := Option.some.inj e; omega)).trans h.pk, hy,
   h.ps.grown hg (fun g i e => by have := h.pf g i e; omega), h1, h2, h.pf⟩
theorem RvS.below (h : RvS w B cb s P a y W) (hb : Below W.heap.size W W') : RvS w B cb s P a y W' := h.call (grown_of_below hb _) (h.cs.below hb)
theorem RvS.cell (h : RvS w B cb s P a y W) (j : Nat) : W.cell? ⟨B, j, none⟩ = (pkC P a)[j]? := cell_of_row _ _ j _ _ _ h.pk
theorem RvS.fr (h : RvS w B cb s P a y W) (j : Nat) : W.frozen? ⟨B, j, none⟩ = false := frozen_of_row _ _ _ _ _ h.pk
theorem RvS.put (h : RvS w B cb s P a y W) (j : Nat) (u : Value) {P' : Pk} {a' : Ad} (he : (pkC P a).setIfInBounds j u = pkC P' a') (hp : PL W a'.ps P'.props) (pf : ∀ g i, a'.ps = some ⟨g, i, none⟩ → cb < g) : RvS w B cb s P' a' y (W.setCell ⟨B, j, none⟩ u) := by
  have h1 := h.c1
  have h2 := h.c2
  have hk := setCell_block h.pk j u
  rw [he] at hk
  exact ⟨h.low.setCell (show w.heap.size ≤ (⟨B, j, none⟩ : Addr).block by show w.heap.size ≤ B; omega) u, (heap_setCell_other W ⟨B, j, none⟩ _ u (by show w.heap.size ≠ B; omega)).trans h.rs, hk, h.cs.of_block (heap_setCell_other W ⟨B, j, none⟩ _ u (by show cb ≠ B; omega)),
    hp.grown (block_kept W B j u) (fun g i e => by have := pf g i e; omega), h1, h2, pf⟩
theorem RvS.res (h : RvS w B cb s P a y W) : RvS w B cb s P a y (W.setRow w.heap.size pkZ) := by
  have h1 := h.c1
  have h2 := h.c2
  exact ⟨belowRow h.low (Nat.le_refl _) _, setRow_heap _ _ _ _ _ _ h.rs, (setRow_other _ _ _ _ (by omega)).trans h.pk, h.cs.of_block (setRow_other _ _ _ _ (by omega)),
    h.ps.kept (Nat.le_of_eq (setRow_size _ _ _).symm) (fun g i e _ => setRow_other _ _ _ _ (by have := h.pf g i e; omega)), h1, h2, h.pf⟩
theorem RvS.e2 (h : RvS w B cb s P a y W) : W.cell? ⟨cb, 2, none⟩ = some (.int .i64 (y.e : Nat)) := by
  obtain ⟨i, _, hc, _⟩ := h.cs
  exact hc.c2
theorem RvS.at_ (h : RvS w B cb s P a y W) (hf : FitU P) : PkAt W P a :=
  ⟨by rw [hf.2.2.2.2]; exact fun e => absurd rfl e, by rw [hf.2.2.1]; exact CL.nil, by rw [hf.2.2.2.1]; exact CL.nil, h.ps⟩
end
/-- What stands ahead of the cursor. -/
structure RvB (w : World) (B : Nat) (P : Pk) (W : World) : Prop where
  low : Below w.heap.size w W
  rs : W.heap[w.heap.size]? = some (.cells pkZ 28 (0, 0))
  pk : W.heap[B]? = some (.cells (pkC P adZ) 28 (0, 0))
  c1 : w.heap.size < B
section
variable {w W W' : World} {B : Nat} {P : Pk} {s : ByteArray} {y : Cs}
theorem RvB.cell (h : RvB w B P W) (j : Nat) : W.cell? ⟨B, j, none⟩ = (pkC P adZ)[j]? := cell_of_row _ _ j _ _ _ h.pk
theorem RvB.fr (h : RvB w B P W) (j : Nat) : W.frozen? ⟨B, j, none⟩ = false := frozen_of_row _ _ _ _ _ h.pk
theorem RvB.put (h : RvB w B P W) (j : Nat) (u : Value) {P' : Pk} (he : (pkC P adZ).setIfInBounds j u = pkC P' adZ) : RvB w B P' (W.setCell ⟨B, j, none⟩ u) := by
  have h1 := h.c1
  have hk := setCell_block h.pk j u
  rw [he] at hk
  exact ⟨h.low.setCell (show w.heap.size ≤ (⟨B, j, none⟩ : Addr).block by show w.heap.size ≤ B; omega) u, (heap_setCell_other W ⟨B, j, none⟩ _ u (by show w.heap.size ≠ B; omega)).trans h.rs, hk, h1⟩
theorem RvB.to (h : RvB w B P W) (hb : Below W.heap.size W W') (hc : RsAt W' W.heap.size s y) (hp : P.props = []) : RvS w B W.heap.size s P adZ y W' :=
  ⟨below_then h.low hb, (hb.block _ (lt_of_block h.rs)).trans h.rs, (hb.block _ (lt_of_block h.pk)).trans h.pk, hc, by rw [hp]; exact fun e => absurd rfl e, h.c1, lt_of_block h.pk, fun g i e => by cases e⟩
end
/-- Read's parts behind the topic. -/
def restU (v f : Int) (t : List UInt8) (y : Cs) : Pk × Cs :=
  let i := y.optN (f / 2 % 4 != 0)
  let p := i.2.props v 3
  let x := p.2.take p.2.r.length
  ({ descU f with topic := t, id := (i.1 : Nat), props := p.1, payload := x.1 }, x.2)
theorem read_ref {v f : Int} (l : List UInt8) : readU v f l = if verH v = false then (Pk.zero, 2) else if checkH v ⟨3, f, 0⟩ ≠ 0 then (Pk.zero, 7)
    else if (rdT l).2.2 ≠ 0 then (Pk.zero, (rdT l).2.2) else
      let x := restU v f (rdT l).1 ⟨l.drop (rdT l).2.1, 0⟩
      let d := x.2.fail (validU v x.1)
      if d.e ≠ 0 then (Pk.zero, d.e) else (x.1, 0) := by
  have hc := check_u v f
  by_cases hv : verH v = false
  · rw [if_pos hv]
    rw [if_pos hv] at hc
    unfold readU
    rw [hc, if_pos (by decide)]
  · rw [if_neg hv]
    rw [if_neg hv] at hc
    by_cases h0 : checkH v ⟨3, f, 0⟩ = 0
    · have n0 : ¬ checkH v ⟨3, f, 0⟩ ≠ 0 := by simpa using h0
      rw [if_neg n0]
      unfold readU
      rw [if_neg n0]
      have ht : (Cs.mk l 0).text = ((rdT l).1, ⟨l.drop (rdT l).2.1, (rdT l).2.2⟩) := by
        unfold Cs.text
        rw [if_neg (show ¬ (0 : Nat) ≠ 0 from fun h => h rfl)]
      unfold partsU
      rw [ht]
      simp only
      generalize (rdT l).1 = t
      generalize l.drop (rdT l).2.1 = r
      generalize (rdT l).2.2 = e
      by_cases he : e = 0
      · subst he
        rw [if_neg (show ¬ (0 : Nat) ≠ 0 from fun h => h rfl)]
        unfold restU
        simp only
        generalize (Cs.mk r 0).optN (f / 2 % 4 != 0) = i
        generalize i.2.props v 3 = p
        obtain ⟨L, ⟨r2, e2⟩⟩ := p
        by_cases h2 : e2 = 0
        · subst h2
          have hx : (Cs.mk r2 0).take r2.length = (r2, ⟨[], 0⟩) := by
            unfold Cs.take
            rw [if_neg (show ¬ (0 : Nat) ≠ 0 from fun h => h rfl), if_neg (show ¬ r2.length < r2.length by omega)]
            simp
          simp only [hx, fail_e, ne_eq, not_true_eq_false, if_false]
        · have hx : (Cs.mk r2 e2).take r2.length = ([], ⟨r2, e2⟩) := by
            unfold Cs.take
            rw [if_pos h2]
          simp only [hx, fail_e, ne_eq, h2, not_false_eq_true, if_true]
      · rw [if_pos he]
        have h1 : ((Cs.mk r e).optN (f / 2 % 4 != 0)).2 = ⟨r, e⟩ := optN_err he
        rw [h1]
        have h2 : ((Cs.mk r e).props v 3).2 = ⟨r, e⟩ := props_err he
        rw [h2]
        have hf : ∀ n, (Cs.mk r e).fail n = ⟨r, e⟩ := fun n => by
          unfold Cs.fail
          rw [if_pos he]
        simp only [hf, ne_eq, he, not_false_eq_true, if_true]
    · rw [if_pos h0]
      have h7 : checkH v ⟨3, f, 0⟩ = 7 := by
        rw [hc] at h0 ⊢
        split at h0
        · rename_i h; rw [if_pos h]
        · exact absurd rfl h0
      unfold readU
      rw [h7, if_pos (by decide)]
theorem num_two_lt (x : Cs) : (x.num 2).1 < 65536 := by
  have h : (x.take 2).1.length ≤ 2 := by
    unfold Cs.take
    split
    · exact Nat.zero_le _
    · split
      · exact Nat.zero_le _
      · simp; omega
  exact Nat.lt_of_lt_of_le (num_lt (x.take 2).1) (Nat.pow_le_pow_right (n := 256) (by decide) h)
/-- A number of two bytes. -/
def Two (n : Nat) : Prop := n < 65536
set_option maxRecDepth 100000 in
set_option maxHeartbeats 4000000 in
theorem ru_read (v f : Int) (s : ByteArray) (w : World) (hm : s.size ≤ 2000) :
    Calls Tryz.prog 27 #[.int .i64 v, .int .i64 f, .string s] w (RvRet w (readU v f s.data.toList)) := by
  have VE := Lib.hid (fun W => ref_version v W)
  have CK := fun W => ref_check7 v ⟨3, f, 0⟩ W
  unfold hdV at CK
  replace CK := Lib.hid CK
  have RD := Lib.hid (fun W => ref_read s W (by omega))
  have HZ := Lib.hid pkZ_size
  have hzv := zero_pk
  have hne : ¬ pkZ = #[] := by intro h; have := pkZ_size; rw [h] at this; cases this
  obtain ⟨R, hR⟩ : ∃ R, readU v f s.data.toList = R := ⟨_, rfl⟩
  rw [hR]
  rw [read_ref] at hR
  have HR := Lib.hid hR
  have HM := Lib.hid hm
  have RS0 := Lib.hid (heap_alloc_new w (.cells pkZ 28))
  have L0 := Lib.hid (below_box (w := w) (.cells pkZ 28))
  have ZW := Lib.hid (show (w.alloc (.cells pkZ 28)).heap.size = w.heap.size + 1 by simp)
  clear hR hm
  go_enter Tryz.func27, Tryz.ntmps27
  go_upto_region 1 with fail
  generalize w.alloc (.cells pkZ 28) = W0 at *
  go_wp2_with fail
  refine (VE.out _).mono ?_
  rintro e W1 ⟨rfl, rfl⟩
  cases hv : verH v with
  | false =>
    have RT := Lib.hid (show RvRet w R (.returned (.tuple #[.agg pkZ, .int .i64 2])) (W0.setRow w.heap.size pkZ) by rw [← HR.out, if_pos hv]; exact ⟨adZ, rfl, zero_at _, belowRow L0.out (Nat.le_refl _) _⟩)
    clear HR HM hv
    go_wp2_with (first
      | (refine wpList_buildTo rfl 28 _ rfl (some _) rfl pkZ (by kernel_rfl) ?_)
      | (refine wpList_store_row rfl _ _ _ rfl w.heap.size pkZ rfl rfl 28 _ RS0.out (by rw [HZ.out]; exact info_pk) rfl (show pkZ.all (·.oneCell') = true from pkC_one Pk.zero adZ) ?_))
    refine ret_row2 (cs := pkZ) rfl rfl rfl rfl Tryz.underlying28 rfl (by rw [HZ.out]; exact info_pk) (setRow_heap _ _ _ _ _ _ RS0.out) ?_
    exact RT.out
  | true =>
    have hR := HR.out
    rw [if_neg (by rw [hv]; decide)] at hR
    obtain ⟨c, hc⟩ : ∃ c, checkH v ⟨3, f, 0⟩ = c := ⟨_, rfl⟩
    rw [hc] at hR
    have CK' := CK.out
    clear CK
    simp only [hc] at CK'
    have CK := Lib.hid CK'
    have HV := Lib.hid hv
    have HC := Lib.hid hc
    have HR := Lib.hid hR
    clear hR CK' hv hc VE
    go_wp2_with fail
    refine (CK.out _).mono ?_
    rintro e W1 ⟨rfl, hb⟩
    have L1 := Lib.hid (below_then L0.out hb)
    have RS1 := Lib.hid ((hb.block _ (by rw [ZW.out]; omega)).trans RS0.out)
    have ZW1 := Lib.hid (show w.heap.size < W1.heap.size from lt_of_block RS1.out)
    clear hb L0 RS0 ZW
    by_cases h0 : c = 0
    · have hR := HR.out
      have hcz := HC.out
      have hvv := HV.out
      rw [if_neg (show ¬ c ≠ 0 from fun h => h h0)] at hR
      have hfl : flagsH 3 f = true := by
        rw [check_u, if_neg (by rw [hvv]; decide)] at hcz
        split at hcz
        · rw [h0] at hcz; cases hcz
        · rename_i h; simpa using h
      obtain ⟨f0, f1⟩ := flags_range hfl
      have V45 := Lib.hid (ver_u hvv)
      have FD : FitU (descU f) := by rw [← desc_u hfl]; exact fit_desc f (by rw [desc_u hfl]; show _ ≤ f / 2 % 4 ∧ f / 2 % 4 ≤ _; omega)
      replace FD := Lib.hid FD
      obtain ⟨D, hD⟩ : ∃ D, pkC (descU f) adZ = D := ⟨_, rfl⟩
      have hD1 := pkC_size (descU f) adZ
      have hD2 := pkC_one (descU f) adZ
      rw [hD] at hD1 hD2
      have HD := Lib.hid hD
      have HD1 := Lib.hid hD1
      have HD2 := Lib.hid hD2
      have HR := Lib.hid hR
      have d0 : ((c : Int) != 0) = false := by rw [h0]; rfl
      obtain ⟨n, rfl⟩ : ∃ n : Nat, f = (n : Int) := ⟨f.toNat, by omega⟩
      have f2 : (n : Int) < 16 := by omega
      clear hR hcz hvv hfl f0 f1 hD hD1 hD2 h0 HV HC CK
      have GN := Lib.hid (heap_alloc_new W1 (.cells pkZ 28))
      have B2 := Lib.hid (show RvB w W1.heap.size (descU n) ((W1.alloc (.cells pkZ 28)).setRow W1.heap.size D) from
        ⟨belowRow (below_then L1.out (below_box _)) (Nat.le_of_lt ZW1.out) _, (setRow_other _ _ _ _ (by have := ZW1.out; omega)).trans ((heap_alloc_old _ _ ZW1.out).trans RS1.out), by rw [HD.out]; exact setRow_heap _ _ _ _ _ _ GN.out, ZW1.out⟩)
      go_upto_region 6 with (first
        | (refine wpList_buildTo rfl 28 _ rfl (some _) rfl D (by rw [← HD.out]; kernel_rfl) ?_)
        | (refine wpList_store_row rfl _ _ _ rfl W1.heap.size D rfl rfl 28 _ GN.out (by rw [HD1.out]; exact info_pk) (by rw [HZ.out, HD1.out]) HD2.out ?_))
      generalize (W1.alloc (.cells pkZ 28)).setRow W1.heap.size D = W2 at *
      generalize W1.heap.size = B at *
      have RDx := RD.out
      unfold ok3 at RDx
      obtain ⟨t, ht⟩ : ∃ t, (rdT s.data.toList).1 = t := ⟨_, rfl⟩
      obtain ⟨z, hz⟩ : ∃ z, (rdT s.data.toList).2.1 = z := ⟨_, rfl⟩
      obtain ⟨te, hte⟩ : ∃ e, (rdT s.data.toList).2.2 = e := ⟨_, rfl⟩
      have hR := HR.out
      simp only [ht, hz, hte] at RDx hR
      have hzl : z ≤ s.size := by
        have := (rdT_le s.data.toList).1
        rw [hz, ← size_list] at this; exact this
      have htl : t.length ≤ 65535 := by
        have := (rdT_le s.data.toList).2
        rw [ht] at this; exact this
      have HR := Lib.hid hR
      replace RDx := Lib.hid RDx
      have ZL := Lib.hid hzl
      have TL := Lib.hid htl
      clear hR ht hz hte hzl htl RD GN HD HD1 HD2 L1 RS1 ZW1
      go_wp2_with fail
      refine (RDx.out _).mono ?_
      rintro e W3 ⟨rfl, rfl⟩
      by_cases h0 : te = 0
      · have d1 : ((te : Int) != 0) = false := by rw [h0]; rfl
        have hR := HR.out
        rw [if_neg (show ¬ te ≠ 0 from fun h => h h0)] at hR
        have HR := Lib.hid hR
        have n5 := B2.out.cell 5
        have f5 := B2.out.fr 5
        change _ = some (Value.string (bs [])) at n5
        have B3 := Lib.hid (B2.out.put 5 (.string (bs t)) (P' := { descU n with topic := t }) rfl)
        have hzs : (z : Int) ≤ (s.size : Int) := by have := ZL.out; omega
        clear hR h0 B2 RDx
        have NW := fun W => (ref_new (bs (s.data.toList.drop z)) W).mono fun e W' (hh : _ ∧ _) => (⟨hh.1, ⟨0, Nat.zero_le _, hh.2.1, by simp [bs_data]⟩, hh.2.2⟩ : _ ∧ RsAt W' W.heap.size (bs (s.data.toList.drop z)) ⟨s.data.toList.drop z, 0⟩ ∧ Below W.heap.size W W')
        have EX := extract_rest s z ZL.out
        have M2 := Lib.hid (show (bs (s.data.toList.drop z)).size ≤ 2000 by rw [bs_size, List.length_drop, ← size_list]; have := HM.out; omega)
        replace NW := Lib.hid NW
        go_upto_region 10 with fail
        generalize W2.setCell ⟨B, 5, none⟩ (.string (bs t)) = W4 at *
        clear n5 f5
        go_wp2_with fail
        generalize s.data.toList.drop z = l at *
        generalize bs l = u at *
        refine (NW.out _).mono ?_
        rintro e W5 ⟨rfl, hc, hb⟩
        have S5 := Lib.hid (B3.out.to hb hc rfl)
        clear hc hb B3 NW EX
        generalize W4.heap.size = cb at *
        have n3 := S5.out.cell 3
        change _ = some (Value.int .i64 ((n : Int) / 2 % 4)) at n3
        obtain ⟨i, hi⟩ : ∃ i, (Cs.mk l 0).optN ((n : Int) / 2 % 4 != 0) = i := ⟨_, rfl⟩
        obtain ⟨ix, y⟩ := i
        obtain ⟨q, hq⟩ : ∃ q : Int, (n : Int) / 2 % 4 = q := ⟨_, rfl⟩
        have hq0 : 0 ≤ q := by omega
        have hR := HR.out
        unfold restU at hR
        rw [hi] at hR
        rw [hq] at hi n3
        have HR := Lib.hid hR
        have HI := Lib.hid hi
        clear hR hi
        go_upto_if 50 with fail
        have hm9 : u.size ≤ 9223372036854775807 := by have := M2.out; omega
        have M9 := Lib.hid hm9
        clear hm9
        go_cut [] (fun wx => RvS w B cb u { descU n with topic := t, id := (ix : Nat) } adZ y wx)
        case first =>
          have hi := HI.out
          by_cases h0 : q = 0
          · subst h0
            obtain ⟨rfl, rfl⟩ := Prod.mk.inj (show ((0 : Nat), Cs.mk l 0) = (ix, y) from hi)
            clear hi HI HR hq0
            go_wp2_with fail
            go_meet
            exact S5.out
          · have g1 : decide (0 < q) = true := decide_eq_true (by omega)
            have hb : (q != 0) = true := by simpa using h0
            rw [hb] at hi
            have hlt := num_two_lt (Cs.mk l 0)
            have O1 := fun W (h : RsAt W cb u ⟨l, 0⟩) => rs_num 2 (by decide) M9.out h
            rw [show (Cs.mk l 0).num 2 = (ix, y) from hi] at O1 hlt
            have HLT : Two ix := hlt
            replace O1 := Lib.hid O1
            clear hi hb h0 HI HR hlt f2 hzs hq0 hq
            simp only at O1
            go_wp2_with fail
            refine (O1.out _ S5.out.cs).mono ?_
            rintro e W6 ⟨rfl, hc, hg⟩
            have S6 := Lib.hid (S5.out.call hg hc)
            have n4 := S6.out.cell 4
            have f4 := S6.out.fr 4
            change _ = some (Value.int .i64 0) at n4
            have S7 := Lib.hid (S6.out.put 4 (.int .i64 (ix : Nat)) (P' := { descU n with topic := t, id := (ix : Nat) }) (a' := adZ) rfl (fun e => absurd rfl e) (fun g i e => by cases e))
            clear hc hg S5 S6 O1
            have hlt : (ix : Int) < 65536 := by unfold Two at HLT; omega
            go_wp2_with fail
            go_meet
            exact S7.out
            have h1 := of_decide_eq_true g1
            omega
        case rest =>
          have S6 := Lib.hid hcut
          clear hcut S5 HI n3
          obtain ⟨L, hL⟩ : ∃ L, y.props v 3 = L := ⟨_, rfl⟩
          obtain ⟨L, y2⟩ := L
          obtain ⟨Pl, hPl⟩ : ∃ x, y2.take y2.r.length = x := ⟨_, rfl⟩
          obtain ⟨pl, y3⟩ := Pl
          have hfit := props_fit y v 3
          have PR := fun W (h : RsAt W cb u y) => rs_props v 3 V45.out (by decide) (by decide) M2.out h
          have LE := fun W (h : RsAt W cb u y2) => rs_left M9.out h
          have TK := fun W (h : RsAt W cb u y2) => rs_take y2.r.length M9.out h
          have hR := HR.out
          simp only [hL, hPl] at hR PR TK hfit
          obtain ⟨P3, hP3⟩ : ∃ P : Pk, { descU n with topic := t, id := (ix : Nat), props := L, payload := pl } = P := ⟨_, rfl⟩
          rw [hP3] at hR
          have FT3 : pl.length ≤ 2000 → FitU P3 := fun hpl => by rw [← hP3]; exact fit_payload (fit_props (fit_id (fit_topic FD.out t TL.out) (ix : Nat)) L hfit.2 hfit.1) pl (by omega)
          have hpl : y2.r.length ≤ 2000 → pl.length ≤ 2000 := fun h => by
            have h2 := congrArg (fun z => z.1.length) hPl
            simp only at h2
            rw [← h2]
            unfold Cs.take
            split
            · exact Nat.zero_le _
            · split
              · exact Nat.zero_le _
              · simp; omega
          have RU3 : ∀ A cc, L.length ≤ cc → cc ≤ 9223372036854775807 → RuP P3 { adZ with ps := A, pc := cc } := fun A cc h1 h2 => by
            rw [← hP3]
            exact ⟨Nat.le_trans hfit.2 (by decide), h1, h2, fun x hx => Nat.le_trans (hfit.1 x hx).2.1 (by decide), Nat.le_trans TL.out (by decide)⟩
          have RU3 := Lib.hid RU3
          have HR := Lib.hid hR
          replace PR := Lib.hid PR
          replace LE := Lib.hid LE
          replace TK := Lib.hid TK
          have HP3 := Lib.hid hP3
          replace FT3 := Lib.hid FT3
          replace hpl := Lib.hid hpl
          clear hR hPl hL hP3 hfit M9 FD TL
          go_wp2_with fail
          refine (PR.out _ S6.out.cs).mono ?_
          rintro e W7 ⟨⟨A, cc, rfl, hl, hlm, hp, hA⟩, hc, hg⟩
          have hyl : y2.r.length ≤ 2000 := by
            obtain ⟨i, _, _, hr⟩ := hc
            rw [← hr, List.length_drop, ← size_list]
            have := M2.out; omega
          have F3 := Lib.hid (FT3.out (hpl.out hyl))
          have R3 := Lib.hid (RU3.out A cc hl hlm)
          have LT6 := S6.out.cs.lt
          have S7 := Lib.hid (S6.out.call hg hc)
          have S8 := Lib.hid (S7.out.put 24 (.slice A L.length cc) (P' := { descU n with topic := t, id := (ix : Nat), props := L }) (a' := { adZ with ps := A, pc := cc }) rfl hp (fun g i e => Nat.lt_of_lt_of_le LT6 (hA g i e)))
          have n24 := S7.out.cell 24
          have f24 := S7.out.fr 24
          change _ = some (Value.slice none 0 0) at n24
          clear hl hlm hp hA hc hg hyl LT6 S6 S7 PR FT3 RU3 hpl M2
          go_upto_region 14 with fail
          generalize W7.setCell ⟨B, 24, none⟩ (.slice A L.length cc) = W8 at *
          clear n24 f24
          go_wp2_with fail
          refine (LE.out _ S8.out.cs).mono ?_
          rintro e W9 ⟨rfl, hc, hg⟩
          have S9 := Lib.hid (S8.out.call hg hc)
          clear hc hg S8 LE
          go_wp2_with fail
          refine (TK.out _ S9.out.cs).mono ?_
          rintro e W10 ⟨rfl, hc, hg⟩
          have S10 := Lib.hid (S9.out.call hg hc)
          have n6 := S10.out.cell 6
          have f6 := S10.out.fr 6
          change _ = some (Value.string (bs [])) at n6
          have S11 := S10.out.put 6 (.string (bs pl)) (P' := { descU n with topic := t, id := (ix : Nat), props := L, payload := pl }) (a' := { adZ with ps := A, pc := cc }) rfl S10.out.ps S10.out.pf
          rw [HP3.out] at S11
          replace S11 := Lib.hid S11
          clear hc hg S9 S10 TK HP3
          go_upto_region 15 with fail
          generalize W10.setCell ⟨B, 6, none⟩ (.string (bs pl)) = W11 at *
          clear n6 f6
          obtain ⟨a3, ha3⟩ : ∃ a, ({ adZ with ps := A, pc := cc } : Ad) = a := ⟨_, rfl⟩
          rw [ha3] at S11 R3
          have VA := ru_valid v P3 a3 W11 (S11.out.at_ F3.out) F3.out.2.1 F3.out.1 R3.out
          obtain ⟨F, hF⟩ : ∃ F, validU v P3 = F := ⟨_, rfl⟩
          have hR := HR.out
          rw [hF] at VA hR
          obtain ⟨d, hd⟩ : ∃ d, y3.fail F = d := ⟨_, rfl⟩
          have FA := fun W (h : RsAt W cb u y3) => rs_fail F h
          rw [hd] at hR
          simp only [hd] at FA
          have C3 := Lib.hid (pkC_size P3 a3)
          have C4 := Lib.hid (pkC_one P3 a3)
          replace VA := Lib.hid VA
          replace FA := Lib.hid FA
          have HR4 := Lib.hid hR
          clear hR hF hd ha3 R3 HR
          go_wp2_with (refine wpList_load_row rfl _ _ rfl B rfl 28 _ (0, 0) _ S11.out.pk Tryz.underlying28 rfl (by rw [C3.out]; exact info_pk) ?_)
          refine (VA.out).mono ?_
          rintro e W12 ⟨rfl, hb⟩
          have S12 := Lib.hid (S11.out.below hb)
          clear hb S11 VA
          go_wp2_with fail
          refine (FA.out _ S12.out.cs).mono ?_
          rintro e W13 ⟨rfl, hc, hg⟩
          have S13 := Lib.hid (S12.out.call hg hc)
          have n2 := S13.out.e2
          clear hc hg S12 FA
          go_upto_if 73 with fail
          by_cases h0 : d.e = 0
          · have hR := HR4.out
            rw [if_neg (show ¬ d.e ≠ 0 from fun h => h h0)] at hR
            have d2 : ((d.e : Int) != 0) = false := by rw [h0]; rfl
            have RT := Lib.hid (show RvRet w R (.returned (.tuple #[.agg (pkC P3 a3), .int .i64 0])) (W13.setRow w.heap.size (pkC P3 a3)) by
              rw [← hR]
              have h1 := S13.out.c1
              have h2 := S13.out.c2
              have hp : PL (W13.setRow w.heap.size (pkC P3 a3)) a3.ps P3.props := S13.out.ps.kept (Nat.le_of_eq (setRow_size _ _ _).symm) (fun g i e _ => setRow_other _ _ _ _ (by have := S13.out.pf g i e; omega))
              exact ⟨a3, rfl, ⟨by rw [F3.out.2.2.2.2]; exact fun e => absurd rfl e, by rw [F3.out.2.2.1]; exact CL.nil, by rw [F3.out.2.2.2.1]; exact CL.nil, hp⟩, belowRow S13.out.low (Nat.le_refl _) _⟩)
            clear h0 hR HR4 F3
            go_wp2_with (first
              | (refine wpList_load_row rfl _ _ rfl B rfl 28 _ (0, 0) _ S13.out.pk Tryz.underlying28 rfl (by rw [C3.out]; exact info_pk) ?_)
              | (refine wpList_store_row rfl _ _ _ rfl w.heap.size (pkC P3 a3) rfl rfl 28 _ S13.out.rs (by rw [C3.out]; exact info_pk) (by rw [HZ.out, C3.out]) C4.out ?_))
            refine ret_row2 (cs := pkC P3 a3) rfl rfl rfl rfl Tryz.underlying28 rfl (by rw [C3.out]; exact info_pk) (setRow_heap _ _ _ _ _ _ S13.out.rs) ?_
            exact RT.out
          · have hR := HR4.out
            rw [if_pos h0] at hR
            have d2 : ((d.e : Int) != 0) = true := by simpa using h0
            have RT := Lib.hid (show ∀ W, Below w.heap.size w W → RvRet w R (.returned (.tuple #[.agg pkZ, .int .i64 (d.e : Nat)])) W by
              rw [← hR]
              exact fun W hb => ⟨adZ, rfl, zero_at _, hb⟩)
            clear h0 hR HR4 F3
            go_upto_region 17 with fail
            refine pu_bad (T := fun W => RvS w B cb u P3 a3 d W) (B := w.heap.size) (cb := cb) (z := ((d.e : Nat) : Int)) (S13.out.below ((Below.refl _ _).drew)) (fun W h => h.e2) (fun W h => h.rs) (fun W h => h.res) ?_
            intro W h
            have GR := Lib.hid h.rs
            have RT := Lib.hid (RT.out W h.low)
            clear h
            go_wp2_with fail
            refine ret_row2 (cs := pkZ) rfl rfl rfl rfl Tryz.underlying28 rfl (by rw [HZ.out]; exact info_pk) GR.out ?_
            exact RT.out
      · have hR := HR.out
        rw [if_pos h0] at hR
        have d2 : ((te : Int) != 0) = true := by simpa using h0
        have RT := Lib.hid (show RvRet w R (.returned (.tuple #[.agg pkZ, .int .i64 (te : Nat)])) (W2.setRow w.heap.size pkZ) by rw [← hR]; exact ⟨adZ, rfl, zero_at _, belowRow B2.out.low (Nat.le_refl _) _⟩)
        clear h0 hR HR RDx
        go_wp2_with (first
          | (refine wpList_buildTo rfl 28 _ rfl (some _) rfl pkZ (by kernel_rfl) ?_)
          | (refine wpList_store_row rfl _ _ _ rfl w.heap.size pkZ rfl rfl 28 _ B2.out.rs (by rw [HZ.out]; exact info_pk) rfl (show pkZ.all (·.oneCell') = true from pkC_one Pk.zero adZ) ?_))
        refine ret_row2 (cs := pkZ) rfl rfl rfl rfl Tryz.underlying28 rfl (by rw [HZ.out]; exact info_pk) (setRow_heap _ _ _ _ _ _ B2.out.rs) ?_
        exact RT.out
    · have RT := Lib.hid (show RvRet w R (.returned (.tuple #[.agg pkZ, .int .i64 7])) (W1.setRow w.heap.size pkZ) by rw [← HR.out, if_pos h0]; exact ⟨adZ, rfl, zero_at _, belowRow L1.out (Nat.le_refl _) _⟩)
      have d0 : ((c : Int) != 0) = true := by simpa using h0
      have d1 : ((c : Int) == 0) = false := by simpa using h0
      clear HR HM HV HC h0
      go_wp2_with (first
        | (refine wpList_buildTo rfl 28 _ rfl (some _) rfl pkZ (by kernel_rfl) ?_)
        | (refine wpList_store_row rfl _ _ _ rfl w.heap.size pkZ rfl rfl 28 _ RS1.out (by rw [HZ.out]; exact info_pk) rfl (show pkZ.all (·.oneCell') = true from pkC_one Pk.zero adZ) ?_))
      refine ret_row2 (cs := pkZ) rfl rfl rfl rfl Tryz.underlying28 rfl (by rw [HZ.out]; exact info_pk) (setRow_heap _ _ _ _ _ _ RS1.out) ?_
      exact RT.out
end Go.Proofs.YtaahhbjnflimnaaGreat
namespace Go.Proofs.YtaahhbjnflimnaaGreat
open Go.RowKit

theorem weight_pub {l : List Pr} {n : Nat} (h : weightP l ≤ n) : ∀ x ∈ l, x.text.length ≤ n := by
  induction l with
  | nil => intro x hx; cases hx
  | cons y l ih =>
    intro x hx
    have e : weightP (y :: l) = y.text.length + y.value.length + weightP l := by simp [weightP]
    rw [e] at h
    rcases List.mem_cons.1 hx with rfl | hx
    · omega
    · exact ih (by omega) x hx
theorem light_ru {p : Pk} {a : Ad} (h : lightK p = true) (ca : p.props.length ≤ a.pc) (cm : a.pc ≤ 9223372036854775807) : RuP p a := by
  obtain ⟨_, _, h3, _⟩ := lightK_short h
  unfold lightK lightP textsK at h
  simp only [Bool.and_eq_true, decide_eq_true_eq] at h
  exact ⟨h3, ca, cm, fun x hx => Nat.le_trans (weight_pub h.1.1.1.1.2 x hx) (by decide), by omega⟩
theorem light_short {p : Pk} (h : lightK p = true) : Short p := by
  obtain ⟨h1, h2, h3, h4⟩ := lightK_short h
  exact ⟨by omega, by omega, by omega, by omega⟩
/-- What stands ahead of the law's last statement. -/
structure PqS (w : World) (p : Pk) (a : Ad) (P : Pk) (b1 b2 : Nat) (a1 a2 : Ad) (W : World) : Prop where
  bx : BxS w p a W
  c : W.heap[b1]? = some (.cells (pkC P a1) 28 (0, 0))
  d : W.heap[b2]? = some (.cells (pkC P a2) 28 (0, 0))
  ac : PkAt W P a1
  ad : PkAt W P a2
theorem PqS.below {w W W' : World} {p P : Pk} {a a1 a2 : Ad} {b1 b2 : Nat} (h : PqS w p a P b1 b2 a1 a2 W) (hb : Below W.heap.size W W') : PqS w p a P b1 b2 a1 a2 W' :=
  ⟨h.bx.call hb, (hb.block _ (lt_of_block h.c)).trans h.c, (hb.block _ (lt_of_block h.d)).trans h.d, h.ac.below hb, h.ad.below hb⟩
set_option maxHeartbeats 2000000 in
set_option maxRecDepth 100000 in
theorem pubcalls_walk (v k : Int) (p : Pk) (a : Ad) (s : ByteArray) (w : World) (hp : PkAt w p a) (ok : PkOk p) (ca : PkCap p a) (cm : a.pc ≤ 9223372036854775807 ∧ a.wc ≤ 9223372036854775807) (hs : s.size ≤ 9223372036854775807) :
    Calls Tryz.prog 5 #[.int .i64 v, pkV p a, .int .i64 k, .string s] w fun e w' => e = .returned (.bool true) ∧ Below w.heap.size w w' := by
  have S0 := Lib.hid (BxS.made w p a)
  have LG := fun W (h : BxS w p a W) => light_pk p a W (hp.below h.low) ok
  have C1 := Lib.hid (pkC_size p a)
  have HZ := Lib.hid pkZ_size
  have hzv := zero_pk
  have hne : ¬ pkZ = #[] := by intro h; have := pkZ_size; rw [h] at this; cases this
  cases hl : lightK p with
  | false =>
    rw [hl] at LG
    have LG := Lib.hid LG
    clear hl
    unfold pkV at *
    go_enter Tryz.func5, Tryz.ntmps5
    go_wp2_with fail
    refine (lives_pub _).mono ?_
    rintro e W ⟨rfl, hb⟩
    have S1 := Lib.hid (S0.out.call hb)
    clear hb
    go_wp2_with (refine wpList_load_row rfl _ _ rfl w.heap.size rfl 28 _ (0, 0) _ S1.out.box Tryz.underlying28 rfl (by rw [C1.out]; exact info_pk) ?_)
    refine (LG.out _ S1.out).mono ?_
    rintro e W2 ⟨rfl, hb⟩
    have L2 := Lib.hid (below_then S1.out.low hb)
    clear hb
    go_wp2_with fail
    go_ret
    exact ⟨rfl, L2.out⟩
  | true =>
    rw [hl] at LG
    have sp := light_short hl
    have fp := light_ru hl ca.pc cm.1
    have LK := lightK_short hl
    have LG := Lib.hid LG
    clear hl
    by_cases h2 : 2000 < s.size
    · have hd : decide ((2000 : Int) < (s.size : Int)) = true := decide_eq_true (by omega)
      clear h2 LK
      unfold pkV at *
      go_enter Tryz.func5, Tryz.ntmps5
      go_wp2_with fail
      refine (lives_pub _).mono ?_
      rintro e W ⟨rfl, hb⟩
      have S1 := Lib.hid (S0.out.call hb)
      clear hb
      go_wp2_with (refine wpList_load_row rfl _ _ rfl w.heap.size rfl 28 _ (0, 0) _ S1.out.box Tryz.underlying28 rfl (by rw [C1.out]; exact info_pk) ?_)
      refine (LG.out _ S1.out).mono ?_
      rintro e W2 ⟨rfl, hb⟩
      have L2 := Lib.hid (below_then S1.out.low hb)
      clear hb
      go_wp2_with fail
      go_ret
      exact ⟨rfl, L2.out⟩
    · have hd : decide ((2000 : Int) < (s.size : Int)) = false := decide_eq_false (by omega)
      have h20 : s.size ≤ 2000 := by omega
      have OW := fun W (h : BxS w p a W) => own_packet p a W (hp.below h.low) (by omega) (by omega) (by omega) (by omega)
      have BO := fun (b : Ad) W (h : PkAt W p b) (hc : p.props.length ≤ b.pc ∧ p.wProps.length ≤ b.wc) => pub_body v p b W h sp ok hc.1
      have RB := fun W (h : BxS w p a W) => ru_body v p a W (hp.below h.low) sp ok fp
      have VA := fun W (h : BxS w p a W) => pub_valid v p a W (hp.below h.low) sp ok ca.pc
      have RV := fun W (h : BxS w p a W) => ru_valid v p a W (hp.below h.low) sp ok fp
      have FL := fun W (h : BxS w p a W) => pub_alias p a W (hp.below h.low) sp (fun x hx => (ok.pps x hx).1)
      have RF := fun W (h : BxS w p a W) => ru_alias p a W (hp.below h.low) sp (fun x hx => (ok.pps x hx).1)
      have RD := fun W => pub_read v k s W (by omega)
      have RR := fun W => ru_read v k s W h20
      obtain ⟨R, hR⟩ : ∃ R, readU v k s.data.toList = R := ⟨_, rfl⟩
      rw [hR] at RD RR
      have HR := Lib.hid hR
      obtain ⟨A, hA⟩ : ∃ A, bodyU v p = A := ⟨_, rfl⟩
      rw [hA] at RB
      have BO := fun b W h hc => BO b W h hc
      rw [hA] at BO
      have OW := Lib.hid OW
      have BO := Lib.hid BO
      have RB := Lib.hid RB
      have VA := Lib.hid VA
      have RV := Lib.hid RV
      have FL := Lib.hid FL
      have RF := Lib.hid RF
      have RD := Lib.hid RD
      have RR := Lib.hid RR
      have HP := Lib.hid hp
      clear h2 hs h20 hR hA LK sp fp ca cm ok hp
      unfold pkV at *
      go_enter Tryz.func5, Tryz.ntmps5
      go_wp2_with fail
      refine (lives_pub _).mono ?_
      rintro e W ⟨rfl, hb⟩
      have S1 := Lib.hid (S0.out.call hb)
      clear hb
      go_wp2_with (refine wpList_load_row rfl _ _ rfl w.heap.size rfl 28 _ (0, 0) _ S1.out.box Tryz.underlying28 rfl (by rw [C1.out]; exact info_pk) ?_)
      refine (LG.out _ S1.out).mono ?_
      rintro e W2 ⟨rfl, hb⟩
      have S2 := Lib.hid (S1.out.call hb)
      clear hb S1
      go_wp2_with (refine wpList_load_row rfl _ _ rfl w.heap.size rfl 28 _ (0, 0) _ S2.out.box Tryz.underlying28 rfl (by rw [C1.out]; exact info_pk) ?_)
      refine (OW.out _ S2.out).mono ?_
      rintro e W3 ⟨b, rfl, hat, hcb, hb⟩
      have S3 := Lib.hid (S2.out.call hb)
      have BB := Lib.hid (BO.out b W3 hat hcb)
      clear hb hat hcb S2 BO
      go_wp2_with fail
      refine (BB.out).mono ?_
      rintro e W4 ⟨rfl, hb⟩
      have S4 := Lib.hid (S3.out.call hb)
      clear hb S3 BB
      go_wp2_with (refine wpList_load_row rfl _ _ rfl w.heap.size rfl 28 _ (0, 0) _ S4.out.box Tryz.underlying28 rfl (by rw [C1.out]; exact info_pk) ?_)
      refine (RB.out _ S4.out).mono ?_
      rintro e W5 ⟨rfl, hb⟩
      have S5 := Lib.hid (S4.out.call hb)
      clear hb S4 RB
      go_wp2_with fail
      refine (RD.out _).mono ?_
      rintro e W6 ⟨a1, rfl, at1, _, fit1, hb, _⟩
      have F0 := Lib.hid fit1.2.1
      clear fit1
      have S6 := S5.out.call hb
      have hbx : Below W6.heap.size W6 ((W6.alloc (.cells pkZ 28)).setRow W6.heap.size (pkC R.1 a1)) := belowRow (below_box _) (Nat.le_refl _) _
      have S7 := Lib.hid (S6.call hbx)
      have AT7 := Lib.hid (at1.below hbx)
      have R7 := Lib.hid (setRow_heap _ _ _ (pkC R.1 a1) _ _ (heap_alloc_new W6 (.cells pkZ 28)))
      have HD1 := Lib.hid (pkC_size R.1 a1)
      have HD2 := Lib.hid (pkC_one R.1 a1)
      clear hb at1 S6 hbx S5
      go_upto_region 8 with (refine wpList_store_row rfl _ _ _ rfl W6.heap.size (pkC R.1 a1) rfl rfl 28 _ (heap_alloc_new W6 _) (by rw [HD1.out]; exact info_pk) (by rw [HZ.out, HD1.out]) HD2.out ?_)
      generalize (W6.alloc (.cells pkZ 28)).setRow W6.heap.size (pkC R.1 a1) = W7 at *
      generalize W6.heap.size = b1 at *
      go_wp2_with fail
      refine (RR.out _).mono ?_
      rintro e W8 ⟨a2, rfl, at2, hb⟩
      have hbx : Below W8.heap.size W8 ((W8.alloc (.cells pkZ 28)).setRow W8.heap.size (pkC R.1 a2)) := belowRow (below_box _) (Nat.le_refl _) _
      have hbb := below_then hb hbx
      have S9 := Lib.hid (show PqS w p a R.1 b1 W8.heap.size a1 a2 _ from ⟨S7.out.call hbb, (hbb.block _ (lt_of_block R7.out)).trans R7.out, setRow_heap _ _ _ (pkC R.1 a2) _ _ (heap_alloc_new W8 (.cells pkZ 28)), AT7.out.below hbb, at2.below hbx⟩)
      have HE1 := Lib.hid (pkC_size R.1 a2)
      have HE2 := Lib.hid (pkC_one R.1 a2)
      clear hb hbx hbb at2 S7 AT7 R7
      go_upto_region 9 with (refine wpList_store_row rfl _ _ _ rfl W8.heap.size (pkC R.1 a2) rfl rfl 28 _ (heap_alloc_new W8 _) (by rw [HE1.out]; exact info_pk) (by rw [HZ.out, HE1.out]) HE2.out ?_)
      generalize (W8.alloc (.cells pkZ 28)).setRow W8.heap.size (pkC R.1 a2) = W9 at *
      generalize W8.heap.size = b2 at *
      have SM := fun W (h : PqS w p a R.1 b1 b2 a1 a2 W) => (ksame_pk R.1 a1 a2 W h.ac h.ad F0.out.1 F0.out.2.1 F0.out.2.2.1 F0.out.2.2.2).mono fun e W' hh => (⟨hh.1, h.below hh.2⟩ : _ ∧ PqS w p a R.1 b1 b2 a1 a2 W')
      have V1 := fun W (h : PqS w p a R.1 b1 b2 a1 a2 W) => (VA.out W h.bx).mono fun e W' hh => (⟨hh.1, h.below hh.2⟩ : _ ∧ PqS w p a R.1 b1 b2 a1 a2 W')
      have V2 := fun W (h : PqS w p a R.1 b1 b2 a1 a2 W) => (RV.out W h.bx).mono fun e W' hh => (⟨hh.1, h.below hh.2⟩ : _ ∧ PqS w p a R.1 b1 b2 a1 a2 W')
      generalize (getP p.props 35).1.n = an at *
      generalize hasP p.props 35 = ab at *
      replace SM := Lib.hid SM
      replace V1 := Lib.hid V1
      replace V2 := Lib.hid V2
      go_wp2_with (refine wpList_load_row rfl _ _ rfl w.heap.size rfl 28 _ (0, 0) _ S9.out.bx.box Tryz.underlying28 rfl (by rw [C1.out]; exact info_pk) ?_)
      refine (FL.out _ S9.out.bx).mono ?_
      rintro e W10 ⟨rfl, hb⟩
      have S10 := Lib.hid (S9.out.below hb)
      clear hb S9
      go_wp2_with (refine wpList_load_row rfl _ _ rfl w.heap.size rfl 28 _ (0, 0) _ S10.out.bx.box Tryz.underlying28 rfl (by rw [C1.out]; exact info_pk) ?_)
      refine (RF.out _ S10.out.bx).mono ?_
      rintro e W11 ⟨rfl, hb⟩
      have S11 := Lib.hid (S10.out.below hb)
      clear hb S10
      go_upto_region 11 with fail
      refine pb_last (S := PqS w p a R.1 b1 b2 a1 a2) (b := w.heap.size) (b1 := b1) (b2 := b2) (S11.out.below (Below.refl _ _).drew) HD1.out HE1.out C1.out (fun W h => h.c) (fun W h => h.d) (fun W h => h.bx.box) SM.out V1.out V2.out ?_
      intro W h
      have LO := Lib.hid h.bx.low
      clear h SM V1 V2
      go_wp2_with fail
      go_ret
      exact ⟨rfl, LO.out⟩
end Go.Proofs.YtaahhbjnflimnaaGreat
