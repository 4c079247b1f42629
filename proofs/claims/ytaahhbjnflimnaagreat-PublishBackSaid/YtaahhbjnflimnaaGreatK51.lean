/-
  The walk of PublishBack. Condition: the packet's fields are what their types hold; the length of the string.
-/
import Derived.Deep.DeepCutAuto
import Derived.Test.YtaahhbjnflimnaaGreatK17
import Derived.Test.YtaahhbjnflimnaaGreatK48
import Derived.Test.YtaahhbjnflimnaaGreatK49
import Derived.Test.YtaahhbjnflimnaaGreatK29
import Derived.Test.YtaahhbjnflimnaaGreatK50
import Derived.Test.YtaahhbjnflimnaaGreatK09
namespace Go.Proofs.YtaahhbjnflimnaaGreat
open Go.RowKit

theorem light_pub {p : Pk} (h : lightK p = true) : Short p ∧ p.payload.length ≤ 140000 := by
  obtain ⟨h1, h2, h3, h4⟩ := lightK_short h
  refine ⟨⟨by omega, by omega, by omega, by omega⟩, ?_⟩
  unfold lightK textsK at h
  simp only [Bool.and_eq_true, decide_eq_true_eq] at h
  omega
/-- The law's flags. -/
theorem law_flags (p : Pk) (a : Ad) (w : World) (h0 : 0 ≤ p.qos) (h2 : p.qos ≤ 2) : Calls Tryz.prog 30 #[.agg (pkC p a)] w fun e w' => e = .returned (.int .i64 (packF p.dup p.retain p.qos)) ∧ Below w.heap.size w w' := by
  have S0 := Lib.hid (BxS.made w p a)
  have c1 : (w.alloc (.cells (pkC p a) 28)).cell? ⟨w.heap.size, 1, none⟩ = some (.bool p.dup) := S0.out.cell 1
  have c2 : (w.alloc (.cells (pkC p a) 28)).cell? ⟨w.heap.size, 2, none⟩ = some (.bool p.retain) := S0.out.cell 2
  have c3 : (w.alloc (.cells (pkC p a) 28)).cell? ⟨w.heap.size, 3, none⟩ = some (.int .i64 p.qos) := S0.out.cell 3
  unfold packF
  generalize p.qos = q at *
  generalize p.dup = d at *
  generalize p.retain = r at *
  cases d <;> cases r
  all_goals
    go_enter Tryz.func30, Tryz.ntmps30
    go_wp2_with fail
    go_ret
    refine ⟨?_, S0.out.low⟩
    simp
theorem tail_cut (x y : List UInt8) : (bs (x ++ y)).extract x.length (bs (x ++ y)).size = bs y := by
  rw [bs_drop _ _ (by rw [bs_size, List.length_append]; omega), bs_data, List.drop_left' rfl]
set_option maxHeartbeats 2000000 in
set_option maxRecDepth 100000 in
theorem pubback_walk (v f : Int) (p : Pk) (a : Ad) (s : ByteArray) (w : World) (hp : PkAt w p a) (ok : PkOk p) (ca : PkCap p a) (hs : s.size ≤ 9223372036854775807) :
    Calls Tryz.prog 6 #[.int .i64 v, pkV p a, .int .i64 f, .string s] w fun e w' => e = .returned (.bool true) ∧ Below w.heap.size w w' := by
  have S0 := Lib.hid (BxS.made w p a)
  have LG := fun W (h : BxS w p a W) => light_pk p a W (hp.below h.low) ok
  have C1 := Lib.hid (pkC_size p a)
  have HZ := Lib.hid pkZ_size
  have hzv := zero_pk
  have hne : ¬ pkZ = #[] := by intro h; have := pkZ_size; rw [h] at this; cases this
  cases hl : lightK p with
  | false =>
    rw [hl] at LG
    replace LG := Lib.hid LG
    clear hl
    unfold pkV at *
    go_enter Tryz.func6, Tryz.ntmps6
    go_wp2_with fail
    refine (lives_pub _).mono ?_
    rintro e W ⟨rfl, hb⟩
    have S1 := Lib.hid (S0.out.call hb)
    clear hb
    go_wp2_with (refine wpList_load_row rfl _ _ rfl w.heap.size rfl 28 _ (0, 0) _ S1.out.box Tryz.underlying28 rfl (by rw [C1.out]; exact info_pk) ?_)
    refine (LG.out _ S1.out).mono ?_
    rintro e W2 ⟨rfl, hb⟩
    have L2 := Lib.hid (below_then S1.out.low hb)
    clear hb
    go_wp2_with fail
    go_ret
    exact ⟨rfl, L2.out⟩
  | true =>
    rw [hl] at LG
    obtain ⟨sp, hpay⟩ := light_pub hl
    replace LG := Lib.hid LG
    clear hl
    by_cases h2 : 2000 < s.size
    · have hd : decide ((2000 : Int) < (s.size : Int)) = true := decide_eq_true (by omega)
      clear h2
      unfold pkV at *
      go_enter Tryz.func6, Tryz.ntmps6
      go_wp2_with fail
      refine (lives_pub _).mono ?_
      rintro e W ⟨rfl, hb⟩
      have S1 := Lib.hid (S0.out.call hb)
      clear hb
      go_wp2_with (refine wpList_load_row rfl _ _ rfl w.heap.size rfl 28 _ (0, 0) _ S1.out.box Tryz.underlying28 rfl (by rw [C1.out]; exact info_pk) ?_)
      refine (LG.out _ S1.out).mono ?_
      rintro e W2 ⟨rfl, hb⟩
      have L2 := Lib.hid (below_then S1.out.low hb)
      clear hb
      go_wp2_with fail
      go_ret
      exact ⟨rfl, L2.out⟩
    · have hd : decide ((2000 : Int) < (s.size : Int)) = false := decide_eq_false (by omega)
      have BO := fun W (h : BxS w p a W) => pub_body v p a W (hp.below h.low) sp ok ca.pc
      have VA := fun W (h : BxS w p a W) => pub_valid v p a W (hp.below h.low) sp ok ca.pc
      have HP := Lib.hid hp
      have SP := Lib.hid sp
      have HS := Lib.hid (show s.size ≤ 140737488351232 by omega)
      have hE : ∃ X : List UInt8, bodyU v p = (if validU v p = 0 then X ++ p.payload else [], validU v p) ∧ (validU v p = 0 → (0 ≤ p.qos ∧ p.qos ≤ 2) ∧ readU v (packF p.dup p.retain p.qos) (X ++ p.payload) = (p, 0) ∧ readU v (packF p.dup p.retain p.qos) (X ++ p.payload ++ [33]) = ({ p with payload := p.payload ++ [33] }, 0) ∧ X.length ≤ 1000000000) := by
        refine ⟨enc2 p.topic ++ idL p ++ tailC v 3 p.props, ?_, fun h => ⟨?_, ?_, ?_, ?_⟩⟩
        · unfold bodyU
          by_cases h : validU v p = 0
          · rw [if_neg (by simpa using h), if_pos h, raw_u, h]
          · rw [if_pos h, if_neg h]
        · have := qos_u (valid_u h).2.2.1
          exact ⟨this.1, this.2.1⟩
        · have := read_pub [] h
          rw [List.append_nil, List.append_nil, raw_u] at this
          exact this
        · have := read_pub [33] h
          rw [raw_u] at this
          exact this
        · obtain ⟨l1, l2, _⟩ := raw_u_len ok h
          have l4 := id_len p
          simp only [List.length_append]
          omega
      obtain ⟨X, hE, R1⟩ := hE
      obtain ⟨AA, hAA⟩ : ∃ AA, (if validU v p = 0 then X ++ p.payload else []) = AA := ⟨_, rfl⟩
      rw [hE, hAA] at BO
      generalize validU v p = E at *
      have RA := Lib.hid hAA
      clear hAA
      replace BO := Lib.hid BO
      replace VA := Lib.hid VA
      have R1 := Lib.hid R1
      have HPAY := Lib.hid hpay
      have hEE : ((E : Int) != (E : Int)) = false := by simp
      clear h2 hp sp hs hE ok ca hpay
      unfold pkV at *
      go_enter Tryz.func6, Tryz.ntmps6
      go_wp2_with fail
      refine (lives_pub _).mono ?_
      rintro e W ⟨rfl, hb⟩
      have S1 := Lib.hid (S0.out.call hb)
      clear hb
      go_wp2_with (refine wpList_load_row rfl _ _ rfl w.heap.size rfl 28 _ (0, 0) _ S1.out.box Tryz.underlying28 rfl (by rw [C1.out]; exact info_pk) ?_)
      refine (LG.out _ S1.out).mono ?_
      rintro e W2 ⟨rfl, hb⟩
      have S2 := Lib.hid (S1.out.call hb)
      clear hb S1 S0
      go_wp2_with (refine wpList_load_row rfl _ _ rfl w.heap.size rfl 28 _ (0, 0) _ S2.out.box Tryz.underlying28 rfl (by rw [C1.out]; exact info_pk) ?_)
      refine (BO.out _ S2.out).mono ?_
      rintro e W3 ⟨rfl, hb⟩
      have S3 := Lib.hid (S2.out.call hb)
      clear hb S2
      go_wp2_with (refine wpList_load_row rfl _ _ rfl w.heap.size rfl 28 _ (0, 0) _ S3.out.box Tryz.underlying28 rfl (by rw [C1.out]; exact info_pk) ?_)
      refine (VA.out _ S3.out).mono ?_
      rintro e W4 ⟨rfl, hb⟩
      have S4 := Lib.hid (S3.out.call hb)
      clear hb S3
      go_upto_if 41 with fail
      go_cut [] (fun wx => Below w.heap.size w wx)
      case first =>
        by_cases h0 : E = 0
        · have ha := RA.out
          rw [if_pos h0] at ha
          obtain ⟨hq, r1, r2, hx⟩ := R1.out h0
          subst h0
          have FL := fun W => law_flags p a W hq.1 hq.2
          have hz := HPAY.out
          have hsz : (bs AA).size = X.length + p.payload.length := by rw [bs_size, ← ha, List.length_append]
          have RE := fun W => pub_read v (packF p.dup p.retain p.qos) (bs AA) W (by omega)
          rw [bs_data, ← ha, r1, ha] at RE
          have RM := fun W => pub_read v (packF p.dup p.retain p.qos) (bs (AA ++ [33])) W (by rw [bs_size, List.length_append, ← ha, List.length_append, List.length_cons, List.length_nil]; omega)
          rw [bs_data, ← ha, r2] at RM
          have ea : bs AA ++ ⟨#[33]⟩ = bs (AA ++ [33]) := bs_append AA [33]
          have ep : bs p.payload ++ ⟨#[33]⟩ = bs (p.payload ++ [33]) := bs_append p.payload [33]
          have CT := tail_cut X p.payload
          rw [ha] at CT
          rw [ha] at RM
          have hps : (bs p.payload).size = p.payload.length := bs_size _
          have g1 : ¬ 9223372036854775807 < (bs AA).size + (⟨#[33]⟩ : ByteArray).size := by rw [hsz, show (⟨#[33]⟩ : ByteArray).size = 1 from rfl]; omega
          have g2 : ¬ 9223372036854775807 < (bs p.payload).size + (⟨#[33]⟩ : ByteArray).size := by rw [hps, show (⟨#[33]⟩ : ByteArray).size = 1 from rfl]; omega
          have hlt : decide ((((bs AA).size : Nat) : Int) < (((bs p.payload).size : Nat) : Int)) = false := decide_eq_false (by rw [hsz, hps]; omega)
          have hsub : IntKind.i64.wrap ((((bs AA).size : Nat) : Int) - (((bs p.payload).size : Nat) : Int)) = (X.length : Int) := by rw [hsz, hps, IntKind.wrap_i64]; omega
          have hdd : X.length ≤ (bs AA).size := by rw [hsz]; omega
          have LX := Lib.hid (And.intro hlt (And.intro hsub (And.intro hdd CT)))
          have EA := Lib.hid (And.intro ea g1)
          have EP := Lib.hid (And.intro ep g2)
          replace FL := Lib.hid FL
          replace RE := Lib.hid RE
          replace RM := Lib.hid RM
          clear ha hq r1 r2 hx hz hsz CT hps hlt hsub hdd RA R1 HPAY ea ep g1 g2
          go_wp2_with (refine wpList_load_row rfl _ _ rfl w.heap.size rfl 28 _ (0, 0) _ S4.out.box Tryz.underlying28 rfl (by rw [C1.out]; exact info_pk) ?_)
          refine (FL.out _).mono ?_
          rintro e W5 ⟨rfl, hb⟩
          have S5 := Lib.hid (S4.out.call hb)
          clear hb S4
          go_wp2_with fail
          refine (RE.out _).mono ?_
          rintro e W6 ⟨a6, rfl, at6, _, _, hb, _⟩
          have S6 := S5.out.call hb
          have hbx : Below W6.heap.size W6 ((W6.alloc (.cells pkZ 28)).setRow W6.heap.size (pkC p a6)) := belowRow (below_box _) (Nat.le_refl _) _
          have S7 := Lib.hid (S6.call hbx)
          have AT7 := Lib.hid (at6.below hbx)
          have R7 := Lib.hid (setRow_heap _ _ _ (pkC p a6) _ _ (heap_alloc_new W6 (.cells pkZ 28)))
          have HD1 := Lib.hid (pkC_size p a6)
          have HD2 := Lib.hid (pkC_one p a6)
          clear hb at6 S6 hbx S5
          go_upto_region 10 with (refine wpList_store_row rfl _ _ _ rfl W6.heap.size (pkC p a6) rfl rfl 28 _ (heap_alloc_new W6 _) (by rw [HD1.out]; exact info_pk) (by rw [HZ.out, HD1.out]) HD2.out ?_)
          generalize (W6.alloc (.cells pkZ 28)).setRow W6.heap.size (pkC p a6) = W7 at *
          generalize W6.heap.size = b1 at *
          have SS := Lib.hid (show BxS w p a W7.drew ∧ W7.drew.heap[b1]? = some (.cells (pkC p a6) 28 (0, 0)) ∧ PkAt W7.drew p a6 from ⟨S7.out.draw, R7.out, AT7.out.draws 1⟩)
          clear S7 AT7 R7
          refine bk_last (S := fun W => BxS w p a W ∧ W.heap[b1]? = some (.cells (pkC p a6) 28 (0, 0)) ∧ PkAt W p a6) (b := w.heap.size) (b1 := b1) (A := bs AA) (Z := bs p.payload) SS.out HD1.out C1.out (fun W h => h.2.1) (fun W h => h.1.box) (fun W h => h.1.cell 6)
            (fun W h => (ksame_pk p a6 a W h.2.2 (HP.out.below h.1.low) SP.out.1 SP.out.2.1 SP.out.2.2.1 SP.out.2.2.2).mono fun e W' hh => ⟨hh.1, h.1.call hh.2, (hh.2.block _ (lt_of_block h.2.1)).trans h.2.1, h.2.2.below hh.2⟩)
            LX.out.1 LX.out.2.1 LX.out.2.2.1 LX.out.2.2.2 ?_
          intro W8 h
          have S8 := Lib.hid h.1
          clear h SS LX
          have ea := EA.out.1
          have ga := EA.out.2
          go_wp2_with (refine wpList_load_row rfl _ _ rfl w.heap.size rfl 28 _ (0, 0) _ S8.out.box Tryz.underlying28 rfl (by rw [C1.out]; exact info_pk) ?_)
          refine (FL.out _).mono ?_
          rintro e W9 ⟨rfl, hb⟩
          have S9 := Lib.hid (S8.out.call hb)
          clear hb S8
          go_wp2_with fail
          refine (RM.out _).mono ?_
          rintro e W10 ⟨a10, rfl, at10, _, _, hb, _⟩
          have S10 := S9.out.call hb
          have hbx : Below W10.heap.size W10 ((W10.alloc (.cells pkZ 28)).setRow W10.heap.size (pkC { p with payload := p.payload ++ [33] } a10)) := belowRow (below_box _) (Nat.le_refl _) _
          have S11 := Lib.hid (S10.call hbx)
          have R11 := setRow_heap _ _ _ (pkC { p with payload := p.payload ++ [33] } a10) _ _ (heap_alloc_new W10 (.cells pkZ 28))
          have HE1 := Lib.hid (pkC_size { p with payload := p.payload ++ [33] } a10)
          have HE2 := Lib.hid (pkC_one { p with payload := p.payload ++ [33] } a10)
          have k6m : ((W10.alloc (.cells pkZ 28)).setRow W10.heap.size (pkC { p with payload := p.payload ++ [33] } a10)).cell? ⟨W10.heap.size, 6, none⟩ = some (.string (bs (p.payload ++ [33]))) := cell_of_row _ _ 6 _ _ _ R11
          have k6p : ((W10.alloc (.cells pkZ 28)).setRow W10.heap.size (pkC { p with payload := p.payload ++ [33] } a10)).cell? ⟨w.heap.size, 6, none⟩ = some (.string (bs p.payload)) := S11.out.cell 6
          have ep := EP.out.1
          have gp := EP.out.2
          clear hb at10 S10 hbx R11 S9 ea ga
          go_wp2_with (refine wpList_store_row rfl _ _ _ rfl W10.heap.size (pkC { p with payload := p.payload ++ [33] } a10) rfl rfl 28 _ (heap_alloc_new W10 _) (by rw [HE1.out]; exact info_pk) (by rw [HZ.out, HE1.out]) HE2.out ?_)
          go_meet
          exact S11.out.low
        · have ha := RA.out
          rw [if_neg h0] at ha
          have g1 : ((E : Int) == 0) = false := by simp; omega
          have g2 : ((E : Int) != 0) = true := by simp; omega
          have g3 : ((bs AA).toList == []) = true := by rw [← ha, bs_toList]; rfl
          have g4 : ((bs AA).toList != []) = false := by rw [← ha, bs_toList]; rfl
          have L4 := Lib.hid S4.out.low
          clear ha h0 S4 R1
          go_wp2_with fail
          go_meet
          exact L4.out
      case rest =>
        obtain ⟨R, hR⟩ : ∃ R, readU v f s.data.toList = R := ⟨_, rfl⟩
        have RR := fun W => pub_read v f s W HS.out
        rw [hR] at RR
        have hz := readU_err (v := v) (f := f) (l := s.data.toList)
        have hb2 := pub_back (v := v) (f := f) (l := s.data.toList)
        rw [hR] at hz hb2
        have HZ2 := Lib.hid hz
        have HB2 := Lib.hid hb2
        replace RR := Lib.hid RR
        have L5 := Lib.hid hcut
        clear hcut S4 hR hz hb2 R1 RA
        go_wp2_with fail
        refine (RR.out _).mono ?_
        rintro e W6 ⟨a6, rfl, at6, pc6, ft6, hb, hz6⟩
        have hbx : Below W6.heap.size W6 ((W6.alloc (.cells pkZ 28)).setRow W6.heap.size (pkC R.1 a6)) := belowRow (below_box _) (Nat.le_refl _) _
        have L7 := Lib.hid (below_then (below_then L5.out hb) hbx)
        have AT7 := Lib.hid (at6.below hbx)
        have PC := Lib.hid pc6
        have FT := Lib.hid ft6
        have HZ6 := Lib.hid hz6
        have R7 := Lib.hid (setRow_heap _ _ _ (pkC R.1 a6) _ _ (heap_alloc_new W6 (.cells pkZ 28)))
        have HD1 := Lib.hid (pkC_size R.1 a6)
        have HD2 := Lib.hid (pkC_one R.1 a6)
        clear hb at6 hbx L5 pc6 ft6 hz6
        go_upto_if 108 with (refine wpList_store_row rfl _ _ _ rfl W6.heap.size (pkC R.1 a6) rfl rfl 28 _ (heap_alloc_new W6 _) (by rw [HD1.out]; exact info_pk) (by rw [HZ.out, HD1.out]) HD2.out ?_)
        generalize (W6.alloc (.cells pkZ 28)).setRow W6.heap.size (pkC R.1 a6) = W7 at *
        generalize W6.heap.size = b1 at *
        by_cases h0 : R.2 = 0
        · obtain ⟨hv, hr, hf⟩ := HB2.out h0
          have hq := qos_u (valid_u hv).2.2.1
          have BQ := fun W (h : PkAt W R.1 a6) => pub_body v R.1 a6 W h FT.out.2.1 FT.out.1 PC.out
          unfold bodyU at BQ
          rw [hv, hr, if_neg (by decide)] at BQ
          have FQ := fun W => law_flags R.1 a6 W hq.1 hq.2.1
          rw [hf] at FQ
          replace BQ := Lib.hid BQ
          replace FQ := Lib.hid FQ
          have g1 : ((R.2 : Int) == 0) = true := by rw [h0]; rfl
          have g2 : ((R.2 : Int) != 0) = false := by rw [h0]; rfl
          clear hv hr hf hq h0 R1
          go_wp2_with (refine wpList_load_row rfl _ _ rfl b1 rfl 28 _ (0, 0) _ R7.out Tryz.underlying28 rfl (by rw [HD1.out]; exact info_pk) ?_)
          refine (BQ.out _ AT7.out).mono ?_
          rintro e W8 ⟨rfl, hb⟩
          have L8 := Lib.hid (below_then L7.out hb)
          have R8 := Lib.hid ((hb.block _ (lt_of_block R7.out)).trans R7.out)
          have hss : ((bs s.data.toList).toList == s.toList) = true := by rw [bs_of]; simp
          clear hb R7
          go_wp2_with (refine wpList_load_row_g rfl _ _ rfl b1 rfl 28 _ (0, 0) _ R8.out Tryz.underlying28 rfl (by rw [HD1.out]; exact info_pk) ?_)
          refine (FQ.out _).mono ?_
          rintro e W9 ⟨rfl, hb⟩
          have L9 := Lib.hid (below_then L8.out hb)
          clear hb
          go_wp2_with fail
          go_ret
          exact ⟨rfl, L9.out⟩
        · have g1 : ((R.2 : Int) == 0) = false := by simp; omega
          have g2 : ((R.2 : Int) != 0) = true := by simp; omega
          have hk : pkC R.1 a6 = pkZ := by rw [HZ2.out h0, HZ6.out h0]; rfl
          rw [hk] at R7 HD1
          clear h0 hk R1
          go_wp2_with (refine wpList_load_row rfl _ _ rfl b1 rfl 28 pkZ (0, 0) _ R7.out Tryz.underlying28 rfl (by rw [HZ.out]; exact info_pk) ?_)
          refine (none_zero _).mono ?_
          rintro e W8 ⟨rfl, hb⟩
          have L8 := Lib.hid (below_then L7.out hb)
          clear hb
          go_wp2_with fail
          go_ret
          exact ⟨rfl, L8.out⟩
end Go.Proofs.YtaahhbjnflimnaaGreat
