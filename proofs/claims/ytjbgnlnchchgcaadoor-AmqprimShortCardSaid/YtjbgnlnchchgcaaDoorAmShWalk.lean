/-
  The walk of polyglotlaw16.AmqprimShort. Condition: the value is one that came in.
-/
import Derived.Test.YtjbgnlnchchgcaaDoorPick
import Derived.Test.YtjbgnlnchchgcaaDoorVaNodes
import Derived.Test.YtjbgnlnchchgcaaDoorAmLive
namespace Go.Proofs.YtjbgnlnchchgcaaDoor
open Go.RowKit

/-- A light value's text is short. -/
theorem light_text {v : Av} (h : lightV v = true) : v.text.length ≤ 400 := (light_lite h).2.1
theorem bs_take (l : List UInt8) (i : Nat) : (bs l).extract 0 i = bs (l.take i) := by
  apply ByteArray.ext; apply Array.ext'; simp [bs, List.extract_eq_take_drop]
theorem bs_list (l : List UInt8) : (bs l).data.toList = l := rfl
theorem bs_length (l : List UInt8) : (bs l).size = l.length := by simp [bs, ByteArray.size]
set_option maxRecDepth 100000 in
set_option maxHeartbeats 4000000 in
theorem short_walk (v : Av) (q : Nat) (cut : Int) (w : World) (hv : VAt q w v) (ok : VOk q v) : Calls Tryd.prog 6 #[.agg (avC v), .int .i64 cut] w fun e W => e = .returned (.bool true) ∧ Below w.heap.size w W := by
  have LV := Lib.hid (fun W => lives_any W)
  have LI := fun W (hb : Below w.heap.size w W) => light_any v q W (hv.below hb)
  have LT := fun h => light_text (v := v) h
  have hn : v.n < 18446744073709551616 := by
    cases q with
    | zero => exact absurd ok (by simp [VOk])
    | succ q => exact ok.2.1
  rw [show avC v = vC v.kind v.n (bs v.text) (.slice v.A v.items.length v.cap) from rfl] at LI ⊢
  obtain ⟨b, hbv⟩ : ∃ b, lightV v = b := ⟨_, rfl⟩
  rw [hbv] at LI LT
  generalize v.kind = k at *
  generalize v.n = n at *
  generalize v.text = t at *
  generalize v.A = A at *
  generalize v.items.length = m at *
  generalize v.cap = cp at *
  clear hv ok hbv
  replace LI := Lib.hid LI
  have S0 := Lib.hid (VS.start w k n (bs t) (.slice A m cp))
  cases b
  · clear LT hn
    unfold vC at LI ⊢
    go_in
    go_wp2_with fail
    refine (LV.out _).mono ?_
    rintro e W1 ⟨rfl, hb⟩
    have S1 := Lib.hid (S0.out.call hb)
    obtain ⟨c0, c1, c2, c3, -⟩ := S1.out
    clear hb
    go_wp2_with fail
    refine (LI.out _ S1.out.2.2.2.2.1).mono ?_
    rintro e W2 ⟨rfl, hb⟩
    have S2 := Lib.hid (S1.out.call hb)
    clear hb c0 c1 c2 c3
    go_wp2_with fail
    go_ret
    exact ⟨rfl, S2.out.2.2.2.2.1⟩
  · have ht := LT rfl
    have LE := fun W => least_any k n (bs t) A m cp W hn (by rw [bs_length]; omega)
    have PU := fun c W => aput_any c k n (bs t) A m cp W hn (by rw [bs_length]; omega)
    have GE := Lib.hid (fun c (l : List UInt8) W (h : l.length < 4294967296) => aget_any c (bs l) W (by rw [bs_length]; exact h))
    rw [show (bs t).data.toList = t from rfl] at LE
    simp only [show (bs t).data.toList = t from rfl] at PU
    have PR := Lib.hid (fun u W h0 h1 => pick_any cut u W h0 h1)
    by_cases hc : checkV (svC k n t m) = 0
    · obtain ⟨u, pre, post, e1, e2, e3, e4⟩ := least_some hc
      have hu := codes_mem.1 (show u ∈ codesA (svC k n t m).kind by rw [e1]; simp)
      have hi := scalar_items u hu.1 (by have := (check_v hc).1; have := hu.2; omega)
      have CU := fun i (h : i < (dataV u (svC k n t m)).length) => get_cut (mem_of hu.1) hi hu.2 hc e3 h
      have hlen : (dataV u (svC k n t m)).length ≤ 1000 := by
        rw [data_length (fun h1 h2 => (check_v hc).2.2.2.2.1 ((tab_sized u hu.1 hi).2.1 h1 h2 |>.imp (fun e => by rw [← hu.2, e]; rfl) (fun e => by rw [← hu.2, e]; rfl)))]
        have hw : u.width ≤ 16 := (show ∀ x ∈ tabA, x.width ≤ 16 by decide +kernel) u hu.1
        have ht2 : (svC k n t m).text.length ≤ 400 := ht
        split <;> omega
      rw [e2] at LE
      have PU1 := fun W => PU u.code W
      rw [put_fits hu.1 hu.2 hc e3] at PU1
      generalize dataV u (svC k n t m) = D at *
      replace LE := Lib.hid LE
      replace PU1 := Lib.hid PU1
      replace CU := Lib.hid CU
      have HD := Lib.hid hlen
      generalize u.code = c at *
      have hl0 : ((bs D).size : Int) = (D.length : Int) := by rw [bs_length]
      clear LT hn ht PU hc e1 e2 e3 e4 hu hi hlen
      unfold vC at LI LE PU1 ⊢
      go_in
      go_wp2_with fail
      refine (LV.out _).mono ?_
      rintro e W1 ⟨rfl, hb⟩
      have S1 := Lib.hid (S0.out.call hb)
      obtain ⟨c0, c1, c2, c3, -⟩ := S1.out
      clear hb
      go_wp2_with fail
      refine (LI.out _ S1.out.2.2.2.2.1).mono ?_
      rintro e W2 ⟨rfl, hb⟩
      have S2 := Lib.hid (S1.out.call hb)
      clear hb c0 c1 c2 c3
      obtain ⟨c0, c1, c2, c3, -⟩ := S2.out
      go_wp2_with fail
      refine (LE.out _).mono ?_
      rintro e W3 ⟨rfl, hb⟩
      have S3 := Lib.hid (S2.out.call hb)
      clear hb c0 c1 c2 c3
      obtain ⟨c0, c1, c2, c3, -⟩ := S3.out
      go_wp2_with fail
      refine (PU1.out _).mono ?_
      rintro e W4 ⟨rfl, hb⟩
      have S4 := Lib.hid (S3.out.call hb)
      clear hb c0 c1 c2 c3
      by_cases hD : D.length = 0
      · have h0 : ((bs D).size : Int) = 0 := by rw [hl0]; omega
        clear hl0
        go_wp2_with fail
        go_ret
        exact ⟨rfl, S4.out.2.2.2.2.1⟩
      · obtain ⟨i, hiD⟩ : ∃ i : Nat, cut % (D.length : Int) = (i : Int) := ⟨(cut % (D.length : Int)).toNat, by have := Int.emod_nonneg cut (show (D.length : Int) ≠ 0 by omega); omega⟩
        have hlt : i < D.length := by have := Int.emod_lt_of_pos cut (show 0 < (D.length : Int) by omega); omega
        have P1 := fun W => PR.out (D.length : Int) W (by omega) (by have := HD.out; omega)
        rw [hiD, ← hl0] at P1
        replace P1 := Lib.hid P1
        have G1 := fun W => GE.out (c : Int) (D.take i) W (by rw [List.length_take]; have := HD.out; omega)
        simp only [bs_list] at G1
        rw [CU.out i hlt, ← bs_take] at G1
        unfold GtRet at G1
        simp only [Sv.zero] at G1
        rw [show bs [] = (⟨#[]⟩ : ByteArray) from rfl] at G1
        unfold vC at G1
        replace G1 := Lib.hid G1
        have z0 : (0 : Int) ≤ (i : Int) := by omega
        have z1 : (i : Int) ≤ ((bs D).size : Int) := by rw [hl0]; omega
        have z2 : ¬ ((bs D).size : Int) = 0 := by rw [hl0]; omega
        have z3 : ((bs D).size : Int) ≤ 1000 := by rw [hl0]; have := HD.out; omega
        clear hl0 hiD hlt hD
        go_wp2_with fail
        refine (P1.out _).mono ?_
        rintro e W5 ⟨rfl, rfl⟩
        go_wp2_with fail
        refine (G1.out _).mono ?_
        rintro e W6 ⟨rfl, hb⟩
        have S6 := Lib.hid ((S4.out.call hb).call (below_box (.cells zV 26)))
        clear hb
        go_wp2_with fail
        go_ret
        exact ⟨rfl, S6.out.2.2.2.2.1⟩
    · have LE2 := LE
      rw [least_err hc] at LE2
      obtain ⟨z, hz⟩ : ∃ z, checkV (svC k n t m) = z := ⟨_, rfl⟩
      rw [hz] at LE2 hc
      have e0 : ((z : Int) != 0) = true := by simp; omega
      replace LE2 := Lib.hid LE2
      clear LT hn ht PU hc LE hz GE PR
      unfold vC at LI LE2 ⊢
      go_in
      go_wp2_with fail
      refine (LV.out _).mono ?_
      rintro e W1 ⟨rfl, hb⟩
      have S1 := Lib.hid (S0.out.call hb)
      obtain ⟨c0, c1, c2, c3, -⟩ := S1.out
      clear hb
      go_wp2_with fail
      refine (LI.out _ S1.out.2.2.2.2.1).mono ?_
      rintro e W2 ⟨rfl, hb⟩
      have S2 := Lib.hid (S1.out.call hb)
      clear hb c0 c1 c2 c3
      obtain ⟨c0, c1, c2, c3, -⟩ := S2.out
      go_wp2_with fail
      refine (LE2.out _).mono ?_
      rintro e W3 ⟨rfl, hb⟩
      have S3 := Lib.hid (S2.out.call hb)
      clear hb c0 c1 c2 c3
      go_wp2_with fail
      go_ret
      exact ⟨rfl, S3.out.2.2.2.2.1⟩
end Go.Proofs.YtjbgnlnchchgcaaDoor
