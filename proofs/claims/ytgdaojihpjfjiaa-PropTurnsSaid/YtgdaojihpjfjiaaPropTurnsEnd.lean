/-
  The walk of polyglotlaw05.PropTurns: the element is the last one for which there is room. Condition: strings no longer than memory allows.
-/
import Derived.Deep.RegionHeld3
import Derived.Test.YtgdaojihpjfjiaaPropTurnsLast
namespace Go.Proofs.Ytgdaojihpjfjiaa
open Go.RowKit

section
variable (kind cut : Int) (g i : Nat) (n c : Nat) (l : List Pr) (w : World) (k0 : -9223372036854775808 ≤ kind) (k1 : kind ≤ 9223372036854775807) (hl : PL w (some ⟨g, i, none⟩) l) (hn : l.length = n) (hc : n ≤ c) (hcm : c ≤ 9223372036854775807) (ok : ∀ p ∈ l, PrOk p) (hm : ∀ p ∈ l, p.text.length ≤ 140737488351232 ∧ p.value.length ≤ 140737488351232)
include hl hn hm k0 k1 hc hcm ok
set_option maxRecDepth 100000 in
set_option maxHeartbeats 2000000 in
theorem turns_end (h : lightP l = true) (hv : validP kind l = 0) (h1 : 0 < n) (h2 : n ≤ 900) (k d : Nat) (hk : cut % (n : Int) = (k : Int)) (hkn : k < n) (hd : k + 1 = d) (hdc : d = c) :
    Calls Try.prog 6 #[.int .i64 kind, .slice (some ⟨g, i, none⟩) n c, .int .i64 cut] w fun e w' => e = .returned (.bool true) ∧ Below w.heap.size w w' := by
  subst hdc
  have LT := fun W (hb : Below w.heap.size w W) => light_any (some ⟨g, i, none⟩) n d l W (hl.below hb) hn hm
  rw [h] at LT
  have LT := Lib.hid LT
  have VL := fun W (hb : Below w.heap.size w W) => valid_list kind (some ⟨g, i, none⟩) n d l W k0 k1 (hl.below hb) hn hc ok
  rw [hv] at VL
  have VL := Lib.hid VL
  obtain ⟨p, hp⟩ : ∃ p, l[k]? = some p := ⟨_, List.getElem?_eq_getElem (by omega)⟩
  obtain ⟨t1, t2, t3, t4, t5, t6⟩ := turned_l hv hp
  have okp := ok p (List.mem_of_getElem? hp)
  have PK := fun W => pick_any cut (n : Int) W (by omega) (by omega)
  rw [hk] at PK
  have PK := Lib.hid PK
  have CK := fun W => checkf_any kind p W k0 k1 okp
  rw [t4] at CK
  unfold propV at CK
  have CK := Lib.hid CK
  have O1 := Lib.hid (fun W (hb : Below w.heap.size w W) => own_props (some ⟨g, i + k * 4, none⟩) (n - k) (d - k) (l.drop k) W ((hl.below hb).drop k) (by rw [List.length_drop]; omega) (by omega))
  have O2 := Lib.hid (fun W (hb : Below w.heap.size w W) => own_props (some ⟨g, i, none⟩) k d (l.take k) W ((hl.below hb).take k) (by rw [List.length_take]; omega) (by omega))
  have O3 := Lib.hid (fun W (hb : Below w.heap.size w W) => own_props (some ⟨g, i, none⟩) n d l W (hl.below hb) hn (by omega))
  have BA := fun W (hb : Below w.heap.size w W) => bytes_list kind (some ⟨g, i, none⟩) n d l W k0 k1 (hl.below hb) hn hc ok
  rw [t3] at BA
  have BB := fun W A' c' (hP : PL W A' (l.drop k ++ l.take k)) (hcc : n - k + k ≤ c') => bytes_list kind A' (n - k + k) c' (l.drop k ++ l.take k) W k0 k1 hP (by rw [List.length_append, List.length_drop, List.length_take]; omega) hcc (fun q hq => ok q ((List.mem_append.1 hq).elim List.mem_of_mem_drop List.mem_of_mem_take))
  rw [t1] at BB
  have VC := fun (h21 : p.id ≠ 21) W A' c' (hP : PL W A' (l.take k ++ l.drop d)) (hcc : k + (n - d) ≤ c') => by
    have := valid_list kind A' (k + (n - d)) c' (l.take k ++ l.drop d) W k0 k1 hP (by rw [List.length_append, List.length_drop, List.length_take]; omega) hcc (fun q hq => ok q ((List.mem_append.1 hq).elim List.mem_of_mem_take List.mem_of_mem_drop))
    rw [← hd] at this
    rw [t5 h21, hd] at this
    exact this
  have VM := Lib.hid (fun W A' c' (hP : PL W A' (l ++ [p])) (hcc : n + 1 ≤ c') => valid_list kind A' (n + 1) c' (l ++ [p]) W k0 k1 hP (by simp; omega) hcc (fun q hq => (List.mem_append.1 hq).elim (ok q) (fun h => by rw [List.mem_singleton.1 h]; exact okp)))
  have MN := Lib.hid (fun W => many_any kind p.id W okp.lo okp.hi k0 k1)
  have SRC := Lib.hid (fun W (hb : Below w.heap.size w W) => (hl.below hb).take k)
  have SRD := Lib.hid (fun W (_ : Below w.heap.size w W) => show PL W (some ⟨g, i, none⟩) (l.drop d) by rw [List.drop_of_length_le (by omega)]; exact PL.nil)
  have T1 : (l.take k).length = k := by rw [List.length_take]; omega
  have T2 : n - k + k ≤ 3000 := by omega
  have T3 : (l.drop d).length = n - d := by rw [List.length_drop]; omega
  have T4 : k + (n - d) ≤ 3000 := by omega
  have T5 : n + 1 ≤ 3000 := by omega
  have T6 := Lib.hid (show n - k + k = (l.drop k ++ l.take k).length by rw [List.length_append, List.length_drop, List.length_take]; omega)
  have T7 := Lib.hid (show k + (n - d) = (l.take k ++ l.drop d).length by rw [List.length_append, List.length_drop, List.length_take]; omega)
  have T8 := Lib.hid (show n + 1 = (l ++ [p]).length by rw [List.length_append, hn]; rfl)
  have TS := Lib.hid (fun W (hb : Below w.heap.size w W) => TuS.mk (i := i) (W := W) hl hp hb)
  have FIN : ((((validP kind (l ++ [p]) : Nat) : Int) == 0) == manyP kind p.id) = true ∨ (((((validP kind (l ++ [p]) : Nat) : Int) == 0) == manyP kind p.id) = false ∧ (100000 : Int) < (((bs (bytesP kind l).1).size : Nat) : Int)) := by
    by_cases hbig : (bytesP kind l).1.length ≤ 100000
    · left
      have := t6 (by omega) hbig
      cases hmm : manyP kind p.id
      · rw [hmm] at this
        have h0 : ¬ validP kind (l ++ [p]) = 0 := fun h => by simpa using this.1 h
        simp; omega
      · have h0 := this.2 hmm
        rw [h0]; rfl
    · have hb2 := bs_size (bytesP kind l).1
      cases hx : ((((validP kind (l ++ [p]) : Nat) : Int) == 0) == manyP kind p.id)
      · exact .inr ⟨rfl, by omega⟩
      · exact .inl rfl
  have hsz : (bs (bytesP kind (l.drop k ++ l.take k)).1).size = (bs (bytesP kind l).1).size := by rw [bs_size, bs_size, t2]
  generalize bs (bytesP kind (l.drop k ++ l.take k)).1 = x2 at *
  generalize bs (bytesP kind l).1 = x1 at *
  generalize ((validP kind (l ++ [p]) : Nat) : Int) = V at *
  generalize manyP kind p.id = M at *
  have BA := Lib.hid BA
  have BB := Lib.hid BB
  have q1 : (k : Int) ≤ (n : Int) := by omega
  have q2 : (k : Int) ≤ (d : Int) := by omega
  have q3 : (n : Int) ≤ (d : Int) := by omega
  have q4 : (d : Int) ≤ 9223372036854775807 := by omega
  have q5 : ¬ k = d := by omega
  have q9 : ¬ d = k := by omega
  have q6 : ¬ (n : Int) = 0 := by omega
  have q7 : ((n : Int) == 0 || decide (900 < (n : Int))) = false := by simp; omega
  have q8 : (k : Int) < (n : Int) := by omega
  have q10 : IntKind.i64.wrap ((k : Int) + 1) = (d : Int) := by simp only [IntKind.wrap_i64]; omega
  have q11 : (d : Int) ≤ (d : Int) := by omega
  have q12 : (d : Int) ≤ (n : Int) := by omega
  have hps : ∀ W : World, PL (W.alloc (.cells #[.int .i64 p.id, .int .u32 p.n, .string (bs p.text), .string (bs p.value)] 25)) (some ⟨W.heap.size, 0, none⟩) [p] := fun W => PL.made W [p] _ _ rfl
  have HPS := Lib.hid hps
  have P1 : [p].length = 1 := rfl
  obtain ⟨pn, hpn⟩ : ∃ z : Int, ((p.n : Nat) : Int) = z := ⟨_, rfl⟩
  clear h hl hm ok hc hcm hk hn hkn h1 h2 hps hd hv hp t1 t2 t3 t4 t5 t6 okp hpn
  have FN := Lib.hid FIN
  clear FIN
  have finish : ∀ (h21 : (p.id != 21) = true ∧ p.id ≠ 21 ∨ (p.id != 21) = false) (hfin : (M = true ∧ (V == 0) = true) ∨ (M = false ∧ (V == 0) = false) ∨ (M = true ∧ (V == 0) = false ∧ (100000 : Int) < ((x1.size : Nat) : Int)) ∨ (M = false ∧ (V == 0) = true ∧ (100000 : Int) < ((x1.size : Nat) : Int))),
    Calls Try.prog 6 #[.int .i64 kind, .slice (some ⟨g, i, none⟩) n d, .int .i64 cut] w fun e w' => e = .returned (.bool true) ∧ Below w.heap.size w w' := by
    intro h21 hfin
    rcases h21 with ⟨h21, h22⟩ | h21
    · have VC := Lib.hid (VC h22)
      go_enter Try.func6, Try.ntmps6
      go_wp2_with fail
      refine (lives_prop w).mono ?_
      rintro e w1 ⟨rfl, hb⟩
      go_wp2_with fail
      refine (LT.out _ hb).mono ?_
      rintro e w2 ⟨rfl, m, rfl⟩
      have hb2 := below_draws hb m
      clear hb
      go_wp2_with fail
      refine (VL.out _ hb2).mono ?_
      rintro e w3 ⟨rfl, hb3⟩
      have HB := Lib.hid (hb2.trans (hb3.mono hb2.size))
      clear hb2 hb3
      go_wp2_with fail
      refine (PK.out _).mono ?_
      rintro e w4 ⟨rfl, rfl⟩
      go_wp2_with fail
      have hS : Below w.heap.size w w3.drew := below_draws HB.out 1
      go_region_held3 (fun w' => Below w.heap.size w w')
        (first | exact hS)
        (first
          | (go_at_call 23; with_reducible refine (O1.out _ hS).mono ?_; rintro e w5 ⟨v, rfl, ho, hb⟩; have hB5 := hb.size; have hS := hS.trans (hb.mono hS.size); have hM := SRC.out _ hS; clear hb)
          | (refine step_append_props (by rfl) _ _ (by rfl) (by rfl) (by rfl) ho hM T1 T2 hB5 ?_; intro v' w6 ho2 hb6; have hS := hS.trans (hb6.mono (Nat.le_trans HB.out.size (Nat.le_refl w3.heap.size)))))
      obtain ⟨A1, c1, rfl, hc1, hP1, _⟩ := PL.owned ho2 T6.out
      have HB := Lib.hid hS
      have BC := Lib.hid (fun W (hb : Below w6.heap.size w6 W) => BB.out W A1 c1 (hP1.below hb) hc1)
      rename_i hHeld
      clear hS hHeld ho ho2 hB5 hM hb6 hP1 hc1
      go_wp2_with fail
      refine (BA.out _ HB.out).mono ?_
      rintro e w7 ⟨rfl, hb7⟩
      have BD := Lib.hid (BC.out _ hb7)
      have HB := Lib.hid (HB.out.trans (hb7.mono HB.out.size))
      clear hb7
      go_wp2_with fail
      refine (BD.out).mono ?_
      rintro e w8 ⟨rfl, hb8⟩
      have HB := Lib.hid (HB.out.trans (hb8.mono HB.out.size))
      have ST := TS.out _ HB.out
      obtain ⟨c0, cc1, cc2, cc3, _⟩ := ST
      clear hb8
      go_wp2_with fail
      refine (CK.out _).mono ?_
      rintro e w9 ⟨rfl, hb9⟩
      have HB := Lib.hid (HB.out.trans (hb9.mono HB.out.size))
      clear hb9 c0 cc1 cc2 cc3
      go_wp2_with fail
      have hS : Below w.heap.size w w9.drew := below_draws HB.out 1
      go_region_held3 (fun w' => Below w.heap.size w w')
        (first | exact hS)
        (first
          | (go_at_call 23; with_reducible refine (O2.out _ hS).mono ?_; rintro e w10 ⟨v2, rfl, ho, hb⟩; have hB5 := hb.size; have hS := hS.trans (hb.mono hS.size); have hM := SRD.out _ hS; clear hb)
          | (refine step_append_props (by rfl) _ _ (by rfl) (by rfl) (by rfl) ho hM T3 T4 hB5 ?_; intro v3 w11 ho2 hb6; have hS := hS.trans (hb6.mono (Nat.le_trans HB.out.size (Nat.le_refl w9.heap.size)))))
      obtain ⟨A2, c2, rfl, hc2, hP2, _⟩ := PL.owned ho2 T7.out
      have HB := Lib.hid hS
      obtain ⟨c0, cc1, cc2, cc3, _⟩ := TS.out _ HB.out
      have BE := Lib.hid (VC.out w11 A2 c2 hP2 hc2)
      rename_i hHeld
      clear hS hHeld ho ho2 hB5 hM hb6 hP2 hc2
      go_wp2_with fail
      refine (BE.out).mono ?_
      rintro e w12 ⟨rfl, hb12⟩
      have HB := Lib.hid (HB.out.trans (hb12.mono HB.out.size))
      clear hb12 c0 cc1 cc2 cc3
      go_wp2_with fail
      clear q1 q2 q3 q4 q5 q9 q6 q7 q10 q11 q12 T1 T2 T3 T4 hsz h21 h22
      have hS : TuS w g i k p l w12.drew := TS.out _ (below_draws HB.out 1)
      have HA := Lib.hid (show TuS w g i k p l (w12.alloc (.cells #[.int .i64 p.id, .int .u32 p.n, .string (bs p.text), .string (bs p.value)] 25)).drew from TS.out _ (below_draws (HB.out.alloc HB.out.size _) 1))
      have HQ := Lib.hid (show PL (w12.alloc (.cells #[.int .i64 p.id, .int .u32 p.n, .string (bs p.text), .string (bs p.value)] 25)).drew (some ⟨w12.heap.size, 0, none⟩) [p] from (HPS.out w12).below (below_draws (Below.refl _ _) 1))
      have OB := Lib.hid (O3.out _ HA.out.b)
      go_region_held3 (fun w' => w'.cell? ⟨g, i + k * 4, none⟩ = some (.int .i64 p.id) ∧ w'.cell? ⟨g, i + k * 4 + 1, none⟩ = some (.int .u32 p.n) ∧ w'.cell? ⟨g, i + k * 4 + 2, none⟩ = some (.string (bs p.text)) ∧ w'.cell? ⟨g, i + k * 4 + 3, none⟩ = some (.string (bs p.value)) ∧ (PL w (some ⟨g, i, none⟩) l ∧ l[k]? = some p ∧ Below w.heap.size w w'))
        (first | exact hS | exact TuS.alloc hS _)
        (first
          | (go_at_call 23; with_reducible refine (O3.out _ (TuS.b hS)).mono ?_; rintro e w13 ⟨v4, rfl, ho, hb⟩; have hC := TuS.own hS hb; have hS := hC.1; clear hb)
          | (refine step_append_props (by rfl) _ _ (by rfl) (by rfl) (by rfl) ho hQ P1 T5 hC.2.2 ?_; intro v5 w14 ho2 hb6; have hS := TuS.call hS hb6 hC.2.1)
          | (refine step_append_props (by rfl) _ _ (by rfl) (by rfl) (by rfl) (ho.alloc _) (HPS.out _) P1 T5 (le_alloc hC.2.2 _) ?_; intro v5 w14 ho2 hb6; have hS := TuS.call (TuS.alloc hS _) hb6 hC.2.1)
          | (go_at_call 23; with_reducible refine (OB.out).mono ?_; rintro e w13 ⟨v4, rfl, ho, hb⟩; have hQ := HQ.out.below hb; have hC := TuS.own HA.out hb; have hS := hC.1; clear hb))
      all_goals
        obtain ⟨A3, c3, rfl, hc3, hP3, _⟩ := PL.owned ho2 T8.out
        have HB := Lib.hid (TuS.b hS)
        have BM := Lib.hid (VM.out w14.drew A3 c3 (hP3.below (below_draws (Below.refl _ _) 1)) hc3)
        rename_i hHeld
        clear hS hHeld ho ho2 hC hb6 hP3 hc3 HA HQ OB T5 P1
        (try clear hQ)
        have hS : TuI w g i k p l w14.drew := (TS.out _ (below_draws HB.out 1)).i
        rcases hfin with ⟨rfl, hf⟩ | ⟨rfl, hf⟩ | ⟨rfl, hf, hbig⟩ | ⟨rfl, hf, hbig⟩
        iterate 2
          · go_wp2_with fail
            refine turns_last (fun _ _ _ _ _ h => h) hf (fun W' h => (TS.out W' (HB.out.trans (h.mono HB.out.size))).1) q8 BM.out MN.out ?_
            intro y0 y1 y2 y3 y4 y5 y6 y7 y8 y9 y10 y11 y12 y13 y14 y15 y16 w' hb
            go_wp2_with fail
            go_ret
            exact ⟨rfl, HB.out.trans (hb.mono HB.out.size)⟩
        all_goals
          go_wp2_with fail
          first
            | (go_region_held3 (fun w' => w'.cell? ⟨g, i + k * 4, none⟩ = some (.int .i64 p.id) ∧ (PL w (some ⟨g, i, none⟩) l ∧ l[k]? = some p ∧ Below w.heap.size w w'))
              (first | exact hS)
              (first
                | (go_at_call 11; with_reducible refine (BM.out).mono ?_; rintro e w15 ⟨rfl, hb⟩; have hS := hS.call hb; clear hb)
                | (go_at_call 17; with_reducible refine (MN.out _).mono ?_; rintro e w16 ⟨rfl, hb⟩; have hS := hS.call hb; clear hb)))
            | fail
          have HB := Lib.hid hS.2.2.2
          rename_i hHeld
          clear hS hHeld
          go_wp2_with fail
          go_ret
          exact ⟨rfl, HB.out⟩
    · clear VC
      go_enter Try.func6, Try.ntmps6
      go_wp2_with fail
      refine (lives_prop w).mono ?_
      rintro e w1 ⟨rfl, hb⟩
      go_wp2_with fail
      refine (LT.out _ hb).mono ?_
      rintro e w2 ⟨rfl, m, rfl⟩
      have hb2 := below_draws hb m
      clear hb
      go_wp2_with fail
      refine (VL.out _ hb2).mono ?_
      rintro e w3 ⟨rfl, hb3⟩
      have HB := Lib.hid (hb2.trans (hb3.mono hb2.size))
      clear hb2 hb3
      go_wp2_with fail
      refine (PK.out _).mono ?_
      rintro e w4 ⟨rfl, rfl⟩
      go_wp2_with fail
      have hS : Below w.heap.size w w3.drew := below_draws HB.out 1
      go_region_held3 (fun w' => Below w.heap.size w w')
        (first | exact hS)
        (first
          | (go_at_call 23; with_reducible refine (O1.out _ hS).mono ?_; rintro e w5 ⟨v, rfl, ho, hb⟩; have hB5 := hb.size; have hS := hS.trans (hb.mono hS.size); have hM := SRC.out _ hS; clear hb)
          | (refine step_append_props (by rfl) _ _ (by rfl) (by rfl) (by rfl) ho hM T1 T2 hB5 ?_; intro v' w6 ho2 hb6; have hS := hS.trans (hb6.mono (Nat.le_trans HB.out.size (Nat.le_refl w3.heap.size)))))
      obtain ⟨A1, c1, rfl, hc1, hP1, _⟩ := PL.owned ho2 T6.out
      have HB := Lib.hid hS
      have BC := Lib.hid (fun W (hb : Below w6.heap.size w6 W) => BB.out W A1 c1 (hP1.below hb) hc1)
      rename_i hHeld
      clear hS hHeld ho ho2 hB5 hM hb6 hP1 hc1
      go_wp2_with fail
      refine (BA.out _ HB.out).mono ?_
      rintro e w7 ⟨rfl, hb7⟩
      have BD := Lib.hid (BC.out _ hb7)
      have HB := Lib.hid (HB.out.trans (hb7.mono HB.out.size))
      clear hb7
      go_wp2_with fail
      refine (BD.out).mono ?_
      rintro e w8 ⟨rfl, hb8⟩
      have HB := Lib.hid (HB.out.trans (hb8.mono HB.out.size))
      have ST := TS.out _ HB.out
      obtain ⟨c0, cc1, cc2, cc3, _⟩ := ST
      clear hb8
      go_wp2_with fail
      refine (CK.out _).mono ?_
      rintro e w9 ⟨rfl, hb9⟩
      have HB := Lib.hid (HB.out.trans (hb9.mono HB.out.size))
      clear hb9 c0 cc1 cc2 cc3
      go_wp2_with fail
      have hS : Below w.heap.size w w9.drew := below_draws HB.out 1
      go_region_held3 (fun w' => Below w.heap.size w w')
        (first | exact hS)
        (first
          | (go_at_call 23; with_reducible refine (O2.out _ hS).mono ?_; rintro e w10 ⟨v2, rfl, ho, hb⟩; have hB5 := hb.size; have hS := hS.trans (hb.mono hS.size); have hM := SRD.out _ hS; clear hb)
          | (refine step_append_props (by rfl) _ _ (by rfl) (by rfl) (by rfl) ho hM T3 T4 hB5 ?_; intro v3 w11 ho2 hb6; have hS := hS.trans (hb6.mono (Nat.le_trans HB.out.size (Nat.le_refl w9.heap.size)))))
      obtain ⟨A2, c2, rfl, hc2, hP2, _⟩ := PL.owned ho2 T7.out
      have HB := Lib.hid hS
      obtain ⟨c0, cc1, cc2, cc3, _⟩ := TS.out _ HB.out
      rename_i hHeld
      clear hS hHeld ho ho2 hB5 hM hb6 hP2 hc2
      go_wp2_with fail
      clear c0 cc1 cc2 cc3
      clear q1 q2 q3 q4 q5 q9 q6 q7 q10 q11 q12 T1 T2 T3 T4 hsz h21
      have hS : TuS w g i k p l w11.drew := TS.out _ (below_draws HB.out 1)
      have HA := Lib.hid (show TuS w g i k p l (w11.alloc (.cells #[.int .i64 p.id, .int .u32 p.n, .string (bs p.text), .string (bs p.value)] 25)).drew from TS.out _ (below_draws (HB.out.alloc HB.out.size _) 1))
      have HQ := Lib.hid (show PL (w11.alloc (.cells #[.int .i64 p.id, .int .u32 p.n, .string (bs p.text), .string (bs p.value)] 25)).drew (some ⟨w11.heap.size, 0, none⟩) [p] from (HPS.out w11).below (below_draws (Below.refl _ _) 1))
      have OB := Lib.hid (O3.out _ HA.out.b)
      go_region_held3 (fun w' => w'.cell? ⟨g, i + k * 4, none⟩ = some (.int .i64 p.id) ∧ w'.cell? ⟨g, i + k * 4 + 1, none⟩ = some (.int .u32 p.n) ∧ w'.cell? ⟨g, i + k * 4 + 2, none⟩ = some (.string (bs p.text)) ∧ w'.cell? ⟨g, i + k * 4 + 3, none⟩ = some (.string (bs p.value)) ∧ (PL w (some ⟨g, i, none⟩) l ∧ l[k]? = some p ∧ Below w.heap.size w w'))
        (first | exact hS | exact TuS.alloc hS _)
        (first
          | (go_at_call 23; with_reducible refine (O3.out _ (TuS.b hS)).mono ?_; rintro e w13 ⟨v4, rfl, ho, hb⟩; have hC := TuS.own hS hb; have hS := hC.1; clear hb)
          | (refine step_append_props (by rfl) _ _ (by rfl) (by rfl) (by rfl) ho hQ P1 T5 hC.2.2 ?_; intro v5 w14 ho2 hb6; have hS := TuS.call hS hb6 hC.2.1)
          | (refine step_append_props (by rfl) _ _ (by rfl) (by rfl) (by rfl) (ho.alloc _) (HPS.out _) P1 T5 (le_alloc hC.2.2 _) ?_; intro v5 w14 ho2 hb6; have hS := TuS.call (TuS.alloc hS _) hb6 hC.2.1)
          | (go_at_call 23; with_reducible refine (OB.out).mono ?_; rintro e w13 ⟨v4, rfl, ho, hb⟩; have hQ := HQ.out.below hb; have hC := TuS.own HA.out hb; have hS := hC.1; clear hb))
      all_goals
        obtain ⟨A3, c3, rfl, hc3, hP3, _⟩ := PL.owned ho2 T8.out
        have HB := Lib.hid (TuS.b hS)
        have BM := Lib.hid (VM.out w14.drew A3 c3 (hP3.below (below_draws (Below.refl _ _) 1)) hc3)
        rename_i hHeld
        clear hS hHeld ho ho2 hC hb6 hP3 hc3 HA HQ OB T5 P1
        (try clear hQ)
        have hS : TuI w g i k p l w14.drew := (TS.out _ (below_draws HB.out 1)).i
        rcases hfin with ⟨rfl, hf⟩ | ⟨rfl, hf⟩ | ⟨rfl, hf, hbig⟩ | ⟨rfl, hf, hbig⟩
        iterate 2
          · go_wp2_with fail
            refine turns_last (fun _ _ _ _ _ h => h) hf (fun W' h => (TS.out W' (HB.out.trans (h.mono HB.out.size))).1) q8 BM.out MN.out ?_
            intro y0 y1 y2 y3 y4 y5 y6 y7 y8 y9 y10 y11 y12 y13 y14 y15 y16 w' hb
            go_wp2_with fail
            go_ret
            exact ⟨rfl, HB.out.trans (hb.mono HB.out.size)⟩
        all_goals
          go_wp2_with fail
          first
            | (go_region_held3 (fun w' => w'.cell? ⟨g, i + k * 4, none⟩ = some (.int .i64 p.id) ∧ (PL w (some ⟨g, i, none⟩) l ∧ l[k]? = some p ∧ Below w.heap.size w w'))
              (first | exact hS)
              (first
                | (go_at_call 11; with_reducible refine (BM.out).mono ?_; rintro e w15 ⟨rfl, hb⟩; have hS := hS.call hb; clear hb)
                | (go_at_call 17; with_reducible refine (MN.out _).mono ?_; rintro e w16 ⟨rfl, hb⟩; have hS := hS.call hb; clear hb)))
            | fail
          have HB := Lib.hid hS.2.2.2
          rename_i hHeld
          clear hS hHeld
          go_wp2_with fail
          go_ret
          exact ⟨rfl, HB.out⟩
  refine finish ?_ (by
    have FIN := FN.out
    cases M <;> cases hV : (V == 0) <;> rw [hV] at FIN <;> simp at FIN ⊢ <;> exact FIN)
  by_cases h : p.id = 21
  · exact .inr (by simp [h])
  · exact .inl ⟨by simpa using h, h⟩
end
end Go.Proofs.Ytgdaojihpjfjiaa
