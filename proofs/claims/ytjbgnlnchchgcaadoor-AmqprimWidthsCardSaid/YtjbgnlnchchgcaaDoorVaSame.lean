/-
  The contract of polyglotkit.SameValue. Condition: lists are no longer than memory holds.
-/
import Derived.Deep.DeepCutAuto
import Derived.Deep.LoopGhost
import Derived.StillTailTactics
import Derived.Test.YtjbgnlnchchgcaaDoorKit
import Derived.Test.YtjbgnlnchchgcaaDoorVaPlain
namespace Go.Proofs.YtjbgnlnchchgcaaDoor
open Go.RowKit

theorem bs_inj {a b : List UInt8} (h : bs a = bs b) : a = b := by
  have := congrArg (fun s : ByteArray => s.data.toList) h
  exact this
theorem zip_all {a b : List Av} {p : Av → Av → Bool} (hl : a.length = b.length) (h : ∀ (i : Nat) (x y : Av), a[i]? = some x → b[i]? = some y → p x y = true) : ((a.zip b).all fun q => p q.1 q.2) = true := by
  rw [List.all_eq_true]
  intro q hq
  obtain ⟨i, hi, e⟩ := List.getElem_of_mem hq
  rw [List.length_zip] at hi
  rw [List.getElem_zip] at e
  rw [← e]
  exact h i _ _ (List.getElem?_eq_getElem (by omega)) (List.getElem?_eq_getElem (by omega))
theorem zip_not {a b : List Av} {p : Av → Av → Bool} {i : Nat} {x y : Av} (hx : a[i]? = some x) (hy : b[i]? = some y) (h : p x y = false) : ((a.zip b).all fun q => p q.1 q.2) = false := by
  rw [List.all_eq_false]
  obtain ⟨h1, e1⟩ := List.getElem?_eq_some_iff.1 hx
  obtain ⟨h2, e2⟩ := List.getElem?_eq_some_iff.1 hy
  refine ⟨(x, y), ?_, by rw [h]; decide⟩
  have h3 : i < (a.zip b).length := by rw [List.length_zip]; omega
  have h4 : (a.zip b)[i] = (x, y) := by rw [List.getElem_zip, e1, e2]
  rw [← h4]
  exact List.getElem_mem h3
theorem vat_cell {d i : Nat} {W : World} {v x : Av} (h : VAt (d + 1) W v) (hx : v.items[i]? = some x) : ∃ a, v.A = some a ∧ a.block < W.heap.size ∧ (∀ (j : Nat) (u : Value), (avC x)[j]? = some u → W.cell? (a.add (i * 4 + j)) = some u) ∧ VAt d W x := by
  have hi := (List.getElem?_eq_some_iff.1 hx).1
  obtain ⟨a, e, hb, hc⟩ := h.2.2.1 (by omega)
  exact ⟨a, e, hb, hc i x hx, h.2.2.2 x (List.mem_of_getElem? hx)⟩
set_option maxRecDepth 100000 in
set_option maxHeartbeats 4000000 in
theorem same_any_v : ∀ (d : Nat) (a b : Av) (w : World), VAt d w a → VAt d w b → VOk d a → Calls Tryd.prog 16 #[.agg (avC a), .agg (avC b)] w fun e W => e = .returned (.bool (sameV d a b)) ∧ Below w.heap.size w W := by
  intro d
  induction d with
  | zero => intro a b w h; exact absurd h (by simp [VAt])
  | succ d ih =>
    intro a b w ha hb hok
    have L0 := below_box (w := w) (.cells (avC a) 26)
    have RA := heap_alloc_new w (.cells (avC a) 26)
    have L1 := below_then L0 (below_box (.cells (avC b) 26))
    have RA1 := (heap_alloc_old _ (.cells (avC b) 26) (lt_of_block RA)).trans RA
    have RB1 := heap_alloc_new (w.alloc (.cells (avC a) 26)) (.cells (avC b) 26)
    rw [World.size_alloc] at RB1
    have hla : a.items.length ≤ 9223372036854775807 := Nat.le_trans ha.1 hok.2.2.2.1
    have HA := Lib.hid ha
    have HB := Lib.hid hb
    have HO := Lib.hid hok
    obtain ⟨S, hS⟩ : ∃ S, sameV (d + 1) a b = S := ⟨_, rfl⟩
    rw [hS]
    unfold sameV at hS
    have HS := Lib.hid hS
    have L1 := Lib.hid L1
    have RA1 := Lib.hid RA1
    have RB1 := Lib.hid RB1
    clear L0 RA ha hb hok
    by_cases h1 : a.kind = b.kind
    · by_cases h2 : a.n = b.n
      · by_cases h3 : a.text = b.text
        · by_cases h4 : a.items.length = b.items.length
          · have hR : ((a.items.zip b.items).all fun p => sameV d p.1 p.2) = S := by
              have h := HS.out
              rw [decide_eq_true h1, decide_eq_true h2, decide_eq_true h3, decide_eq_true h4] at h
              simpa using h
            have HR := Lib.hid hR
            obtain ⟨L, hL⟩ : ∃ L, a.items.length = L := ⟨_, rfl⟩
            have hLb : b.items.length = L := by rw [← h4, hL]
            have HLL := Lib.hid (And.intro hL hLb)
            have hLm : (L : Int) ≤ 9223372036854775807 := by omega
            have IH := Lib.hid ih
            unfold avC at L1 RA1 RB1 ⊢
            rw [h1, h2, h3, hL, hLb] at L1 RA1 RB1 ⊢
            generalize b.kind = bk at *
            generalize b.n = bn at *
            generalize bs b.text = sb at *
            obtain ⟨aA, haA⟩ : ∃ x, a.A = x := ⟨_, rfl⟩
            obtain ⟨bA, hbA⟩ : ∃ x, b.A = x := ⟨_, rfl⟩
            have HAB := Lib.hid (And.intro haA hbA)
            rw [haA, hbA] at L1 RA1 RB1 ⊢
            generalize a.cap = ac at *
            generalize b.cap = bc at *
            have HS0 := Lib.hid (And.intro L1.out (And.intro RA1.out RB1.out))
            clear hS HS ih h1 h2 h3 h4 hla hR hL hLb haA hbA L1 RA1 RB1
            go_in
            go_wp2_with fail
            go_loopg [5] L (fun gk s5 wr => ∃ (i : Nat), gk = L - i ∧ s5 = .int .i64 (i : Nat) ∧ i ≤ L ∧ (∀ (j : Nat) (x y : Av), j < i → a.items[j]? = some x → b.items[j]? = some y → sameV d x y = true) ∧ Below w.heap.size w wr ∧
              wr.heap[w.heap.size]? = some (.cells #[.int .i64 bk, .int .u64 (bn : Nat), .string sb, .slice aA L ac] 26 (0, 0)) ∧
              wr.heap[w.heap.size + 1]? = some (.cells #[.int .i64 bk, .int .u64 (bn : Nat), .string sb, .slice bA L bc] 26 (0, 0)))
            case atStart => exact ⟨0, rfl, rfl, Nat.zero_le _, fun j x y h => absurd h (Nat.not_lt_zero _), HS0.out.1, HS0.out.2.1, HS0.out.2.2⟩
            case round =>
              obtain ⟨i, rfl, rfl, hi, hall, hB, hRA, hRB⟩ := hrel
              have k3 : wr.cell? ⟨w.heap.size, 3, none⟩ = some (.slice aA L ac) := cell_of_row _ _ 3 _ _ _ hRA
              have l3 : wr.cell? ⟨w.heap.size + 1, 3, none⟩ = some (.slice bA L bc) := cell_of_row _ _ 3 _ _ _ hRB
              by_cases hlt : i < L
              · have gl : (i : Int) < (L : Int) := by omega
                have hai : i < a.items.length := by rw [HLL.out.1]; exact hlt
                have hbi : i < b.items.length := by rw [HLL.out.2]; exact hlt
                obtain ⟨x, hx⟩ : ∃ x, a.items[i]? = some x := ⟨_, List.getElem?_eq_getElem hai⟩
                obtain ⟨y, hy⟩ : ∃ y, b.items[i]? = some y := ⟨_, List.getElem?_eq_getElem hbi⟩
                obtain ⟨p, hp, hpb, hpc, hxv⟩ := vat_cell (HA.out.below hB) hx
                obtain ⟨q, hq, hqb, hqc, hyv⟩ := vat_cell (HB.out.below hB) hy
                have hxo : VOk d x := HO.out.2.2.2.2 x (List.mem_of_getElem? hx)
                rw [HAB.out.1] at hp
                rw [HAB.out.2] at hq
                subst hp
                subst hq
                obtain ⟨d0, d1, d2, d3⟩ := cells_at hpc
                obtain ⟨f0, f1, f2, f3⟩ := cells_at hqc
                have CALL := fun W (h : Below wr.heap.size wr W) => IH.out x y W (hxv.below h) (hyv.below h) hxo
                obtain ⟨r, hr⟩ : ∃ r, sameV d x y = r := ⟨_, rfl⟩
                rw [hr] at CALL
                unfold avC at CALL
                obtain ⟨P, hP⟩ : ∃ P, p.add (i * 4) = P := ⟨_, rfl⟩
                obtain ⟨Q, hQ⟩ : ∃ Q, q.add (i * 4) = Q := ⟨_, rfl⟩
                rw [hP] at d0 d1 d2 d3
                rw [hQ] at f0 f1 f2 f3
                have HALL := Lib.hid (show r = true → ∀ (j : Nat) (x y : Av), j < i + 1 → a.items[j]? = some x → b.items[j]? = some y → sameV d x y = true from fun hr1 j x' y' hj h1 h2 => by
                  rcases Nat.lt_succ_iff_lt_or_eq.1 hj with hj | rfl
                  · exact hall j x' y' hj h1 h2
                  · rw [hx] at h1
                    rw [hy] at h2
                    cases h1
                    cases h2
                    rw [hr, hr1])
                have HNOT := Lib.hid (show r = false → S = false from fun hr0 => by rw [← HR.out]; exact zip_not hx hy (by rw [hr, hr0]))
                have HST := Lib.hid (And.intro hB (And.intro hRA hRB))
                have CALL := Lib.hid CALL
                have HLT := Lib.hid hlt
                generalize x.kind = xk at *
                generalize x.n = xn at *
                generalize bs x.text = xt at *
                generalize x.A = xA at *
                generalize x.items.length = xl at *
                generalize x.cap = xc at *
                generalize y.kind = yk at *
                generalize y.n = yn at *
                generalize bs y.text = yt at *
                generalize y.A = yA at *
                generalize y.items.length = yl at *
                generalize y.cap = yc at *
                clear hall hB hRA hRB hlt hai hbi hx hy hpb hpc hxv hqb hqc hyv hxo hr
                go_wp2_with fail
                go_still_tail 10, (by kernel_rfl)
                change wpList _ _ _ _ _ wr.drew
                have CL := CALL.out wr.drew (below_draws (Below.refl _ _) 1)
                have HB0 : Below wr.heap.size wr wr.drew := below_draws (Below.refl _ _) 1
                generalize wr.drew = W0 at *
                go_wp2_with fail
                refine CL.mono ?_
                rintro e1 W1 ⟨rfl, hb1⟩
                have HX := below_then HB0 hb1
                have HB1 := Lib.hid (And.intro (below_then HST.out.1 HX) (And.intro ((HX.block _ (lt_of_block HST.out.2.1)).trans HST.out.2.1) ((HX.block _ (lt_of_block HST.out.2.2)).trans HST.out.2.2)))
                clear hb1 CL HB0 HX CALL
                cases r with
                | true =>
                  have HA1 := Lib.hid (HALL.out rfl)
                  clear HALL HNOT
                  go_wp2_with fail
                  go_roundg (L - (i + 1))
                  case measure => have := HLT.out; omega
                  case rel => exact ⟨i + 1, rfl, by go_num, HLT.out, HA1.out, HB1.out.1, HB1.out.2.1, HB1.out.2.2⟩
                | false =>
                  obtain rfl := HNOT.out rfl
                  clear HALL HNOT
                  go_wp2_with fail
                  go_ret
                  exact ⟨rfl, HB1.out.1⟩
              · obtain rfl : i = L := by omega
                have hS1 : S = true := by
                  rw [← HR.out]
                  exact zip_all (by rw [HLL.out.1, HLL.out.2]) fun j x y h1 h2 => hall j x y (by have := (List.getElem?_eq_some_iff.1 h1).1; rw [HLL.out.1] at this; exact this) h1 h2
                subst hS1
                have gl : ¬ (i : Int) < (i : Int) := by omega
                have HBB := Lib.hid hB
                clear hall hB hRA hRB hlt hi
                go_wp2_with fail
                go_ret
                exact ⟨rfl, HBB.out⟩
          · have hF := HS.out
            rw [decide_eq_false h4] at hF
            simp only [Bool.and_false, Bool.false_and] at hF
            subst hF
            have e1 : (a.kind != b.kind) = false := by simp [h1]
            have e2 : ((a.n : Int) != (b.n : Int)) = false := by simp [h2]
            have e3 : bs a.text = bs b.text := by rw [h3]
            have e4 : ((a.items.length : Int) != (b.items.length : Int)) = true := by simp; omega
            unfold avC at *
            generalize a.kind = ak at *
            generalize b.kind = bk at *
            generalize a.n = an at *
            generalize b.n = bn at *
            generalize bs a.text = sa at *
            generalize bs b.text = sb at *
            subst e3
            generalize a.items.length = al at *
            generalize b.items.length = bl at *
            clear hS HS ih HA HB HO RA1 RB1 h1 h2 h3 h4 hla
            go_in
            go_wp2_with fail
            go_ret
            exact ⟨rfl, L1.out⟩
        · have hF := HS.out
          rw [decide_eq_false h3] at hF
          simp only [Bool.and_false, Bool.false_and] at hF
          subst hF
          have e1 : (a.kind != b.kind) = false := by simp [h1]
          have e2 : ((a.n : Int) != (b.n : Int)) = false := by simp [h2]
          have e3 : ¬ (bs a.text).toList = (bs b.text).toList := by rw [bs_toList, bs_toList]; exact h3
          unfold avC at *
          generalize a.kind = ak at *
          generalize b.kind = bk at *
          generalize a.n = an at *
          generalize b.n = bn at *
          generalize bs a.text = sa at *
          generalize bs b.text = sb at *
          clear hS HS ih HA HB HO RA1 RB1 h1 h2 h3 hla
          go_in
          go_wp2_with fail
          go_ret
          exact ⟨rfl, L1.out⟩
      · have hF := HS.out
        rw [decide_eq_false h2] at hF
        simp only [Bool.and_false, Bool.false_and] at hF
        subst hF
        have e1 : (a.kind != b.kind) = false := by simp [h1]
        have e2 : ((a.n : Int) != (b.n : Int)) = true := by simp; omega
        unfold avC at *
        generalize a.kind = ak at *
        generalize b.kind = bk at *
        generalize a.n = an at *
        generalize b.n = bn at *
        clear hS HS ih HA HB HO RA1 RB1 h1 h2 hla
        go_in
        go_wp2_with fail
        go_ret
        exact ⟨rfl, L1.out⟩
    · have hF := HS.out
      rw [decide_eq_false h1] at hF
      simp only [Bool.false_and] at hF
      subst hF
      have e1 : (a.kind != b.kind) = true := by simp [h1]
      unfold avC at *
      generalize a.kind = ak at *
      generalize b.kind = bk at *
      clear hS HS ih HA HB HO RA1 RB1
      go_in
      go_wp2_with fail
      go_ret
      exact ⟨rfl, L1.out⟩
end Go.Proofs.YtjbgnlnchchgcaaDoor
