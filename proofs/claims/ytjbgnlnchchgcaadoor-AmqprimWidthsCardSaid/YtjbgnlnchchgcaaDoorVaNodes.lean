/-
  The contracts of polyglotkit.nodes and LightValue. No condition.
-/
import Derived.Deep.DeepCutAuto
import Derived.Deep.LoopGhost
import Derived.Test.YtjbgnlnchchgcaaDoorKit
import Derived.Test.YtjbgnlnchchgcaaDoorVaPlain
namespace Go.Proofs.YtjbgnlnchchgcaaDoor
open Go.RowKit

theorem fold_stop {q m : Nat} : ∀ (l : List Av) (n : Nat), m < n → l.foldl (fun n x => if n ≤ m then n + nodesV q (m - n) x else n) n = n
  | [], _, _ => rfl
  | x :: l, n, h => by
    rw [List.foldl_cons, if_neg (by omega)]
    exact fold_stop l n h
set_option maxRecDepth 100000 in
set_option maxHeartbeats 2000000 in
theorem nodes_any : ∀ (q m : Nat) (v : Av) (d : Nat) (w : World), q ≤ 7 → m ≤ 40 → VAt d w v → Calls Tryd.prog 45 #[.agg (avC v), .int .i64 ((q : Int) - 1), .int .i64 (m : Nat)] w fun e W => e = .returned (.int .i64 (nodesV q m v : Nat)) ∧ Below w.heap.size w W := by
  intro q
  induction q with
  | zero =>
    intro m v d w _ hm _
    have L0 := Lib.hid (show Below w.heap.size w (w.alloc (.cells (avC v) 26)) from (Below.refl _ _).alloc (Nat.le_refl _) _)
    have hm1 : (m : Int) ≤ 40 := by omega
    have HN := Lib.hid (show nodesV 0 m v = m + 1 from rfl)
    unfold avC
    go_in
    go_wp2_with fail
    go_ret
    exact ⟨by rw [HN.out]; rfl, L0.out⟩
  | succ q ih =>
    intro m v d w hq hm hv
    obtain ⟨k, n, t, A, c, items⟩ := v
    have L0 := Lib.hid (below_box (w := w) (.cells (avC (.mk k n t A c items)) 26))
    have R0 := Lib.hid (heap_alloc_new w (.cells (avC (.mk k n t A c items)) 26))
    have e : ((q + 1 : Nat) : Int) - 1 = (q : Int) := by omega
    rw [e]
    have hm1 : (m : Int) ≤ 40 := by omega
    have hq1 : (q : Int) ≤ 6 := by omega
    have hq0 : (0 : Int) ≤ (q : Int) := by omega
    have hs : (bs t).size = t.length := bs_size t
    obtain ⟨N, hN⟩ : ∃ N, nodesV (q + 1) m (.mk k n t A c items) = N := ⟨_, rfl⟩
    rw [hN]
    have hd := (nodes_mk q m k n t A c items).symm.trans hN
    obtain ⟨L, hL⟩ : ∃ L, items.length = L := ⟨_, rfl⟩
    rw [hL] at hd
    by_cases h1 : m < L
    · rw [if_pos (.inl h1)] at hd
      subst hd
      have g1 : (m : Int) < (L : Int) := by omega
      clear hN hv e h1
      simp only [avC, Av.kind, Av.n, Av.text, Av.A, Av.items, Av.cap, hL] at L0 R0 ⊢
      go_in
      go_wp2_with fail
      go_ret
      exact ⟨rfl, L0.out⟩
    by_cases h2 : 400 < t.length
    · rw [if_pos (.inr h2)] at hd
      subst hd
      have g1 : ¬ (m : Int) < (L : Int) := by omega
      have g2 : (400 : Int) < ((bs t).size : Int) := by omega
      clear hN hv e h1 h2
      simp only [avC, Av.kind, Av.n, Av.text, Av.A, Av.items, Av.cap, hL] at L0 R0 ⊢
      go_in
      go_wp2_with fail
      go_ret
      exact ⟨rfl, L0.out⟩
    · rw [if_neg (by omega)] at hd
      have g1 : ¬ (m : Int) < (L : Int) := by omega
      have g2 : ¬ (400 : Int) < ((bs t).size : Int) := by omega
      have HD := Lib.hid hd
      have HV := Lib.hid hv
      have HL := Lib.hid hL
      clear hN hv e h1 h2 hd
      simp only [avC, Av.kind, Av.n, Av.text, Av.A, Av.items, Av.cap, hL] at L0 R0 ⊢
      clear hL
      go_in
      go_wp2_with fail
      have S0 := Lib.hid (show Below w.heap.size w (w.alloc (.cells #[.int .i64 k, .int .u64 (n : Nat), .string (bs t), .slice A L c] 26)) ∧ (w.alloc (.cells #[.int .i64 k, .int .u64 (n : Nat), .string (bs t), .slice A L c] 26)).heap[w.heap.size]? = some (.cells #[.int .i64 k, .int .u64 (n : Nat), .string (bs t), .slice A L c] 26 (0, 0)) from ⟨L0.out, R0.out⟩)
      go_loopg [7, 8] L (fun gk s7 s8 wr => ∃ (i r : Nat), gk = L - i ∧ s7 = .int .i64 (r : Nat) ∧ s8 = .int .i64 (i : Nat) ∧ i ≤ L ∧ 1 ≤ r ∧ r ≤ m + 1 ∧ (items.drop i).foldl (fun n x => if n ≤ m then n + nodesV q (m - n) x else n) r = N ∧
        Below w.heap.size w wr ∧ wr.heap[w.heap.size]? = some (.cells #[.int .i64 k, .int .u64 (n : Nat), .string (bs t), .slice A L c] 26 (0, 0)))
      case atStart => exact ⟨0, 1, rfl, rfl, rfl, Nat.zero_le _, Nat.le_refl _, by omega, by rw [List.drop_zero]; exact HD.out, S0.out.1, S0.out.2⟩
      case round =>
        obtain ⟨i, r, rfl, rfl, rfl, hi, hr1, hrm, hf, hB, hR⟩ := hrel
        clear S0 L0 R0 HD
        have k3 : wr.cell? ⟨w.heap.size, 3, none⟩ = some (.slice A L c) := cell_of_row _ _ 3 _ _ _ hR
        have hL40 : (L : Int) ≤ 40 := by omega
        have hi40 : (i : Int) ≤ 40 := by omega
        have hr0 : (r : Int) ≤ 41 := by omega
        by_cases hlt : i < L
        · have gl : (i : Int) < (L : Int) := by omega
          by_cases hrn : r ≤ m
          · have gr : (r : Int) ≤ (m : Int) := by omega
            have hil : i < items.length := by rw [HL.out]; exact hlt
            have hx := List.drop_eq_getElem_cons hil
            obtain ⟨x, hxe⟩ : ∃ x, items[i] = x := ⟨_, rfl⟩
            rw [hxe] at hx
            rw [hx, List.foldl_cons, if_pos hrn] at hf
            obtain ⟨d', rfl⟩ : ∃ d', d = d' + 1 := by
              cases d with
              | zero => exact absurd HV.out (by simp [VAt])
              | succ d' => exact ⟨d', rfl⟩
            obtain ⟨-, -, hcell, hall⟩ := HV.out.below hB
            obtain ⟨a, rfl, hab, hcc⟩ := hcell (by show 0 < items.length; omega)
            have hxm : x ∈ items := by rw [← hxe]; exact List.getElem_mem hil
            have hxv : VAt d' wr x := hall x hxm
            have hxi : items[i]? = some x := by rw [List.getElem?_eq_getElem hil, hxe]
            have hcx := hcc i x hxi
            have IH := ih (m - r) x d' wr (by omega) (by omega) hxv
            have hnl := nodes_le q (m - r) x (by omega)
            have hnp := nodes_pos q (m - r) x
            obtain ⟨y, hy⟩ : ∃ y, nodesV q (m - r) x = y := ⟨_, rfl⟩
            rw [hy] at IH hf hnl hnp
            have emr : ((m - r : Nat) : Int) = (m : Int) - (r : Int) := by omega
            rw [emr] at IH
            obtain ⟨d0, d1, d2, d3⟩ := cells_at hcx
            obtain ⟨b, hb⟩ : ∃ b, a.add (i * 4) = b := ⟨_, rfl⟩
            rw [hb] at d0 d1 d2 d3
            unfold avC at IH
            have HF := Lib.hid hf
            have HBR := Lib.hid (And.intro hB hR)
            generalize x.kind = xk at *
            generalize x.n = xn at *
            generalize bs x.text = xs at *
            generalize x.A = xA at *
            generalize x.items.length = xL at *
            generalize x.cap = xc at *
            have HLT := Lib.hid hlt
            have hnI : (r : Int) + (y : Int) ≤ (m : Int) + 1 := by omega
            clear hcell hall hcc hxm hxv hxi hcx hx hil hxe hf hB hR hlt hy hnp hrn hL40
            go_wp2_with fail
            refine IH.mono ?_
            rintro e1 W1 ⟨rfl, hb1⟩
            have HB1 := Lib.hid (And.intro (below_then HBR.out.1 hb1) ((hb1.block _ (lt_of_block HBR.out.2)).trans HBR.out.2))
            clear hb1 IH
            go_wp2_with fail
            go_roundg (L - (i + 1))
            case measure => have := HLT.out; omega
            case rel =>
              refine ⟨i + 1, r + y, rfl, ?_, ?_, HLT.out, by omega, by omega, HF.out, HB1.out.1, HB1.out.2⟩
              · first | go_num | exact congrArg (Value.int IntKind.i64) (by unfold wrap64; omega)
              · go_num
          · have gr : ¬ (r : Int) ≤ (m : Int) := by omega
            rw [fold_stop _ _ (by omega)] at hf
            subst hf
            have HB := Lib.hid hB
            clear hB hR hlt hrn
            go_wp2_with fail
            go_ret
            exact ⟨rfl, HB.out⟩
        · have gl : ¬ (i : Int) < (L : Int) := by omega
          rw [List.drop_of_length_le (by rw [HL.out]; omega)] at hf
          have hf : r = N := hf
          subst hf
          have HB := Lib.hid hB
          clear hB hR hlt
          go_wp2_with fail
          go_ret
          exact ⟨rfl, HB.out⟩
set_option maxHeartbeats 1000000 in
theorem light_any (v : Av) (d : Nat) (w : World) (hv : VAt d w v) : Calls Tryd.prog 21 #[.agg (avC v)] w fun e W => e = .returned (.bool (lightV v)) ∧ Below w.heap.size w W := by
  have L0 := below_box (w := w) (.cells (avC v) 26)
  have ND := Lib.hid (nodes_any 7 40 v d _ (by omega) (by omega) (hv.below L0))
  have L0 := Lib.hid L0
  unfold lightV
  obtain ⟨n, hn⟩ : ∃ n, nodesV 7 40 v = n := ⟨_, rfl⟩
  rw [hn] at ND ⊢
  have e : decide ((n : Int) ≤ 40) = decide (n ≤ 40) := by
    apply Bool.eq_iff_iff.2
    simp only [decide_eq_true_eq]
    omega
  rw [← e]
  unfold avC at *
  clear hv hn e
  go_in
  go_wp2_with fail
  refine ND.out.mono ?_
  rintro e1 W1 ⟨rfl, hb⟩
  have B1 := Lib.hid (below_then L0.out hb)
  clear hb
  go_wp2_with fail
  go_ret
  exact ⟨rfl, B1.out⟩
end Go.Proofs.YtjbgnlnchchgcaaDoor
