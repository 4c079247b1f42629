/-
  The contract of head.Same: whether two packets are equal. Condition: at most 70,000 elements a list.
-/
import Derived.Test.YtaahhbjnflimnaaGreatK29
import Derived.Test.YtaahhbjnflimnaaGreatK24
namespace Go.Proofs.YtaahhbjnflimnaaGreat
open Go.RowKit

/-- What stands while head.Same runs. -/
structure SmS (w : World) (p : Pk) (a : Ad) (q : Pk) (b : Ad) (W : World) : Prop where
  low : Below w.heap.size w W
  p : W.heap[w.heap.size]? = some (.cells (pkC p a) 28 (0, 0))
  q : W.heap[w.heap.size + 1]? = some (.cells (pkC q b) 28 (0, 0))
theorem SmS.call {w W W' : World} {p q : Pk} {a b : Ad} (h : SmS w p a q b W) (hb : Below W.heap.size W W') : SmS w p a q b W' :=
  ⟨below_then h.low hb, (hb.block _ (lt_of_block h.p)).trans h.p, (hb.block _ (lt_of_block h.q)).trans h.q⟩
set_option maxHeartbeats 4000000 in
set_option maxRecDepth 100000 in
theorem hd_same (p q : Pk) (a b : Ad) (w : World) (hp : PkAt w p a) (hq : PkAt w q b) (sp : Short p) (sq : Short q) :
    Calls Tryz.prog 94 #[pkV p a, pkV q b] w fun e w' => e = .returned (.bool (decide (p = q))) ∧ Below w.heap.size w w' := by
  have S0 : SmS w p a q b ((w.alloc (.cells (pkC p a) 28)).alloc (.cells (pkC q b) 28)) := ⟨below_then (below_box _) (below_box _), heap_alloc2_old _ _ _, heap_alloc2_new _ _ _⟩
  have S0 : SmS w p a q b (((w.alloc (.cells (pkC p a) 28)).alloc (.cells (pkC q b) 28))).drew := ⟨S0.low.drew, S0.p, S0.q⟩
  have CE : ∀ (x : Pk) (c : Ad), (∀ (B j : Nat) (u : Value) (W : World), W.heap[B]? = some (.cells (pkC x c) 28 (0, 0)) → (pkC x c)[j]? = some u → W.cell? ⟨B, j, none⟩ = some u) := fun x c B j u W h hu => (cell_of_row _ _ j _ _ _ h).trans hu
  have N1 : ∀ (x : Pk) (c : Ad) W, SmS w p a q b W → Calls Tryz.prog 145 #[.agg (pkC x c)] W fun e w' => e = .returned (.agg (numsA x)) ∧ SmS w p a q b w' := fun x c W h => (numbers_any x c W).mono fun e w' ⟨he, hb⟩ => ⟨he, h.call hb⟩
  have N2 : ∀ (x : Pk) (c : Ad) W, SmS w p a q b W → Calls Tryz.prog 146 #[.agg (pkC x c)] W fun e w' => e = .returned (.agg (marksA x)) ∧ SmS w p a q b w' := fun x c W h => (marks_any x c W).mono fun e w' ⟨he, hb⟩ => ⟨he, h.call hb⟩
  have N3 : ∀ (x : Pk) (c : Ad) W, SmS w p a q b W → Calls Tryz.prog 147 #[.agg (pkC x c)] W fun e w' => e = .returned (.agg (textsA x)) ∧ SmS w p a q b w' := fun x c W h => (texts_any x c W).mono fun e w' ⟨he, hb⟩ => ⟨he, h.call hb⟩
  have F3 : ∀ W, SmS w p a q b W → Calls Tryz.prog 148 #[(.slice a.cs p.codes.length a.cc), (.slice b.cs q.codes.length b.cc), .func (.func 149) #[] #[]] W fun e w' => e = .returned (.bool (decide (p.codes = q.codes))) ∧ SmS w p a q b w' := fun W h => (efunc_int _ _ _ _ _ _ p.codes q.codes W (hp.cs.below (h.low)) (hq.cs.below (h.low)) rfl rfl (by have := sp; unfold Short at this; omega) (by have := sq; unfold Short at this; omega)).mono fun e w' ⟨he, hb⟩ => ⟨he, h.call hb⟩
  have F4 : ∀ W, SmS w p a q b W → Calls Tryz.prog 150 #[(.slice a.fs p.filters.length a.fc), (.slice b.fs q.filters.length b.fc), .func (.func 151) #[] #[]] W fun e w' => e = .returned (.bool (decide (p.filters = q.filters))) ∧ SmS w p a q b w' := fun W h => (efunc_fi _ _ _ _ _ _ p.filters q.filters W (hp.fs.below (h.low)) (hq.fs.below (h.low)) rfl rfl (by have := sp; unfold Short at this; omega) (by have := sq; unfold Short at this; omega)).mono fun e w' ⟨he, hb⟩ => ⟨he, h.call hb⟩
  have F5 : ∀ W, SmS w p a q b W → Calls Tryz.prog 152 #[(.slice a.ps p.props.length a.pc), (.slice b.ps q.props.length b.pc), .func (.func 153) #[] #[]] W fun e w' => e = .returned (.bool (decide (p.props = q.props))) ∧ SmS w p a q b w' := fun W h => (efunc_prop _ _ _ _ _ _ p.props q.props W (hp.ps.below (h.low)) (hq.ps.below (h.low)) rfl rfl (by have := sp; unfold Short at this; omega) (by have := sq; unfold Short at this; omega)).mono fun e w' ⟨he, hb⟩ => ⟨he, h.call hb⟩
  have F6 : ∀ W, SmS w p a q b W → Calls Tryz.prog 152 #[(.slice a.w p.wProps.length a.wc), (.slice b.w q.wProps.length b.wc), .func (.func 153) #[] #[]] W fun e w' => e = .returned (.bool (decide (p.wProps = q.wProps))) ∧ SmS w p a q b w' := fun W h => (efunc_prop _ _ _ _ _ _ p.wProps q.wProps W (hp.w.below (h.low)) (hq.w.below (h.low)) rfl rfl (by have := sp; unfold Short at this; omega) (by have := sq; unfold Short at this; omega)).mono fun e w' ⟨he, hb⟩ => ⟨he, h.call hb⟩
  have C1 := pkC_size p a
  have C2 := pkC_size q b
  have cp22 : ∀ W, SmS w p a q b W → W.cell? ⟨w.heap.size, 22, none⟩ = some (.slice a.cs p.codes.length a.cc) := fun W h => CE p a _ 22 _ W h.p rfl
  have cp23 : ∀ W, SmS w p a q b W → W.cell? ⟨w.heap.size, 23, none⟩ = some (.slice a.fs p.filters.length a.fc) := fun W h => CE p a _ 23 _ W h.p rfl
  have cp24 : ∀ W, SmS w p a q b W → W.cell? ⟨w.heap.size, 24, none⟩ = some (.slice a.ps p.props.length a.pc) := fun W h => CE p a _ 24 _ W h.p rfl
  have cp19 : ∀ W, SmS w p a q b W → W.cell? ⟨w.heap.size, 19, none⟩ = some (.slice a.w p.wProps.length a.wc) := fun W h => CE p a _ 19 _ W h.p rfl
  have cq22 : ∀ W, SmS w p a q b W → W.cell? ⟨w.heap.size + 1, 22, none⟩ = some (.slice b.cs q.codes.length b.cc) := fun W h => CE q b _ 22 _ W h.q rfl
  have cq23 : ∀ W, SmS w p a q b W → W.cell? ⟨w.heap.size + 1, 23, none⟩ = some (.slice b.fs q.filters.length b.fc) := fun W h => CE q b _ 23 _ W h.q rfl
  have cq24 : ∀ W, SmS w p a q b W → W.cell? ⟨w.heap.size + 1, 24, none⟩ = some (.slice b.ps q.props.length b.pc) := fun W h => CE q b _ 24 _ W h.q rfl
  have cq19 : ∀ W, SmS w p a q b W → W.cell? ⟨w.heap.size + 1, 19, none⟩ = some (.slice b.w q.wProps.length b.wc) := fun W h => CE q b _ 19 _ W h.q rfl
  have K1 := N1 p a
  have K2 := N1 q b
  have K3 := N2 p a
  have K4 := N2 q b
  have K5 := N3 p a
  have K6 := N3 q b
  have P1 : ∀ W, SmS w p a q b W → W.heap[w.heap.size]? = some (.cells (pkC p a) 28 (0, 0)) := fun W h => h.p
  have P2 : ∀ W, SmS w p a q b W → W.heap[w.heap.size + 1]? = some (.cells (pkC q b) 28 (0, 0)) := fun W h => h.q
  have LO : ∀ W, SmS w p a q b W → Below w.heap.size w W := fun W h => h.low
  have I94 := pk_eq_iff p q
  unfold pkV
  clear CE N1 N2 N3 hp hq sp sq
  generalize pkC p a = C at *
  generalize pkC q b = E at *
  generalize hSS : SmS w p a q b = S at *
  have HS := Lib.hid hSS
  clear hSS
  have hS0 := Lib.hid S0
  have hC1 := Lib.hid C1
  have hC2 := Lib.hid C2
  have hP1 := Lib.hid P1
  have hP2 := Lib.hid P2
  have hLO := Lib.hid LO
  have hK1 := Lib.hid K1
  have hK2 := Lib.hid K2
  have hK3 := Lib.hid K3
  have hK4 := Lib.hid K4
  have hK5 := Lib.hid K5
  have hK6 := Lib.hid K6
  have hF3 := Lib.hid F3
  have hF4 := Lib.hid F4
  have hF5 := Lib.hid F5
  have hF6 := Lib.hid F6
  have hcp22 := Lib.hid cp22
  have hcp23 := Lib.hid cp23
  have hcp24 := Lib.hid cp24
  have hcp19 := Lib.hid cp19
  have hcq22 := Lib.hid cq22
  have hcq23 := Lib.hid cq23
  have hcq24 := Lib.hid cq24
  have hcq19 := Lib.hid cq19
  have HI := Lib.hid I94
  clear I94 S0 C1 C2 P1 P2 LO K1 K2 K3 K4 K5 K6 F3 F4 F5 F6 cp22 cp23 cp24 cp19 cq22 cq23 cq24 cq19
  by_cases e0 : p.nums = q.nums
  · by_cases e1 : p.marks = q.marks
    · by_cases e2 : p.texts = q.texts
      · by_cases e3 : p.codes = q.codes
        · by_cases e4 : p.filters = q.filters
          · by_cases e5 : p.props = q.props
            · by_cases e6 : p.wProps = q.wProps
              · have hd : decide (p = q) = true := by
                  exact decide_eq_true (HI.out.2 ⟨e0, e1, e2, e3, e4, e5, e6⟩)
                rw [hd]
                clear hd
                have E0 := Lib.hid e0
                have E1 := Lib.hid e1
                have E2 := Lib.hid e2
                have E3 := Lib.hid e3
                have E4 := Lib.hid e4
                have E5 := Lib.hid e5
                have E6 := Lib.hid e6
                clear e0 e1 e2 e3 e4 e5 e6
                go_enter Tryz.func94, Tryz.ntmps94
                go_wp2_with fail
                refine same_way7 (S := S) (p := p) (q := q) (a := a) (b := b) (C := C) (E := E) (B := w.heap.size) hS0.out hC1.out hC2.out hP1.out hP2.out hK1.out hK2.out (by exact decide_eq_true E0.out) hK3.out hK4.out (by exact decide_eq_true E1.out) hK5.out hK6.out (by exact decide_eq_true E2.out) hcp22.out hcq22.out (fun W hW => by have := hF3.out W hW; rw [decide_eq_true E3.out] at this; exact this) hcp23.out hcq23.out (fun W hW => by have := hF4.out W hW; rw [decide_eq_true E4.out] at this; exact this) hcp24.out hcq24.out (fun W hW => by have := hF5.out W hW; rw [decide_eq_true E5.out] at this; exact this) hcp19.out hcq19.out (fun W hW => by have := hF6.out W hW; rw [decide_eq_true E6.out] at this; exact this) ?_
                intro W hW
                have BW := Lib.hid (hLO.out W hW)
                clear hW
                go_wp2_with fail
                go_ret
                exact ⟨rfl, BW.out⟩
              · have hd : decide (p = q) = false := by
                  exact decide_eq_false fun e => e6 (HI.out.1 e).2.2.2.2.2.2
                rw [hd]
                clear hd
                have E0 := Lib.hid e0
                have E1 := Lib.hid e1
                have E2 := Lib.hid e2
                have E3 := Lib.hid e3
                have E4 := Lib.hid e4
                have E5 := Lib.hid e5
                have E6 := Lib.hid e6
                clear e0 e1 e2 e3 e4 e5 e6
                go_enter Tryz.func94, Tryz.ntmps94
                go_wp2_with fail
                refine same_way6 (S := S) (p := p) (q := q) (a := a) (b := b) (C := C) (E := E) (B := w.heap.size) hS0.out hC1.out hC2.out hP1.out hP2.out hK1.out hK2.out (by exact decide_eq_true E0.out) hK3.out hK4.out (by exact decide_eq_true E1.out) hK5.out hK6.out (by exact decide_eq_true E2.out) hcp22.out hcq22.out (fun W hW => by have := hF3.out W hW; rw [decide_eq_true E3.out] at this; exact this) hcp23.out hcq23.out (fun W hW => by have := hF4.out W hW; rw [decide_eq_true E4.out] at this; exact this) hcp24.out hcq24.out (fun W hW => by have := hF5.out W hW; rw [decide_eq_true E5.out] at this; exact this) hcp19.out hcq19.out (fun W hW => by have := hF6.out W hW; rw [decide_eq_false E6.out] at this; exact this) ?_
                intro W hW
                have BW := Lib.hid (hLO.out W hW)
                clear hW
                go_wp2_with fail
                go_ret
                exact ⟨rfl, BW.out⟩
            · have hd : decide (p = q) = false := by
                exact decide_eq_false fun e => e5 (HI.out.1 e).2.2.2.2.2.1
              rw [hd]
              clear hd
              have E0 := Lib.hid e0
              have E1 := Lib.hid e1
              have E2 := Lib.hid e2
              have E3 := Lib.hid e3
              have E4 := Lib.hid e4
              have E5 := Lib.hid e5
              clear e0 e1 e2 e3 e4 e5
              go_enter Tryz.func94, Tryz.ntmps94
              go_wp2_with fail
              refine same_way5 (S := S) (p := p) (q := q) (a := a) (b := b) (C := C) (E := E) (B := w.heap.size) hS0.out hC1.out hC2.out hP1.out hP2.out hK1.out hK2.out (by exact decide_eq_true E0.out) hK3.out hK4.out (by exact decide_eq_true E1.out) hK5.out hK6.out (by exact decide_eq_true E2.out) hcp22.out hcq22.out (fun W hW => by have := hF3.out W hW; rw [decide_eq_true E3.out] at this; exact this) hcp23.out hcq23.out (fun W hW => by have := hF4.out W hW; rw [decide_eq_true E4.out] at this; exact this) hcp24.out hcq24.out (fun W hW => by have := hF5.out W hW; rw [decide_eq_false E5.out] at this; exact this) ?_
              intro W hW
              have BW := Lib.hid (hLO.out W hW)
              clear hW
              go_wp2_with fail
              go_ret
              exact ⟨rfl, BW.out⟩
          · have hd : decide (p = q) = false := by
              exact decide_eq_false fun e => e4 (HI.out.1 e).2.2.2.2.1
            rw [hd]
            clear hd
            have E0 := Lib.hid e0
            have E1 := Lib.hid e1
            have E2 := Lib.hid e2
            have E3 := Lib.hid e3
            have E4 := Lib.hid e4
            clear e0 e1 e2 e3 e4
            go_enter Tryz.func94, Tryz.ntmps94
            go_wp2_with fail
            refine same_way4 (S := S) (p := p) (q := q) (a := a) (b := b) (C := C) (E := E) (B := w.heap.size) hS0.out hC1.out hC2.out hP1.out hP2.out hK1.out hK2.out (by exact decide_eq_true E0.out) hK3.out hK4.out (by exact decide_eq_true E1.out) hK5.out hK6.out (by exact decide_eq_true E2.out) hcp22.out hcq22.out (fun W hW => by have := hF3.out W hW; rw [decide_eq_true E3.out] at this; exact this) hcp23.out hcq23.out (fun W hW => by have := hF4.out W hW; rw [decide_eq_false E4.out] at this; exact this) ?_
            intro W hW
            have BW := Lib.hid (hLO.out W hW)
            clear hW
            go_wp2_with fail
            go_ret
            exact ⟨rfl, BW.out⟩
        · have hd : decide (p = q) = false := by
            exact decide_eq_false fun e => e3 (HI.out.1 e).2.2.2.1
          rw [hd]
          clear hd
          have E0 := Lib.hid e0
          have E1 := Lib.hid e1
          have E2 := Lib.hid e2
          have E3 := Lib.hid e3
          clear e0 e1 e2 e3
          go_enter Tryz.func94, Tryz.ntmps94
          go_wp2_with fail
          refine same_way3 (S := S) (p := p) (q := q) (a := a) (b := b) (C := C) (E := E) (B := w.heap.size) hS0.out hC1.out hC2.out hP1.out hP2.out hK1.out hK2.out (by exact decide_eq_true E0.out) hK3.out hK4.out (by exact decide_eq_true E1.out) hK5.out hK6.out (by exact decide_eq_true E2.out) hcp22.out hcq22.out (fun W hW => by have := hF3.out W hW; rw [decide_eq_false E3.out] at this; exact this) ?_
          intro W hW
          have BW := Lib.hid (hLO.out W hW)
          clear hW
          go_wp2_with fail
          go_ret
          exact ⟨rfl, BW.out⟩
      · have hd : decide (p = q) = false := by
          exact decide_eq_false fun e => e2 (HI.out.1 e).2.2.1
        rw [hd]
        clear hd
        have E0 := Lib.hid e0
        have E1 := Lib.hid e1
        have E2 := Lib.hid e2
        clear e0 e1 e2
        go_enter Tryz.func94, Tryz.ntmps94
        go_wp2_with fail
        refine same_way2 (S := S) (p := p) (q := q) (C := C) (E := E) (B := w.heap.size) hS0.out hC1.out hC2.out hP1.out hP2.out hK1.out hK2.out (by exact decide_eq_true E0.out) hK3.out hK4.out (by exact decide_eq_true E1.out) hK5.out hK6.out (by exact decide_eq_false E2.out) ?_
        intro W hW
        have BW := Lib.hid (hLO.out W hW)
        clear hW
        go_wp2_with fail
        go_ret
        exact ⟨rfl, BW.out⟩
    · have hd : decide (p = q) = false := by
        exact decide_eq_false fun e => e1 (HI.out.1 e).2.1
      rw [hd]
      clear hd
      have E0 := Lib.hid e0
      have E1 := Lib.hid e1
      clear e0 e1
      go_enter Tryz.func94, Tryz.ntmps94
      go_wp2_with fail
      refine same_way1 (S := S) (p := p) (q := q) (C := C) (E := E) (B := w.heap.size) hS0.out hC1.out hC2.out hP1.out hP2.out hK1.out hK2.out (by exact decide_eq_true E0.out) hK3.out hK4.out (by exact decide_eq_false E1.out) ?_
      intro W hW
      have BW := Lib.hid (hLO.out W hW)
      clear hW
      go_wp2_with fail
      go_ret
      exact ⟨rfl, BW.out⟩
  · have hd : decide (p = q) = false := by
      exact decide_eq_false fun e => e0 (HI.out.1 e).1
    rw [hd]
    clear hd
    have E0 := Lib.hid e0
    clear e0
    go_enter Tryz.func94, Tryz.ntmps94
    go_wp2_with fail
    refine same_way0 (S := S) (p := p) (q := q) (C := C) (E := E) (B := w.heap.size) hS0.out hC1.out hC2.out hP1.out hP2.out hK1.out hK2.out (by exact decide_eq_false E0.out) ?_
    intro W hW
    have BW := Lib.hid (hLO.out W hW)
    clear hW
    go_wp2_with fail
    go_ret
    exact ⟨rfl, BW.out⟩
end Go.Proofs.YtaahhbjnflimnaaGreat
