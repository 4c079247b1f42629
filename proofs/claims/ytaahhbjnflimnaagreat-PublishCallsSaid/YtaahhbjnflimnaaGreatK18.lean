/-
  The contract of head.Same: whether two packets are equal. Condition: at most 70,000 elements a list.
  The region of publish.Valid's third check. Condition: none.
  The region of publish.Body that draws. Condition: none.
  The region of polyglotkit.OwnPacket: four lists, each loaded, copied and stored. Condition: none.
-/
import Derived.Test.YtaahhbjnflimnaaGreatK17
import Derived.Test.YtaahhbjnflimnaaGreatK13
import Derived.Test.YtaahhbjnflimnaaGreatK02
import Derived.Test.YtaahhbjnflimnaaGreatK12
import Derived.Test.YtaahhbjnflimnaaGreatK08
namespace Go.Proofs.YtaahhbjnflimnaaGreat
open Go.RowKit

/-- What stands while head.Same runs. -/
structure SmS (w : World) (p : Pk) (a : Ad) (q : Pk) (b : Ad) (W : World) : Prop where
  low : Below w.heap.size w W
  p : W.heap[w.heap.size]? = some (.cells (pkC p a) 28 (0, 0))
  q : W.heap[w.heap.size + 1]? = some (.cells (pkC q b) 28 (0, 0))
theorem SmS.call {w W W' : World} {p q : Pk} {a b : Ad} (h : SmS w p a q b W) (hb : Below W.heap.size W W') : SmS w p a q b W' :=
  ⟨below_then h.low hb, (hb.block _ (lt_of_block h.p)).trans h.p, (hb.block _ (lt_of_block h.q)).trans h.q⟩
/-- No list is longer than may be. -/
def Short (p : Pk) : Prop := p.codes.length ≤ 70000 ∧ p.filters.length ≤ 70000 ∧ p.props.length ≤ 70000 ∧ p.wProps.length ≤ 70000
set_option maxHeartbeats 4000000 in
set_option maxRecDepth 100000 in
theorem hd_same (p q : Pk) (a b : Ad) (w : World) (hp : PkAt w p a) (hq : PkAt w q b) (sp : Short p) (sq : Short q) :
    Calls Tryz.prog 94 #[pkV p a, pkV q b] w fun e w' => e = .returned (.bool (decide (p = q))) ∧ Below w.heap.size w w' := by
  have S0 : SmS w p a q b ((w.alloc (.cells (pkC p a) 28)).alloc (.cells (pkC q b) 28)) := ⟨below_then (below_box _) (below_box _), heap_alloc2_old _ _ _, heap_alloc2_new _ _ _⟩
  have S0 : SmS w p a q b (((w.alloc (.cells (pkC p a) 28)).alloc (.cells (pkC q b) 28))).drew := ⟨S0.low.drew, S0.p, S0.q⟩
  have CE : ∀ (x : Pk) (c : Ad), (∀ (B j : Nat) (u : Value) (W : World), W.heap[B]? = some (.cells (pkC x c) 28 (0, 0)) → (pkC x c)[j]? = some u → W.cell? ⟨B, j, none⟩ = some u) := fun x c B j u W h hu => (cell_of_row _ _ j _ _ _ h).trans hu
  have N1 : ∀ (x : Pk) (c : Ad) W, SmS w p a q b W → Calls Tryz.prog 145 #[.agg (pkC x c)] W fun e w' => e = .returned (.agg (numsA x)) ∧ SmS w p a q b w' := fun x c W h => (numbers_any x c W).mono fun e w' ⟨he, hb⟩ => ⟨he, h.call hb⟩
  have N2 : ∀ (x : Pk) (c : Ad) W, SmS w p a q b W → Calls Tryz.prog 146 #[.agg (pkC x c)] W fun e w' => e = .returned (.agg (marksA x)) ∧ SmS w p a q b w' := fun x c W h => (marks_any x c W).mono fun e w' ⟨he, hb⟩ => ⟨he, h.call hb⟩
  have N3 : ∀ (x : Pk) (c : Ad) W, SmS w p a q b W → Calls Tryz.prog 147 #[.agg (pkC x c)] W fun e w' => e = .returned (.agg (textsA x)) ∧ SmS w p a q b w' := fun x c W h => (texts_any x c W).mono fun e w' ⟨he, hb⟩ => ⟨he, h.call hb⟩
  have F3 : ∀ W, SmS w p a q b W → Calls Tryz.prog 148 #[(.slice a.cs p.codes.length a.cc), (.slice b.cs q.codes.length b.cc), .func (.func 149) #[] #[]] W fun e w' => e = .returned (.bool (decide (p.codes = q.codes))) ∧ SmS w p a q b w' := fun W h => (efunc_int _ _ _ _ _ _ p.codes q.codes W (hp.cs.below (h.low)) (hq.cs.below (h.low)) rfl rfl (by have := sp; unfold Short at this; omega) (by have := sq; unfold Short at this; omega)).mono fun e w' ⟨he, hb⟩ => ⟨he, h.call hb⟩
  have F4 : ∀ W, SmS w p a q b W → Calls Tryz.prog 150 #[(.slice a.fs p.filters.length a.fc), (.slice b.fs q.filters.length b.fc), .func (.func 151) #[] #[]] W fun e w' => e = .returned (.bool (decide (p.filters = q.filters))) ∧ SmS w p a q b w' := fun W h => (efunc_fi _ _ _ _ _ _ p.filters q.filters W (hp.fs.below (h.low)) (hq.fs.below (h.low)) rfl rfl (by have := sp; unfold Short at this; omega) (by have := sq; unfold Short at this; omega)).mono fun e w' ⟨he, hb⟩ => ⟨he, h.call hb⟩
  have F5 : ∀ W, SmS w p a q b W → Calls Tryz.prog 152 #[(.slice a.ps p.props.length a.pc), (.slice b.ps q.props.length b.pc), .func (.func 153) #[] #[]] W fun e w' => e = .returned (.bool (decide (p.props = q.props))) ∧ SmS w p a q b w' := fun W h => (efunc_prop _ _ _ _ _ _ p.props q.props W (hp.ps.below (h.low)) (hq.ps.below (h.low)) rfl rfl (by have := sp; unfold Short at this; omega) (by have := sq; unfold Short at this; omega)).mono fun e w' ⟨he, hb⟩ => ⟨he, h.call hb⟩
  have F6 : ∀ W, SmS w p a q b W → Calls Tryz.prog 152 #[(.slice a.w p.wProps.length a.wc), (.slice b.w q.wProps.length b.wc), .func (.func 153) #[] #[]] W fun e w' => e = .returned (.bool (decide (p.wProps = q.wProps))) ∧ SmS w p a q b w' := fun W h => (efunc_prop _ _ _ _ _ _ p.wProps q.wProps W (hp.w.below (h.low)) (hq.w.below (h.low)) rfl rfl (by have := sp; unfold Short at this; omega) (by have := sq; unfold Short at this; omega)).mono fun e w' ⟨he, hb⟩ => ⟨he, h.call hb⟩
  have C1 := pkC_size p a
  have C2 := pkC_size q b
  have cp22 : ∀ W, SmS w p a q b W → W.cell? ⟨w.heap.size, 22, none⟩ = some (.slice a.cs p.codes.length a.cc) := fun W h => CE p a _ 22 _ W h.p rfl
  have cp23 : ∀ W, SmS w p a q b W → W.cell? ⟨w.heap.size, 23, none⟩ = some (.slice a.fs p.filters.length a.fc) := fun W h => CE p a _ 23 _ W h.p rfl
  have cp24 : ∀ W, SmS w p a q b W → W.cell? ⟨w.heap.size, 24, none⟩ = some (.slice a.ps p.props.length a.pc) := fun W h => CE p a _ 24 _ W h.p rfl
  have cp19 : ∀ W, SmS w p a q b W → W.cell? ⟨w.heap.size, 19, none⟩ = some (.slice a.w p.wProps.length a.wc) := fun W h => CE p a _ 19 _ W h.p rfl
  have cq22 : ∀ W, SmS w p a q b W → W.cell? ⟨w.heap.size + 1, 22, none⟩ = some (.slice b.cs q.codes.length b.cc) := fun W h => CE q b _ 22 _ W h.q rfl
  have cq23 : ∀ W, SmS w p a q b W → W.cell? ⟨w.heap.size + 1, 23, none⟩ = some (.slice b.fs q.filters.length b.fc) := fun W h => CE q b _ 23 _ W h.q rfl
  have cq24 : ∀ W, SmS w p a q b W → W.cell? ⟨w.heap.size + 1, 24, none⟩ = some (.slice b.ps q.props.length b.pc) := fun W h => CE q b _ 24 _ W h.q rfl
  have cq19 : ∀ W, SmS w p a q b W → W.cell? ⟨w.heap.size + 1, 19, none⟩ = some (.slice b.w q.wProps.length b.wc) := fun W h => CE q b _ 19 _ W h.q rfl
  have K1 := N1 p a
  have K2 := N1 q b
  have K3 := N2 p a
  have K4 := N2 q b
  have K5 := N3 p a
  have K6 := N3 q b
  have P1 : ∀ W, SmS w p a q b W → W.heap[w.heap.size]? = some (.cells (pkC p a) 28 (0, 0)) := fun W h => h.p
  have P2 : ∀ W, SmS w p a q b W → W.heap[w.heap.size + 1]? = some (.cells (pkC q b) 28 (0, 0)) := fun W h => h.q
  have LO : ∀ W, SmS w p a q b W → Below w.heap.size w W := fun W h => h.low
  have I94 := pk_eq_iff p q
  unfold pkV
  clear CE N1 N2 N3 hp hq sp sq
  generalize pkC p a = C at *
  generalize pkC q b = E at *
  generalize hSS : SmS w p a q b = S at *
  have HS := Lib.hid hSS
  clear hSS
  have hS0 := Lib.hid S0
  have hC1 := Lib.hid C1
  have hC2 := Lib.hid C2
  have hP1 := Lib.hid P1
  have hP2 := Lib.hid P2
  have hLO := Lib.hid LO
  have hK1 := Lib.hid K1
  have hK2 := Lib.hid K2
  have hK3 := Lib.hid K3
  have hK4 := Lib.hid K4
  have hK5 := Lib.hid K5
  have hK6 := Lib.hid K6
  have hF3 := Lib.hid F3
  have hF4 := Lib.hid F4
  have hF5 := Lib.hid F5
  have hF6 := Lib.hid F6
  have hcp22 := Lib.hid cp22
  have hcp23 := Lib.hid cp23
  have hcp24 := Lib.hid cp24
  have hcp19 := Lib.hid cp19
  have hcq22 := Lib.hid cq22
  have hcq23 := Lib.hid cq23
  have hcq24 := Lib.hid cq24
  have hcq19 := Lib.hid cq19
  have HI := Lib.hid I94
  clear I94 S0 C1 C2 P1 P2 LO K1 K2 K3 K4 K5 K6 F3 F4 F5 F6 cp22 cp23 cp24 cp19 cq22 cq23 cq24 cq19
  by_cases e0 : p.nums = q.nums
  · by_cases e1 : p.marks = q.marks
    · by_cases e2 : p.texts = q.texts
      · by_cases e3 : p.codes = q.codes
        · by_cases e4 : p.filters = q.filters
          · by_cases e5 : p.props = q.props
            · by_cases e6 : p.wProps = q.wProps
              · have hd : decide (p = q) = true := by
                  exact decide_eq_true (HI.out.2 ⟨e0, e1, e2, e3, e4, e5, e6⟩)
                rw [hd]
                clear hd
                have E0 := Lib.hid e0
                have E1 := Lib.hid e1
                have E2 := Lib.hid e2
                have E3 := Lib.hid e3
                have E4 := Lib.hid e4
                have E5 := Lib.hid e5
                have E6 := Lib.hid e6
                clear e0 e1 e2 e3 e4 e5 e6
                go_enter Tryz.func94, Tryz.ntmps94
                go_wp2_with fail
                refine same_way7 (S := S) (p := p) (q := q) (a := a) (b := b) (C := C) (E := E) (B := w.heap.size) hS0.out hC1.out hC2.out hP1.out hP2.out hK1.out hK2.out (by exact decide_eq_true E0.out) hK3.out hK4.out (by exact decide_eq_true E1.out) hK5.out hK6.out (by exact decide_eq_true E2.out) hcp22.out hcq22.out (fun W hW => by have := hF3.out W hW; rw [decide_eq_true E3.out] at this; exact this) hcp23.out hcq23.out (fun W hW => by have := hF4.out W hW; rw [decide_eq_true E4.out] at this; exact this) hcp24.out hcq24.out (fun W hW => by have := hF5.out W hW; rw [decide_eq_true E5.out] at this; exact this) hcp19.out hcq19.out (fun W hW => by have := hF6.out W hW; rw [decide_eq_true E6.out] at this; exact this) ?_
                intro W hW
                have BW := Lib.hid (hLO.out W hW)
                clear hW
                go_wp2_with fail
                go_ret
                exact ⟨rfl, BW.out⟩
              · have hd : decide (p = q) = false := by
                  exact decide_eq_false fun e => e6 (HI.out.1 e).2.2.2.2.2.2
                rw [hd]
                clear hd
                have E0 := Lib.hid e0
                have E1 := Lib.hid e1
                have E2 := Lib.hid e2
                have E3 := Lib.hid e3
                have E4 := Lib.hid e4
                have E5 := Lib.hid e5
                have E6 := Lib.hid e6
                clear e0 e1 e2 e3 e4 e5 e6
                go_enter Tryz.func94, Tryz.ntmps94
                go_wp2_with fail
                refine same_way6 (S := S) (p := p) (q := q) (a := a) (b := b) (C := C) (E := E) (B := w.heap.size) hS0.out hC1.out hC2.out hP1.out hP2.out hK1.out hK2.out (by exact decide_eq_true E0.out) hK3.out hK4.out (by exact decide_eq_true E1.out) hK5.out hK6.out (by exact decide_eq_true E2.out) hcp22.out hcq22.out (fun W hW => by have := hF3.out W hW; rw [decide_eq_true E3.out] at this; exact this) hcp23.out hcq23.out (fun W hW => by have := hF4.out W hW; rw [decide_eq_true E4.out] at this; exact this) hcp24.out hcq24.out (fun W hW => by have := hF5.out W hW; rw [decide_eq_true E5.out] at this; exact this) hcp19.out hcq19.out (fun W hW => by have := hF6.out W hW; rw [decide_eq_false E6.out] at this; exact this) ?_
                intro W hW
                have BW := Lib.hid (hLO.out W hW)
                clear hW
                go_wp2_with fail
                go_ret
                exact ⟨rfl, BW.out⟩
            · have hd : decide (p = q) = false := by
                exact decide_eq_false fun e => e5 (HI.out.1 e).2.2.2.2.2.1
              rw [hd]
              clear hd
              have E0 := Lib.hid e0
              have E1 := Lib.hid e1
              have E2 := Lib.hid e2
              have E3 := Lib.hid e3
              have E4 := Lib.hid e4
              have E5 := Lib.hid e5
              clear e0 e1 e2 e3 e4 e5
              go_enter Tryz.func94, Tryz.ntmps94
              go_wp2_with fail
              refine same_way5 (S := S) (p := p) (q := q) (a := a) (b := b) (C := C) (E := E) (B := w.heap.size) hS0.out hC1.out hC2.out hP1.out hP2.out hK1.out hK2.out (by exact decide_eq_true E0.out) hK3.out hK4.out (by exact decide_eq_true E1.out) hK5.out hK6.out (by exact decide_eq_true E2.out) hcp22.out hcq22.out (fun W hW => by have := hF3.out W hW; rw [decide_eq_true E3.out] at this; exact this) hcp23.out hcq23.out (fun W hW => by have := hF4.out W hW; rw [decide_eq_true E4.out] at this; exact this) hcp24.out hcq24.out (fun W hW => by have := hF5.out W hW; rw [decide_eq_false E5.out] at this; exact this) ?_
              intro W hW
              have BW := Lib.hid (hLO.out W hW)
              clear hW
              go_wp2_with fail
              go_ret
              exact ⟨rfl, BW.out⟩
          · have hd : decide (p = q) = false := by
              exact decide_eq_false fun e => e4 (HI.out.1 e).2.2.2.2.1
            rw [hd]
            clear hd
            have E0 := Lib.hid e0
            have E1 := Lib.hid e1
            have E2 := Lib.hid e2
            have E3 := Lib.hid e3
            have E4 := Lib.hid e4
            clear e0 e1 e2 e3 e4
            go_enter Tryz.func94, Tryz.ntmps94
            go_wp2_with fail
            refine same_way4 (S := S) (p := p) (q := q) (a := a) (b := b) (C := C) (E := E) (B := w.heap.size) hS0.out hC1.out hC2.out hP1.out hP2.out hK1.out hK2.out (by exact decide_eq_true E0.out) hK3.out hK4.out (by exact decide_eq_true E1.out) hK5.out hK6.out (by exact decide_eq_true E2.out) hcp22.out hcq22.out (fun W hW => by have := hF3.out W hW; rw [decide_eq_true E3.out] at this; exact this) hcp23.out hcq23.out (fun W hW => by have := hF4.out W hW; rw [decide_eq_false E4.out] at this; exact this) ?_
            intro W hW
            have BW := Lib.hid (hLO.out W hW)
            clear hW
            go_wp2_with fail
            go_ret
            exact ⟨rfl, BW.out⟩
        · have hd : decide (p = q) = false := by
            exact decide_eq_false fun e => e3 (HI.out.1 e).2.2.2.1
          rw [hd]
          clear hd
          have E0 := Lib.hid e0
          have E1 := Lib.hid e1
          have E2 := Lib.hid e2
          have E3 := Lib.hid e3
          clear e0 e1 e2 e3
          go_enter Tryz.func94, Tryz.ntmps94
          go_wp2_with fail
          refine same_way3 (S := S) (p := p) (q := q) (a := a) (b := b) (C := C) (E := E) (B := w.heap.size) hS0.out hC1.out hC2.out hP1.out hP2.out hK1.out hK2.out (by exact decide_eq_true E0.out) hK3.out hK4.out (by exact decide_eq_true E1.out) hK5.out hK6.out (by exact decide_eq_true E2.out) hcp22.out hcq22.out (fun W hW => by have := hF3.out W hW; rw [decide_eq_false E3.out] at this; exact this) ?_
          intro W hW
          have BW := Lib.hid (hLO.out W hW)
          clear hW
          go_wp2_with fail
          go_ret
          exact ⟨rfl, BW.out⟩
      · have hd : decide (p = q) = false := by
          exact decide_eq_false fun e => e2 (HI.out.1 e).2.2.1
        rw [hd]
        clear hd
        have E0 := Lib.hid e0
        have E1 := Lib.hid e1
        have E2 := Lib.hid e2
        clear e0 e1 e2
        go_enter Tryz.func94, Tryz.ntmps94
        go_wp2_with fail
        refine same_way2 (S := S) (p := p) (q := q) (C := C) (E := E) (B := w.heap.size) hS0.out hC1.out hC2.out hP1.out hP2.out hK1.out hK2.out (by exact decide_eq_true E0.out) hK3.out hK4.out (by exact decide_eq_true E1.out) hK5.out hK6.out (by exact decide_eq_false E2.out) ?_
        intro W hW
        have BW := Lib.hid (hLO.out W hW)
        clear hW
        go_wp2_with fail
        go_ret
        exact ⟨rfl, BW.out⟩
    · have hd : decide (p = q) = false := by
        exact decide_eq_false fun e => e1 (HI.out.1 e).2.1
      rw [hd]
      clear hd
      have E0 := Lib.hid e0
      have E1 := Lib.hid e1
      clear e0 e1
      go_enter Tryz.func94, Tryz.ntmps94
      go_wp2_with fail
      refine same_way1 (S := S) (p := p) (q := q) (C := C) (E := E) (B := w.heap.size) hS0.out hC1.out hC2.out hP1.out hP2.out hK1.out hK2.out (by exact decide_eq_true E0.out) hK3.out hK4.out (by exact decide_eq_false E1.out) ?_
      intro W hW
      have BW := Lib.hid (hLO.out W hW)
      clear hW
      go_wp2_with fail
      go_ret
      exact ⟨rfl, BW.out⟩
  · have hd : decide (p = q) = false := by
      exact decide_eq_false fun e => e0 (HI.out.1 e).1
    rw [hd]
    clear hd
    have E0 := Lib.hid e0
    clear e0
    go_enter Tryz.func94, Tryz.ntmps94
    go_wp2_with fail
    refine same_way0 (S := S) (p := p) (q := q) (C := C) (E := E) (B := w.heap.size) hS0.out hC1.out hC2.out hP1.out hP2.out hK1.out hK2.out (by exact decide_eq_false E0.out) ?_
    intro W hW
    have BW := Lib.hid (hLO.out W hW)
    clear hW
    go_wp2_with fail
    go_ret
    exact ⟨rfl, BW.out⟩
end Go.Proofs.YtaahhbjnflimnaaGreat
namespace Go.Proofs.YtaahhbjnflimnaaGreat
open Go.RowKit

section
variable {a : Act} {w : World} {d : Option Tmp} {p : String} {af : Array Edge} {gd : Option (Nat × Bool)} {x y z : Tmp} {r : TypeId}
theorem pv_li {g : Nat} {z : Int} (hx : a.eval (.tmp x) = .pointer (some ⟨g, 0, none⟩)) (hc : w.cell? ⟨g, 0, none⟩ = some (.int .i64 z)) :
    (execOp a.eval { dst := d, op := .load 3 (.tmp x), type := 3, pos := p, after := af, guard := gd }).run Tryz.prog w = .ok (.value (.int .i64 z)) w := by
  generalize a.eval = f at *
  go_simp
theorem pv_row {g : Nat} {C : Array Value} (hx : a.eval (.tmp x) = .pointer (some ⟨g, 0, none⟩)) (hs : C.size = 25) (hg : w.heap[g]? = some (.cells C 28 (0, 0))) :
    (execOp a.eval { dst := d, op := .load 28 (.tmp x), type := 28, pos := p, after := af, guard := gd }).run Tryz.prog w = .ok (.value (.agg C)) w := by
  unfold execOp
  simp only [hx, Instr.loadAt, Instr.sureAddr, Sem.run_bind, Sem.run_pure, Result.andThen_ok, run_loadVar_row w g 28 28 C (0, 0) _ hg Tryz.underlying28 rfl (by rw [hs]; exact info_pk)]
theorem re_publish_idFits {ts : Array TypeId} {u : Value} (hx : a.eval (.tmp x) = u) :
    (execOp a.eval { dst := d, op := .call { callee := .value (.func 93), args := #[.tmp x], argTypes := ts }, type := r, pos := p, after := af, guard := gd }).run Tryz.prog w = .ok (.enter 93 #[u]) w := by
  have hf : a.eval (.func 93) = .func (.func 93) #[] #[] := rfl
  generalize a.eval = f at *
  go_simp
theorem re_publish_used {ts : Array TypeId} {u v : Value} (hx : a.eval (.tmp x) = u) (hy : a.eval (.tmp y) = v) :
    (execOp a.eval { dst := d, op := .call { callee := .value (.func 95), args := #[.tmp x, .tmp y], argTypes := ts }, type := r, pos := p, after := af, guard := gd }).run Tryz.prog w = .ok (.enter 95 #[u, v]) w := by
  have hf : a.eval (.func 95) = .func (.func 95) #[] #[] := rfl
  generalize a.eval = f at *
  go_simp
theorem re_head_Same {ts : Array TypeId} {u v : Value} (hx : a.eval (.tmp x) = u) (hy : a.eval (.tmp y) = v) :
    (execOp a.eval { dst := d, op := .call { callee := .value (.func 94), args := #[.tmp x, .tmp y], argTypes := ts }, type := r, pos := p, after := af, guard := gd }).run Tryz.prog w = .ok (.enter 94 #[u, v]) w := by
  have hf : a.eval (.func 94) = .func (.func 94) #[] #[] := rfl
  generalize a.eval = f at *
  go_simp
theorem re_publish_require_inti642 {ts : Array TypeId} {u : Value} (hx : a.eval (.tmp x) = u) :
    (execOp a.eval { dst := d, op := .call { callee := .value (.func 89), args := #[.tmp x, .const (.int .i64 2)], argTypes := ts }, type := r, pos := p, after := af, guard := gd }).run Tryz.prog w = .ok (.enter 89 #[u, .int .i64 2]) w := by
  have hf : a.eval (.func 89) = .func (.func 89) #[] #[] := rfl
  have hc1 : a.eval (.const (.int .i64 2)) = .int .i64 2 := rfl
  generalize a.eval = f at *
  go_simp
end
set_option maxRecDepth 100000 in
set_option maxHeartbeats 4000000 in
theorem pv_true {Q : Exit → Act → World → Prop} {S : World → Prop} {W : World} {b1 b2 : Nat} {v z : Int} {C D : Array Value} {b : Bool} {x2 x3 x4 x5 x6 x7 x8 x9 x10 x11 x12 : Value}
    (hS : S W.drew) (hC : C.size = 25) (KC : ∀ w, S w → w.heap[b2]? = some (.cells C 28 (0, 0))) (KV : ∀ w, S w → w.cell? ⟨b1, 0, none⟩ = some (.int .i64 v))
    (H0 : ∀ w, S w → Calls Tryz.prog 93 #[(.agg C)] w fun e w' => e = .returned (.bool true) ∧ S w')
    (H1 : ∀ w, S w → Calls Tryz.prog 95 #[(.int .i64 v), (.agg C)] w fun e w' => e = .returned (.agg D) ∧ S w')
    (H2 : ∀ w, S w → Calls Tryz.prog 94 #[(.agg C), (.agg D)] w fun e w' => e = .returned (.bool b) ∧ S w')
    (H3 : ∀ w, S w → Calls Tryz.prog 89 #[(.bool b), .int .i64 2] w fun e w' => e = .returned (.int .i64 z) ∧ S w')
    (fin : ∀ w, S w → Q .normal ⟨#[(.pointer (some ⟨b2, 0, none⟩)), (.pointer (some ⟨b1, 0, none⟩)), (.int .i64 z), (.agg C), (.bool true), (.bool true), (.agg C), (.int .i64 v), (.agg C), (.agg D), (.bool b), (.bool b), (.int .i64 z)], []⟩ w) :
    (Code.region 1 (RegEnv.opsAt 1 Tryz.f92.body) true).wp Tryz.prog Q ⟨#[(.pointer (some ⟨b2, 0, none⟩)), (.pointer (some ⟨b1, 0, none⟩)), x2, x3, x4, x5, x6, x7, x8, x9, x10, x11, x12], []⟩ W := by
  refine RegEnv.wp_in (ds := [3, 4, 5, 6, 7, 8, 9, 10, 11, 12, 2]) (A := [(.pointer (some ⟨b2, 0, none⟩)), (.pointer (some ⟨b1, 0, none⟩)), x2, x3, x4, x5, x6, x7, x8, x9, x10, x11, x12]) (B := [(.pointer (some ⟨b2, 0, none⟩)), (.pointer (some ⟨b1, 0, none⟩)), (.int .i64 z), (.agg C), (.bool true), (.bool true), (.agg C), (.int .i64 v), (.agg C), (.agg D), (.bool b), (.bool b), (.int .i64 z)]) (D := []) (by kernel_rfl) (by kernel_rfl) (by kernel_rfl) ?_ hS ?_ (fun w hS => fin w hS)
  · exact (by repeat (first | exact trivial | refine ⟨.inr rfl, ?_⟩ | refine ⟨.inl rfl, ?_⟩))
  refine RegEnv.All.step rfl (RegEnv.Does.pure rfl rfl rfl (fun w hS => pv_row rfl hC (KC w hS))) ?_
  refine RegEnv.All.step rfl (RegEnv.Does.call rfl rfl rfl (fun w => re_publish_idFits rfl) H0) ?_
  refine RegEnv.All.step rfl (RegEnv.Does.pure rfl rfl rfl (fun w hS => rfl)) ?_
  refine RegEnv.All.step rfl (RegEnv.Does.pure rfl rfl rfl (fun w hS => pv_row rfl hC (KC w hS))) ?_
  refine RegEnv.All.step rfl (RegEnv.Does.pure rfl rfl rfl (fun w hS => pv_li rfl (KV w hS))) ?_
  refine RegEnv.All.step rfl (RegEnv.Does.pure rfl rfl rfl (fun w hS => pv_row rfl hC (KC w hS))) ?_
  refine RegEnv.All.step rfl (RegEnv.Does.call rfl rfl rfl (fun w => re_publish_used rfl rfl) H1) ?_
  refine RegEnv.All.step rfl (RegEnv.Does.call rfl rfl rfl (fun w => re_head_Same rfl rfl) H2) ?_
  refine RegEnv.All.step rfl (RegEnv.Does.pure rfl rfl rfl (fun w hS => rfl)) ?_
  refine RegEnv.All.step rfl (RegEnv.Does.call rfl rfl rfl (fun w => re_publish_require_inti642 rfl) H3) ?_
  refine RegEnv.All.step rfl (RegEnv.Does.pure rfl rfl rfl (fun w hS => rfl)) ?_
  exact RegEnv.All.fin rfl
set_option maxRecDepth 100000 in
set_option maxHeartbeats 4000000 in
theorem pv_false {Q : Exit → Act → World → Prop} {S : World → Prop} {W : World} {b1 b2 : Nat} {z : Int} {C : Array Value} {x2 x3 x4 x5 x6 x7 x8 x9 x10 x11 x12 : Value}
    (hS : S W.drew) (hC : C.size = 25) (KC : ∀ w, S w → w.heap[b2]? = some (.cells C 28 (0, 0)))
    (H0 : ∀ w, S w → Calls Tryz.prog 93 #[(.agg C)] w fun e w' => e = .returned (.bool false) ∧ S w')
    (H1 : ∀ w, S w → Calls Tryz.prog 89 #[(.bool false), .int .i64 2] w fun e w' => e = .returned (.int .i64 z) ∧ S w')
    (fin : ∀ w, S w → Q .normal ⟨#[(.pointer (some ⟨b2, 0, none⟩)), (.pointer (some ⟨b1, 0, none⟩)), (.int .i64 z), (.agg C), (.bool false), (.bool false), undef, undef, undef, undef, undef, (.bool false), (.int .i64 z)], []⟩ w) :
    (Code.region 1 (RegEnv.opsAt 1 Tryz.f92.body) true).wp Tryz.prog Q ⟨#[(.pointer (some ⟨b2, 0, none⟩)), (.pointer (some ⟨b1, 0, none⟩)), x2, x3, x4, x5, x6, x7, x8, x9, x10, x11, x12], []⟩ W := by
  refine RegEnv.wp_in (ds := [3, 4, 5, 6, 7, 8, 9, 10, 11, 12, 2]) (A := [(.pointer (some ⟨b2, 0, none⟩)), (.pointer (some ⟨b1, 0, none⟩)), x2, x3, x4, x5, x6, x7, x8, x9, x10, x11, x12]) (B := [(.pointer (some ⟨b2, 0, none⟩)), (.pointer (some ⟨b1, 0, none⟩)), (.int .i64 z), (.agg C), (.bool false), (.bool false), undef, undef, undef, undef, undef, (.bool false), (.int .i64 z)]) (D := []) (by kernel_rfl) (by kernel_rfl) (by kernel_rfl) ?_ hS ?_ (fun w hS => fin w hS)
  · exact (by repeat (first | exact trivial | refine ⟨.inr rfl, ?_⟩ | refine ⟨.inl rfl, ?_⟩))
  refine RegEnv.All.step rfl (RegEnv.Does.pure rfl rfl rfl (fun w hS => pv_row rfl hC (KC w hS))) ?_
  refine RegEnv.All.step rfl (RegEnv.Does.call rfl rfl rfl (fun w => re_publish_idFits rfl) H0) ?_
  refine RegEnv.All.step rfl (RegEnv.Does.pure rfl rfl rfl (fun w hS => rfl)) ?_
  refine RegEnv.All.step rfl (RegEnv.Does.skip rfl rfl rfl) ?_
  refine RegEnv.All.step rfl (RegEnv.Does.skip rfl rfl rfl) ?_
  refine RegEnv.All.step rfl (RegEnv.Does.skip rfl rfl rfl) ?_
  refine RegEnv.All.step rfl (RegEnv.Does.skip rfl rfl rfl) ?_
  refine RegEnv.All.step rfl (RegEnv.Does.skip rfl rfl rfl) ?_
  refine RegEnv.All.step rfl (RegEnv.Does.pure rfl rfl rfl (fun w hS => rfl)) ?_
  refine RegEnv.All.step rfl (RegEnv.Does.call rfl rfl rfl (fun w => re_publish_require_inti642 rfl) H1) ?_
  refine RegEnv.All.step rfl (RegEnv.Does.pure rfl rfl rfl (fun w hS => rfl)) ?_
  exact RegEnv.All.fin rfl
end Go.Proofs.YtaahhbjnflimnaaGreat
namespace Go.Proofs.YtaahhbjnflimnaaGreat
open Go.RowKit

section
variable {a : Act} {w : World} {d : Option Tmp} {p : String} {af : Array Edge} {gd : Option (Nat × Bool)} {x y z : Tmp} {r : TypeId}
theorem pb_add {u v z : ByteArray} (hx : a.eval (.tmp x) = .string u) (hy : a.eval (.tmp y) = .string v) (hz : u ++ v = z) (hn : z.size ≤ 9223372036854775807) :
    (execOp a.eval { dst := d, op := .binOp .add 9 (.tmp x) (.tmp y) 9, type := r, pos := p, after := af, guard := gd }).run Tryz.prog w = .ok (.value (.string z)) w := by
  have hn : ¬ 9223372036854775807 < u.size + v.size := by rw [← hz, ByteArray.size_append] at hn; omega
  generalize a.eval = f at *
  rw [← hz]
  go_simp
theorem pb_row {g : Nat} {C : Array Value} (hx : a.eval (.tmp x) = .pointer (some ⟨g, 0, none⟩)) (hs : C.size = 25) (hg : w.heap[g]? = some (.cells C 28 (0, 0))) :
    (execOp a.eval { dst := d, op := .load 28 (.tmp x), type := 28, pos := p, after := af, guard := gd }).run Tryz.prog w = .ok (.value (.agg C)) w := by
  unfold execOp
  simp only [hx, Instr.loadAt, Instr.sureAddr, Sem.run_bind, Sem.run_pure, Result.andThen_ok, run_loadVar_row w g 28 28 C (0, 0) _ hg Tryz.underlying28 rfl (by rw [hs]; exact info_pk)]
theorem pb_a6 {g : Nat} (hx : a.eval (.tmp x) = .pointer (some ⟨g, 0, none⟩)) :
    (execOp a.eval { dst := d, op := .fieldAddr 28 (.tmp x) 6, type := r, pos := p, after := af, guard := gd }).run Tryz.prog w = .ok (.value (.pointer (some ⟨g, 6, none⟩))) w := by
  generalize a.eval = f at *
  go_simp
theorem pb_ls {g j : Nat} {u : ByteArray} (hx : a.eval (.tmp x) = .pointer (some ⟨g, j, none⟩)) (hc : w.cell? ⟨g, j, none⟩ = some (.string u)) :
    (execOp a.eval { dst := d, op := .load 9 (.tmp x), type := 9, pos := p, after := af, guard := gd }).run Tryz.prog w = .ok (.value (.string u)) w := by
  generalize a.eval = f at *
  go_simp
theorem pb_re_publish_id {ts : Array TypeId} {u : Value} (hx : a.eval (.tmp x) = u) :
    (execOp a.eval { dst := d, op := .call { callee := .value (.func 74), args := #[.tmp x], argTypes := ts }, type := r, pos := p, after := af, guard := gd }).run Tryz.prog w = .ok (.enter 74 #[u]) w := by
  have hf : a.eval (.func 74) = .func (.func 74) #[] #[] := rfl
  generalize a.eval = f at *
  go_simp
theorem pb_re_publish_props {ts : Array TypeId} {u v : Value} (hx : a.eval (.tmp x) = u) (hy : a.eval (.tmp y) = v) :
    (execOp a.eval { dst := d, op := .call { callee := .value (.func 75), args := #[.tmp x, .tmp y], argTypes := ts }, type := r, pos := p, after := af, guard := gd }).run Tryz.prog w = .ok (.enter 75 #[u, v]) w := by
  have hf : a.eval (.func 75) = .func (.func 75) #[] #[] := rfl
  generalize a.eval = f at *
  go_simp
end
set_option maxRecDepth 100000 in
set_option maxHeartbeats 4000000 in
theorem pb_body {Q : Exit → Act → World → Prop} {S : World → Prop} {W : World} {b : Nat} {v : Int} {C : Array Value} {N I T PA Z1 Z2 Z3 : ByteArray} {x1 x2 x4 x5 x6 x8 x9 x10 x11 x12 x13 x14 x15 x16 x17 x18 x19 x20 x21 x22 x23 x24 x25 x26 x27 x28 x29 x30 x31 : Value}
    (hS : S W.drew) (hC : C.size = 25) (KC : ∀ w, S w → w.heap[b]? = some (.cells C 28 (0, 0))) (K6 : ∀ w, S w → w.cell? ⟨b, 6, none⟩ = some (.string PA))
    (H0 : ∀ w, S w → Calls Tryz.prog 74 #[(.agg C)] w fun e w' => e = .returned (.string I) ∧ S w')
    (H1 : ∀ w, S w → Calls Tryz.prog 75 #[(.int .i64 v), (.agg C)] w fun e w' => e = .returned (.string T) ∧ S w')
    (eZ1 : N ++ I = Z1) (sZ1 : Z1.size ≤ 9223372036854775807) (eZ2 : Z1 ++ T = Z2) (sZ2 : Z2.size ≤ 9223372036854775807) (eZ3 : Z2 ++ PA = Z3) (sZ3 : Z3.size ≤ 9223372036854775807)
    (fin : ∀ w, S w → Q .normal ⟨#[(.int .i64 v), x1, x2, (.pointer (some ⟨b, 0, none⟩)), (.string Z3), (.int .i64 0), x6, (.string N), x8, x9, x10, x11, x12, x13, x14, x15, x16, x17, x18, x19, x20, (.string N), (.agg C), (.string I), (.string Z1), (.int .i64 v), (.agg C), (.string T), (.string Z2), (.pointer (some ⟨b, 6, none⟩)), (.string PA), (.string Z3)], []⟩ w) :
    (Code.region 5 (RegEnv.opsAt 5 Tryz.f21.body) true).wp Tryz.prog Q ⟨#[(.int .i64 v), x1, x2, (.pointer (some ⟨b, 0, none⟩)), x4, x5, x6, (.string N), x8, x9, x10, x11, x12, x13, x14, x15, x16, x17, x18, x19, x20, x21, x22, x23, x24, x25, x26, x27, x28, x29, x30, x31], []⟩ W := by
  refine RegEnv.wp_in (ds := [21, 22, 23, 24, 25, 26, 27, 28, 29, 30, 31, 4, 5]) (A := [(.int .i64 v), x1, x2, (.pointer (some ⟨b, 0, none⟩)), x4, x5, x6, (.string N), x8, x9, x10, x11, x12, x13, x14, x15, x16, x17, x18, x19, x20, x21, x22, x23, x24, x25, x26, x27, x28, x29, x30, x31]) (B := [(.int .i64 v), x1, x2, (.pointer (some ⟨b, 0, none⟩)), (.string Z3), (.int .i64 0), x6, (.string N), x8, x9, x10, x11, x12, x13, x14, x15, x16, x17, x18, x19, x20, (.string N), (.agg C), (.string I), (.string Z1), (.int .i64 v), (.agg C), (.string T), (.string Z2), (.pointer (some ⟨b, 6, none⟩)), (.string PA), (.string Z3)]) (D := []) (by kernel_rfl) (by kernel_rfl) (by kernel_rfl) ?_ hS ?_ (fun w hS => fin w hS)
  · exact (by repeat (first | exact trivial | refine ⟨.inr rfl, ?_⟩ | refine ⟨.inl rfl, ?_⟩))
  refine RegEnv.All.step rfl (RegEnv.Does.pure rfl rfl rfl (fun w hS => rfl)) ?_
  refine RegEnv.All.step rfl (RegEnv.Does.pure rfl rfl rfl (fun w hS => pb_row rfl hC (KC w hS))) ?_
  refine RegEnv.All.step rfl (RegEnv.Does.call rfl rfl rfl (fun w => pb_re_publish_id rfl) H0) ?_
  refine RegEnv.All.step rfl (RegEnv.Does.pure rfl rfl rfl (fun w hS => pb_add rfl rfl eZ1 sZ1)) ?_
  refine RegEnv.All.step rfl (RegEnv.Does.pure rfl rfl rfl (fun w hS => rfl)) ?_
  refine RegEnv.All.step rfl (RegEnv.Does.pure rfl rfl rfl (fun w hS => pb_row rfl hC (KC w hS))) ?_
  refine RegEnv.All.step rfl (RegEnv.Does.call rfl rfl rfl (fun w => pb_re_publish_props rfl rfl) H1) ?_
  refine RegEnv.All.step rfl (RegEnv.Does.pure rfl rfl rfl (fun w hS => pb_add rfl rfl eZ2 sZ2)) ?_
  refine RegEnv.All.step rfl (RegEnv.Does.pure rfl rfl rfl (fun w hS => pb_a6 rfl)) ?_
  refine RegEnv.All.step rfl (RegEnv.Does.pure rfl rfl rfl (fun w hS => pb_ls rfl (K6 w hS))) ?_
  refine RegEnv.All.step rfl (RegEnv.Does.pure rfl rfl rfl (fun w hS => pb_add rfl rfl eZ3 sZ3)) ?_
  refine RegEnv.All.step rfl (RegEnv.Does.pure rfl rfl rfl (fun w hS => rfl)) ?_
  refine RegEnv.All.step rfl (RegEnv.Does.pure rfl rfl rfl (fun w hS => rfl)) ?_
  exact RegEnv.All.fin rfl
end Go.Proofs.YtaahhbjnflimnaaGreat
namespace Go.Proofs.YtaahhbjnflimnaaGreat
open Go.RowKit

/-- How far each of the four lists has come (loaded, copied, stored), and where its copy lies. -/
structure OwG where
  s : Nat → Nat
  A : Nat → Option Addr
  c : Nat → Nat
def OwG.none : OwG := ⟨fun _ => 0, fun _ => .none, fun _ => 0⟩
def OwG.to (x : OwG) (k n : Nat) : OwG := { x with s := fun i => if i = k then n else x.s i }
def OwG.got (x : OwG) (k : Nat) (A : Option Addr) (c : Nat) : OwG := ⟨fun i => if i = k then 2 else x.s i, fun i => if i = k then A else x.A i, fun i => if i = k then c else x.c i⟩
def owSt : Nat → Option (Nat × Nat)
  | 1 => some (0, 1)
  | 2 => some (0, 2)
  | 14 => some (0, 3)
  | 4 => some (1, 1)
  | 5 => some (1, 2)
  | 16 => some (1, 3)
  | 7 => some (2, 1)
  | 8 => some (2, 2)
  | 18 => some (2, 3)
  | 11 => some (3, 1)
  | 12 => some (3, 2)
  | 21 => some (3, 3)
  | _ => .none
def owOf : Nat → Nat → Nat
  | 0, 1 => 1
  | 0, 2 => 2
  | 0, 3 => 14
  | 1, 1 => 4
  | 1, 2 => 5
  | 1, 3 => 16
  | 2, 1 => 7
  | 2, 2 => 8
  | 2, 3 => 18
  | 3, 1 => 11
  | 3, 2 => 12
  | 3, 3 => 21
  | _, _ => 0
theorem ow_of {i k n : Nat} (h : owSt i = some (k, n)) : owOf k n = i := by
  unfold owSt at h
  split at h <;> cases h <;> rfl
theorem ow_pos {i k n : Nat} (h : owSt i = some (k, n)) : 0 < n := by
  unfold owSt at h
  split at h <;> cases h <;> decide
section
variable {x : OwG} {i j k n : Nat}
theorem ow_made (hj : owSt j = some (k, n)) (_ : x.s k + 1 = n) : ∀ k' n', owSt j = some (k', n') → n' ≤ (x.to k n).s k' := fun k' n' h => by
  rw [hj] at h
  cases h
  simp [OwG.to]
theorem ow_mono (hs : x.s k + 1 = n) (h : ∀ k' n', owSt i = some (k', n') → n' ≤ x.s k') : ∀ k' n', owSt i = some (k', n') → n' ≤ (x.to k n).s k' := fun k' n' hi => by
  have := h k' n' hi
  unfold OwG.to
  by_cases e : k' = k
  · subst e; simp; omega
  · simp [e]; exact this
theorem ow_fresh (hj : owSt j = some (k, n)) (hs : x.s k + 1 = n) (hne : i ≠ j) (h : ∀ k' n', owSt i = some (k', n') → x.s k' < n') : ∀ k' n', owSt i = some (k', n') → (x.to k n).s k' < n' := fun k' n' hi => by
  have h1 := h k' n' hi
  unfold OwG.to
  by_cases e : k' = k
  · subst e
    have : n' ≠ n := fun e => by subst e; exact hne ((ow_of hi).symm.trans (ow_of hj))
    simp; omega
  · simp [e]; exact h1
end
/-- Where the lists lie, as far as they are stored. -/
def ownAd (a : Ad) (x : OwG) : Ad := { w := if 3 ≤ x.s 3 then x.A 3 else a.w, wc := if 3 ≤ x.s 3 then x.c 3 else a.wc, cs := if 3 ≤ x.s 0 then x.A 0 else a.cs, cc := if 3 ≤ x.s 0 then x.c 0 else a.cc, fs := if 3 ≤ x.s 1 then x.A 1 else a.fs, fc := if 3 ≤ x.s 1 then x.c 1 else a.fc, ps := if 3 ≤ x.s 2 then x.A 2 else a.ps, pc := if 3 ≤ x.s 2 then x.c 2 else a.pc }
theorem ow_cell0 {W : World} {b : Nat} {p : Pk} {a : Ad} {x : OwG} (h : W.heap[b]? = some (.cells (pkC p (ownAd a x)) 28 (0, 0))) (hs : x.s 0 < 3) : W.cell? ⟨b, 22, none⟩ = some (.slice a.cs p.codes.length a.cc) := by
  rw [cell_of_row _ _ 22 _ _ _ h]
  simp only [pkC, ownAd, if_neg (show ¬ 3 ≤ x.s 0 by omega)]
  rfl
theorem ow_cell1 {W : World} {b : Nat} {p : Pk} {a : Ad} {x : OwG} (h : W.heap[b]? = some (.cells (pkC p (ownAd a x)) 28 (0, 0))) (hs : x.s 1 < 3) : W.cell? ⟨b, 23, none⟩ = some (.slice a.fs p.filters.length a.fc) := by
  rw [cell_of_row _ _ 23 _ _ _ h]
  simp only [pkC, ownAd, if_neg (show ¬ 3 ≤ x.s 1 by omega)]
  rfl
theorem ow_cell2 {W : World} {b : Nat} {p : Pk} {a : Ad} {x : OwG} (h : W.heap[b]? = some (.cells (pkC p (ownAd a x)) 28 (0, 0))) (hs : x.s 2 < 3) : W.cell? ⟨b, 24, none⟩ = some (.slice a.ps p.props.length a.pc) := by
  rw [cell_of_row _ _ 24 _ _ _ h]
  simp only [pkC, ownAd, if_neg (show ¬ 3 ≤ x.s 2 by omega)]
  rfl
theorem ow_cell3 {W : World} {b : Nat} {p : Pk} {a : Ad} {x : OwG} (h : W.heap[b]? = some (.cells (pkC p (ownAd a x)) 28 (0, 0))) (hs : x.s 3 < 3) : W.cell? ⟨b, 19, none⟩ = some (.slice a.w p.wProps.length a.wc) := by
  rw [cell_of_row _ _ 19 _ _ _ h]
  simp only [pkC, ownAd, if_neg (show ¬ 3 ≤ x.s 3 by omega)]
  rfl
section
variable {a : Act} {w : World} {d : Option Tmp} {p : String} {af : Array Edge} {gd : Option (Nat × Bool)} {x y z : Tmp} {r : TypeId}
theorem ow_a18 {g : Nat} (hx : a.eval (.tmp x) = .pointer (some ⟨g, 0, none⟩)) :
    (execOp a.eval { dst := d, op := .fieldAddr 28 (.tmp x) 18, type := r, pos := p, after := af, guard := gd }).run Tryz.prog w = .ok (.value (.pointer (some ⟨g, 22, none⟩))) w := by
  generalize a.eval = f at *
  go_simp
theorem ow_a19 {g : Nat} (hx : a.eval (.tmp x) = .pointer (some ⟨g, 0, none⟩)) :
    (execOp a.eval { dst := d, op := .fieldAddr 28 (.tmp x) 19, type := r, pos := p, after := af, guard := gd }).run Tryz.prog w = .ok (.value (.pointer (some ⟨g, 23, none⟩))) w := by
  generalize a.eval = f at *
  go_simp
theorem ow_a20 {g : Nat} (hx : a.eval (.tmp x) = .pointer (some ⟨g, 0, none⟩)) :
    (execOp a.eval { dst := d, op := .fieldAddr 28 (.tmp x) 20, type := r, pos := p, after := af, guard := gd }).run Tryz.prog w = .ok (.value (.pointer (some ⟨g, 24, none⟩))) w := by
  generalize a.eval = f at *
  go_simp
theorem ow_a15 {g : Nat} (hx : a.eval (.tmp x) = .pointer (some ⟨g, 0, none⟩)) :
    (execOp a.eval { dst := d, op := .fieldAddr 28 (.tmp x) 15, type := r, pos := p, after := af, guard := gd }).run Tryz.prog w = .ok (.value (.pointer (some ⟨g, 15, none⟩))) w := by
  generalize a.eval = f at *
  go_simp
theorem ow_w4 {g : Nat} (hx : a.eval (.tmp x) = .pointer (some ⟨g, 15, none⟩)) :
    (execOp a.eval { dst := d, op := .fieldAddr 24 (.tmp x) 4, type := r, pos := p, after := af, guard := gd }).run Tryz.prog w = .ok (.value (.pointer (some ⟨g, 19, none⟩))) w := by
  generalize a.eval = f at *
  go_simp
theorem ow_li {g j n c : Nat} {A : Option Addr} (hx : a.eval (.tmp x) = .pointer (some ⟨g, j, none⟩)) (hc : w.cell? ⟨g, j, none⟩ = some (.slice A n c)) :
    (execOp a.eval { dst := d, op := .load 25 (.tmp x), type := 25, pos := p, after := af, guard := gd }).run Tryz.prog w = .ok (.value (.slice A n c)) w := by
  generalize a.eval = f at *
  go_simp
theorem ow_si {g j n c n' c' : Nat} {A A' : Option Addr} (hx : a.eval (.tmp x) = .pointer (some ⟨g, j, none⟩)) (hy : a.eval (.tmp y) = .slice A n c) (hc : w.cell? ⟨g, j, none⟩ = some (.slice A' n' c')) (hf : w.frozen? ⟨g, j, none⟩ = false) :
    (execOp a.eval { dst := d, op := .store 25 (.tmp x) (.tmp y), type := r, pos := p, after := af, guard := gd }).run Tryz.prog w = .ok .skip (w.setCell ⟨g, j, none⟩ (.slice A n c)) := by
  generalize a.eval = f at *
  go_simp
theorem ow_lf {g j n c : Nat} {A : Option Addr} (hx : a.eval (.tmp x) = .pointer (some ⟨g, j, none⟩)) (hc : w.cell? ⟨g, j, none⟩ = some (.slice A n c)) :
    (execOp a.eval { dst := d, op := .load 26 (.tmp x), type := 26, pos := p, after := af, guard := gd }).run Tryz.prog w = .ok (.value (.slice A n c)) w := by
  generalize a.eval = f at *
  go_simp
theorem ow_sf {g j n c n' c' : Nat} {A A' : Option Addr} (hx : a.eval (.tmp x) = .pointer (some ⟨g, j, none⟩)) (hy : a.eval (.tmp y) = .slice A n c) (hc : w.cell? ⟨g, j, none⟩ = some (.slice A' n' c')) (hf : w.frozen? ⟨g, j, none⟩ = false) :
    (execOp a.eval { dst := d, op := .store 26 (.tmp x) (.tmp y), type := r, pos := p, after := af, guard := gd }).run Tryz.prog w = .ok .skip (w.setCell ⟨g, j, none⟩ (.slice A n c)) := by
  generalize a.eval = f at *
  go_simp
theorem ow_lp {g j n c : Nat} {A : Option Addr} (hx : a.eval (.tmp x) = .pointer (some ⟨g, j, none⟩)) (hc : w.cell? ⟨g, j, none⟩ = some (.slice A n c)) :
    (execOp a.eval { dst := d, op := .load 22 (.tmp x), type := 22, pos := p, after := af, guard := gd }).run Tryz.prog w = .ok (.value (.slice A n c)) w := by
  generalize a.eval = f at *
  go_simp
theorem ow_sp {g j n c n' c' : Nat} {A A' : Option Addr} (hx : a.eval (.tmp x) = .pointer (some ⟨g, j, none⟩)) (hy : a.eval (.tmp y) = .slice A n c) (hc : w.cell? ⟨g, j, none⟩ = some (.slice A' n' c')) (hf : w.frozen? ⟨g, j, none⟩ = false) :
    (execOp a.eval { dst := d, op := .store 22 (.tmp x) (.tmp y), type := r, pos := p, after := af, guard := gd }).run Tryz.prog w = .ok .skip (w.setCell ⟨g, j, none⟩ (.slice A n c)) := by
  generalize a.eval = f at *
  go_simp
theorem ow_int {ts : Array TypeId} {u : Value} (hx : a.eval (.tmp x) = u) :
    (execOp a.eval { dst := d, op := .call { callee := .value (.func 42), args := #[.tmp x], argTypes := ts }, type := r, pos := p, after := af, guard := gd }).run Tryz.prog w = .ok (.enter 42 #[u]) w := by
  have hf : a.eval (.func 42) = .func (.func 42) #[] #[] := rfl
  generalize a.eval = f at *
  go_simp
theorem ow_apiFilter {ts : Array TypeId} {u : Value} (hx : a.eval (.tmp x) = u) :
    (execOp a.eval { dst := d, op := .call { callee := .value (.func 43), args := #[.tmp x], argTypes := ts }, type := r, pos := p, after := af, guard := gd }).run Tryz.prog w = .ok (.enter 43 #[u]) w := by
  have hf : a.eval (.func 43) = .func (.func 43) #[] #[] := rfl
  generalize a.eval = f at *
  go_simp
theorem ow_apiProp {ts : Array TypeId} {u : Value} (hx : a.eval (.tmp x) = u) :
    (execOp a.eval { dst := d, op := .call { callee := .value (.func 44), args := #[.tmp x], argTypes := ts }, type := r, pos := p, after := af, guard := gd }).run Tryz.prog w = .ok (.enter 44 #[u]) w := by
  have hf : a.eval (.func 44) = .func (.func 44) #[] #[] := rfl
  generalize a.eval = f at *
  go_simp
end
set_option maxRecDepth 100000 in
set_option maxHeartbeats 4000000 in
theorem own_lists {Q : Exit → Act → World → Prop} {S : OwG → World → Prop} {W : World} {b : Nat} {p : Pk} {a : Ad} {x0 x2 x3 x4 x5 x6 x7 x8 x9 x10 x11 x12 x13 x14 x15 x16 x17 x18 x19 x20 x21 : Value}
    (hS : S OwG.none W.drew) (KB : ∀ x w, S x w → w.heap[b]? = some (.cells (pkC p (ownAd a x)) 28 (0, 0)))
    (LD : ∀ k x w, k < 4 → S x w → x.s k = 0 → S (x.to k 1) w)
    (H0 : ∀ (x : OwG) (w : World), S x w → x.s 0 = 1 → Calls Tryz.prog 42 #[(.slice a.cs p.codes.length a.cc)] w fun e w' => ∃ A c, e = .returned (.slice A p.codes.length c) ∧ S (x.got 0 A c) w')
    (T0 : ∀ (x : OwG) (w : World), S x w → x.s 0 = 2 → S (x.to 0 3) (w.setCell ⟨b, 22, none⟩ (.slice (x.A 0) p.codes.length (x.c 0))))
    (H1 : ∀ (x : OwG) (w : World), S x w → x.s 1 = 1 → Calls Tryz.prog 43 #[(.slice a.fs p.filters.length a.fc)] w fun e w' => ∃ A c, e = .returned (.slice A p.filters.length c) ∧ S (x.got 1 A c) w')
    (T1 : ∀ (x : OwG) (w : World), S x w → x.s 1 = 2 → S (x.to 1 3) (w.setCell ⟨b, 23, none⟩ (.slice (x.A 1) p.filters.length (x.c 1))))
    (H2 : ∀ (x : OwG) (w : World), S x w → x.s 2 = 1 → Calls Tryz.prog 44 #[(.slice a.ps p.props.length a.pc)] w fun e w' => ∃ A c, e = .returned (.slice A p.props.length c) ∧ S (x.got 2 A c) w')
    (T2 : ∀ (x : OwG) (w : World), S x w → x.s 2 = 2 → S (x.to 2 3) (w.setCell ⟨b, 24, none⟩ (.slice (x.A 2) p.props.length (x.c 2))))
    (H3 : ∀ (x : OwG) (w : World), S x w → x.s 3 = 1 → Calls Tryz.prog 44 #[(.slice a.w p.wProps.length a.wc)] w fun e w' => ∃ A c, e = .returned (.slice A p.wProps.length c) ∧ S (x.got 3 A c) w')
    (T3 : ∀ (x : OwG) (w : World), S x w → x.s 3 = 2 → S (x.to 3 3) (w.setCell ⟨b, 19, none⟩ (.slice (x.A 3) p.wProps.length (x.c 3))))
    (fin : ∀ x w, S x w → (3 ≤ x.s 0 ∧ 3 ≤ x.s 1 ∧ 3 ≤ x.s 2 ∧ 3 ≤ x.s 3) → Q .normal ⟨#[x0, (.pointer (some ⟨b, 0, none⟩)), x2, (.pointer (some ⟨b, 22, none⟩)), (.slice a.cs p.codes.length a.cc), (.slice (x.A 0) p.codes.length (x.c 0)), (.pointer (some ⟨b, 23, none⟩)), (.slice a.fs p.filters.length a.fc), (.slice (x.A 1) p.filters.length (x.c 1)), (.pointer (some ⟨b, 24, none⟩)), (.slice a.ps p.props.length a.pc), (.slice (x.A 2) p.props.length (x.c 2)), (.pointer (some ⟨b, 15, none⟩)), (.pointer (some ⟨b, 19, none⟩)), (.slice a.w p.wProps.length a.wc), (.slice (x.A 3) p.wProps.length (x.c 3)), (.pointer (some ⟨b, 22, none⟩)), (.pointer (some ⟨b, 23, none⟩)), (.pointer (some ⟨b, 24, none⟩)), (.pointer (some ⟨b, 15, none⟩)), (.pointer (some ⟨b, 19, none⟩)), x21], []⟩ w) :
    (Code.region 1 (RegEnv.opsAt 1 Tryz.f11.body) true).wp Tryz.prog Q ⟨#[x0, (.pointer (some ⟨b, 0, none⟩)), x2, x3, x4, x5, x6, x7, x8, x9, x10, x11, x12, x13, x14, x15, x16, x17, x18, x19, x20, x21], []⟩ W := by
  refine RegStep.wp (fresh := fun i x => ∀ k n, owSt i = some (k, n) → x.s k < n) (hf0 := fun i k n h => ow_pos h) (x := OwG.none) (S := S) (made := fun i x => ∀ k n, owSt i = some (k, n) → n ≤ x.s k) (war := []) (ds := [3, 4, 5, 6, 7, 8, 9, 10, 11, 12, 13, 14, 15, 16, 17, 18, 19, 20]) (A := [x0, (.pointer (some ⟨b, 0, none⟩)), x2, x3, x4, x5, x6, x7, x8, x9, x10, x11, x12, x13, x14, x15, x16, x17, x18, x19, x20, x21]) (B := fun x => [x0, (.pointer (some ⟨b, 0, none⟩)), x2, (.pointer (some ⟨b, 22, none⟩)), (.slice a.cs p.codes.length a.cc), (.slice (x.A 0) p.codes.length (x.c 0)), (.pointer (some ⟨b, 23, none⟩)), (.slice a.fs p.filters.length a.fc), (.slice (x.A 1) p.filters.length (x.c 1)), (.pointer (some ⟨b, 24, none⟩)), (.slice a.ps p.props.length a.pc), (.slice (x.A 2) p.props.length (x.c 2)), (.pointer (some ⟨b, 15, none⟩)), (.pointer (some ⟨b, 19, none⟩)), (.slice a.w p.wProps.length a.wc), (.slice (x.A 3) p.wProps.length (x.c 3)), (.pointer (some ⟨b, 22, none⟩)), (.pointer (some ⟨b, 23, none⟩)), (.pointer (some ⟨b, 24, none⟩)), (.pointer (some ⟨b, 15, none⟩)), (.pointer (some ⟨b, 19, none⟩)), x21]) (D := []) (by kernel_rfl) (by kernel_rfl) (by kernel_rfl) ?_ hS ?_ (fun x w hm hS => fin x w hS (by have h0 := hm 14 (by decide) 0 3 rfl; have h1 := hm 16 (by decide) 1 3 rfl; have h2 := hm 18 (by decide) 2 3 rfl; have h3 := hm 21 (by decide) 3 3 rfl; exact ⟨h0, h1, h2, h3⟩))
  · exact fun x => (by repeat (first | exact trivial | refine ⟨.inr rfl, ?_⟩ | refine ⟨.inl rfl, ?_⟩))
  refine RegGhost.All.step rfl (RegStep.Does.pure (val := fun x => (.pointer (some ⟨b, 22, none⟩))) rfl (fun x k n h => by cases h) (fun x w hm hS => ⟨rfl, rfl, ow_a18 rfl⟩)) ?_
  refine RegGhost.All.step rfl ((fun x w hm hf hS => by
    have hs : x.s 0 + 1 = 1 := by have := hf 0 1 rfl; omega
    exact .inl ⟨rfl, .value _ (x.to 0 1) w (ow_li rfl (ow_cell0 (KB x w hS) (by omega))) ⟨fun d hd => by cases hd; rfl, LD 0 x w (by decide) hS (by omega), ow_made (x := x) (k := 0) (n := 1) rfl hs, fun i h => ow_mono (k := 0) (n := 1) hs h, fun i hi h => ow_fresh (j := 1) (k := 0) (n := 1) rfl hs hi h, [], rfl, RegGhost.off_refl 0 _⟩⟩)) ?_
  refine RegGhost.All.step rfl ((fun x w hm hf hS => by
    have hs : x.s 0 + 1 = 2 := by have := hf 0 2 rfl; have := hm 1 (by kernel_rfl) (by decide) 0 1 rfl; omega
    exact .inl ⟨rfl, .call _ _ (ow_int rfl) ((H0 x w hS (by omega)).mono fun e w' ⟨A', c', he, hk⟩ => ⟨_, x.got 0 A' c', he, fun d hd => by cases hd; rfl, hk, ow_made (x := x) (k := 0) (n := 2) rfl hs, fun i h => ow_mono (k := 0) (n := 2) hs h, fun i hi h => ow_fresh (j := 2) (k := 0) (n := 2) rfl hs hi h, [5], by kernel_rfl, (by repeat (first | exact trivial | refine ⟨.inr rfl, ?_⟩ | refine ⟨.inl rfl, ?_⟩))⟩)⟩)) ?_
  refine RegGhost.All.step rfl (RegStep.Does.pure (val := fun x => (.pointer (some ⟨b, 23, none⟩))) rfl (fun x k n h => by cases h) (fun x w hm hS => ⟨rfl, rfl, ow_a19 rfl⟩)) ?_
  refine RegGhost.All.step rfl ((fun x w hm hf hS => by
    have hs : x.s 1 + 1 = 1 := by have := hf 1 1 rfl; omega
    exact .inl ⟨rfl, .value _ (x.to 1 1) w (ow_lf rfl (ow_cell1 (KB x w hS) (by omega))) ⟨fun d hd => by cases hd; rfl, LD 1 x w (by decide) hS (by omega), ow_made (x := x) (k := 1) (n := 1) rfl hs, fun i h => ow_mono (k := 1) (n := 1) hs h, fun i hi h => ow_fresh (j := 4) (k := 1) (n := 1) rfl hs hi h, [], rfl, RegGhost.off_refl 0 _⟩⟩)) ?_
  refine RegGhost.All.step rfl ((fun x w hm hf hS => by
    have hs : x.s 1 + 1 = 2 := by have := hf 1 2 rfl; have := hm 4 (by kernel_rfl) (by decide) 1 1 rfl; omega
    exact .inl ⟨rfl, .call _ _ (ow_apiFilter rfl) ((H1 x w hS (by omega)).mono fun e w' ⟨A', c', he, hk⟩ => ⟨_, x.got 1 A' c', he, fun d hd => by cases hd; rfl, hk, ow_made (x := x) (k := 1) (n := 2) rfl hs, fun i h => ow_mono (k := 1) (n := 2) hs h, fun i hi h => ow_fresh (j := 5) (k := 1) (n := 2) rfl hs hi h, [8], by kernel_rfl, (by repeat (first | exact trivial | refine ⟨.inr rfl, ?_⟩ | refine ⟨.inl rfl, ?_⟩))⟩)⟩)) ?_
  refine RegGhost.All.step rfl (RegStep.Does.pure (val := fun x => (.pointer (some ⟨b, 24, none⟩))) rfl (fun x k n h => by cases h) (fun x w hm hS => ⟨rfl, rfl, ow_a20 rfl⟩)) ?_
  refine RegGhost.All.step rfl ((fun x w hm hf hS => by
    have hs : x.s 2 + 1 = 1 := by have := hf 2 1 rfl; omega
    exact .inl ⟨rfl, .value _ (x.to 2 1) w (ow_lp rfl (ow_cell2 (KB x w hS) (by omega))) ⟨fun d hd => by cases hd; rfl, LD 2 x w (by decide) hS (by omega), ow_made (x := x) (k := 2) (n := 1) rfl hs, fun i h => ow_mono (k := 2) (n := 1) hs h, fun i hi h => ow_fresh (j := 7) (k := 2) (n := 1) rfl hs hi h, [], rfl, RegGhost.off_refl 0 _⟩⟩)) ?_
  refine RegGhost.All.step rfl ((fun x w hm hf hS => by
    have hs : x.s 2 + 1 = 2 := by have := hf 2 2 rfl; have := hm 7 (by kernel_rfl) (by decide) 2 1 rfl; omega
    exact .inl ⟨rfl, .call _ _ (ow_apiProp rfl) ((H2 x w hS (by omega)).mono fun e w' ⟨A', c', he, hk⟩ => ⟨_, x.got 2 A' c', he, fun d hd => by cases hd; rfl, hk, ow_made (x := x) (k := 2) (n := 2) rfl hs, fun i h => ow_mono (k := 2) (n := 2) hs h, fun i hi h => ow_fresh (j := 8) (k := 2) (n := 2) rfl hs hi h, [11], by kernel_rfl, (by repeat (first | exact trivial | refine ⟨.inr rfl, ?_⟩ | refine ⟨.inl rfl, ?_⟩))⟩)⟩)) ?_
  refine RegGhost.All.step rfl (RegStep.Does.pure (val := fun x => (.pointer (some ⟨b, 15, none⟩))) rfl (fun x k n h => by cases h) (fun x w hm hS => ⟨rfl, rfl, ow_a15 rfl⟩)) ?_
  refine RegGhost.All.step rfl (RegStep.Does.pure (val := fun x => (.pointer (some ⟨b, 19, none⟩))) rfl (fun x k n h => by cases h) (fun x w hm hS => ⟨rfl, rfl, ow_w4 rfl⟩)) ?_
  refine RegGhost.All.step rfl ((fun x w hm hf hS => by
    have hs : x.s 3 + 1 = 1 := by have := hf 3 1 rfl; omega
    exact .inl ⟨rfl, .value _ (x.to 3 1) w (ow_lp rfl (ow_cell3 (KB x w hS) (by omega))) ⟨fun d hd => by cases hd; rfl, LD 3 x w (by decide) hS (by omega), ow_made (x := x) (k := 3) (n := 1) rfl hs, fun i h => ow_mono (k := 3) (n := 1) hs h, fun i hi h => ow_fresh (j := 11) (k := 3) (n := 1) rfl hs hi h, [], rfl, RegGhost.off_refl 0 _⟩⟩)) ?_
  refine RegGhost.All.step rfl ((fun x w hm hf hS => by
    have hs : x.s 3 + 1 = 2 := by have := hf 3 2 rfl; have := hm 11 (by kernel_rfl) (by decide) 3 1 rfl; omega
    exact .inl ⟨rfl, .call _ _ (ow_apiProp rfl) ((H3 x w hS (by omega)).mono fun e w' ⟨A', c', he, hk⟩ => ⟨_, x.got 3 A' c', he, fun d hd => by cases hd; rfl, hk, ow_made (x := x) (k := 3) (n := 2) rfl hs, fun i h => ow_mono (k := 3) (n := 2) hs h, fun i hi h => ow_fresh (j := 12) (k := 3) (n := 2) rfl hs hi h, [15], by kernel_rfl, (by repeat (first | exact trivial | refine ⟨.inr rfl, ?_⟩ | refine ⟨.inl rfl, ?_⟩))⟩)⟩)) ?_
  refine RegGhost.All.step rfl (RegStep.Does.pure (val := fun x => (.pointer (some ⟨b, 22, none⟩))) rfl (fun x k n h => by cases h) (fun x w hm hS => ⟨rfl, rfl, ow_a18 rfl⟩)) ?_
  refine RegGhost.All.step rfl ((fun x w hm hf hS => by
    have hs : x.s 0 + 1 = 3 := by have := hf 0 3 rfl; have := hm 2 (by kernel_rfl) (by decide) 0 2 rfl; omega
    exact .inl ⟨rfl, .skip (x.to 0 3) _ (ow_si rfl rfl (ow_cell0 (KB x w hS) (by omega)) (frozen_of_row _ _ _ _ _ (KB x w hS))) ⟨fun d hd => (by cases hd), T0 x w hS (by omega), ow_made (x := x) (k := 0) (n := 3) rfl hs, fun i h => ow_mono (k := 0) (n := 3) hs h, fun i hi h => ow_fresh (j := 14) (k := 0) (n := 3) rfl hs hi h, [], rfl, RegGhost.off_refl 0 _⟩⟩)) ?_
  refine RegGhost.All.step rfl (RegStep.Does.pure (val := fun x => (.pointer (some ⟨b, 23, none⟩))) rfl (fun x k n h => by cases h) (fun x w hm hS => ⟨rfl, rfl, ow_a19 rfl⟩)) ?_
  refine RegGhost.All.step rfl ((fun x w hm hf hS => by
    have hs : x.s 1 + 1 = 3 := by have := hf 1 3 rfl; have := hm 5 (by kernel_rfl) (by decide) 1 2 rfl; omega
    exact .inl ⟨rfl, .skip (x.to 1 3) _ (ow_sf rfl rfl (ow_cell1 (KB x w hS) (by omega)) (frozen_of_row _ _ _ _ _ (KB x w hS))) ⟨fun d hd => (by cases hd), T1 x w hS (by omega), ow_made (x := x) (k := 1) (n := 3) rfl hs, fun i h => ow_mono (k := 1) (n := 3) hs h, fun i hi h => ow_fresh (j := 16) (k := 1) (n := 3) rfl hs hi h, [], rfl, RegGhost.off_refl 0 _⟩⟩)) ?_
  refine RegGhost.All.step rfl (RegStep.Does.pure (val := fun x => (.pointer (some ⟨b, 24, none⟩))) rfl (fun x k n h => by cases h) (fun x w hm hS => ⟨rfl, rfl, ow_a20 rfl⟩)) ?_
  refine RegGhost.All.step rfl ((fun x w hm hf hS => by
    have hs : x.s 2 + 1 = 3 := by have := hf 2 3 rfl; have := hm 8 (by kernel_rfl) (by decide) 2 2 rfl; omega
    exact .inl ⟨rfl, .skip (x.to 2 3) _ (ow_sp rfl rfl (ow_cell2 (KB x w hS) (by omega)) (frozen_of_row _ _ _ _ _ (KB x w hS))) ⟨fun d hd => (by cases hd), T2 x w hS (by omega), ow_made (x := x) (k := 2) (n := 3) rfl hs, fun i h => ow_mono (k := 2) (n := 3) hs h, fun i hi h => ow_fresh (j := 18) (k := 2) (n := 3) rfl hs hi h, [], rfl, RegGhost.off_refl 0 _⟩⟩)) ?_
  refine RegGhost.All.step rfl (RegStep.Does.pure (val := fun x => (.pointer (some ⟨b, 15, none⟩))) rfl (fun x k n h => by cases h) (fun x w hm hS => ⟨rfl, rfl, ow_a15 rfl⟩)) ?_
  refine RegGhost.All.step rfl (RegStep.Does.pure (val := fun x => (.pointer (some ⟨b, 19, none⟩))) rfl (fun x k n h => by cases h) (fun x w hm hS => ⟨rfl, rfl, ow_w4 rfl⟩)) ?_
  refine RegGhost.All.step rfl ((fun x w hm hf hS => by
    have hs : x.s 3 + 1 = 3 := by have := hf 3 3 rfl; have := hm 12 (by kernel_rfl) (by decide) 3 2 rfl; omega
    exact .inl ⟨rfl, .skip (x.to 3 3) _ (ow_sp rfl rfl (ow_cell3 (KB x w hS) (by omega)) (frozen_of_row _ _ _ _ _ (KB x w hS))) ⟨fun d hd => (by cases hd), T3 x w hS (by omega), ow_made (x := x) (k := 3) (n := 3) rfl hs, fun i h => ow_mono (k := 3) (n := 3) hs h, fun i hi h => ow_fresh (j := 21) (k := 3) (n := 3) rfl hs hi h, [], rfl, RegGhost.off_refl 0 _⟩⟩)) ?_
  exact RegGhost.All.fin rfl
end Go.Proofs.YtaahhbjnflimnaaGreat
