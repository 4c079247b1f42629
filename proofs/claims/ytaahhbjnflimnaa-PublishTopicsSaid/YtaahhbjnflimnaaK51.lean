/-
  The contracts of publish.topicFits and publish.Valid. Condition: the packet's fields are what their types hold; at most 70,000 properties, within their capacity.
-/
import Derived.Deep.DeepCutAuto
import Derived.Great.BuildSlice
import Derived.Test.YtaahhbjnflimnaaK50
import Derived.Test.YtaahhbjnflimnaaK25
import Derived.Test.YtaahhbjnflimnaaK49
import Derived.Test.YtaahhbjnflimnaaK43
namespace Go.Proofs.Ytaahhbjnflimnaa
open Go.RowKit

theorem topic_size {p : Pk} (ok : PkOk p) : (bs p.topic).size ≤ 9223372036854775807 := by
  rw [bs_size]
  exact Nat.le_trans (ok.texts p.topic (by simp [Pk.texts])) (by decide)
set_option maxRecDepth 100000 in
set_option maxHeartbeats 1000000 in
theorem pub_topic_fits (p : Pk) (a : Ad) (w : World) (hp : PkAt w p a) (sp : Short p) (ok : PkOk p) : Calls Try.prog 22 #[.agg (pkC p a)] w fun e w' => e = .returned (.bool (topicU p)) ∧ Below w.heap.size w w' := by
  have S0 := Lib.hid (BxS.made w p a)
  have C1 := Lib.hid (pkC_size p a)
  have AL := fun W (h : BxS w p a W) => pub_alias p a W (hp.below h.low) sp (fun x hx => (ok.pps x hx).1)
  have NM := fun W => name_any (bs p.topic) W (topic_size ok)
  rw [bs_data] at NM
  have hE : ((bs p.topic).toList == []) = p.topic.isEmpty := by rw [bs_toList]; cases p.topic <;> rfl
  obtain ⟨R, hR⟩ : ∃ R, topicU p = R := ⟨_, rfl⟩
  rw [hR]
  unfold topicU at hR
  generalize hasP p.props 35 = b at *
  generalize nameL p.topic = nm at *
  generalize p.topic.isEmpty = em at *
  have HR := Lib.hid hR
  have AL := Lib.hid AL
  have NM := Lib.hid NM
  have k5 : ∀ W, BxS w p a W → W.cell? ⟨w.heap.size, 5, none⟩ = some (.string (bs p.topic)) := fun W h => h.cell 5
  have K5 := Lib.hid k5
  generalize bs p.topic = T at *
  clear hp sp ok hR k5
  go_enter Try.func22, Try.ntmps22
  go_wp2_with (refine wpList_load_row rfl _ _ rfl w.heap.size rfl 30 _ (0, 0) _ S0.out.box Try.underlying30 rfl (by rw [C1.out]; exact info_pk) ?_)
  refine (AL.out _ S0.out).mono ?_
  rintro e W ⟨rfl, hb⟩
  have S1 := Lib.hid (S0.out.call hb)
  have k5 := K5.out W S1.out
  clear hb S0
  go_wp2_with fail
  refine (NM.out _).mono ?_
  rintro e W2 ⟨rfl, hb⟩
  have S2 := Lib.hid (S1.out.call hb)
  have k5 := K5.out W2 S2.out
  clear hb S1
  cases nm with
  | true =>
    have HT := Lib.hid (show true = R by rw [← HR.out]; rfl)
    clear HR
    go_wp2_with fail
    go_ret
    exact ⟨congrArg (fun b => Ending.returned (Value.bool b)) HT.out, S2.out.low⟩
  | false =>
    cases em with
    | true =>
      have HT := Lib.hid (show b = R by rw [← HR.out]; rfl)
      clear HR
      go_wp2_with fail
      go_ret
      exact ⟨congrArg (fun b => Ending.returned (Value.bool b)) HT.out, S2.out.low⟩
    | false =>
      have HT := Lib.hid (show false = R by rw [← HR.out]; rfl)
      clear HR
      go_wp2_with fail
      go_ret
      exact ⟨congrArg (fun b => Ending.returned (Value.bool b)) HT.out, S2.out.low⟩
/-- The first of several errors. -/
def firstE : List Nat → Nat
  | [] => 0
  | e :: l => if e = 0 then firstE l else e
def errsU (v : Int) (p : Pk) : List Nat := [if p.kind = 3 then 0 else 2, (flagsF v p.kind p.dup p.retain p.qos).2, if idU p && decide (p = usedU v p) then 0 else 2, if topicU p then 0 else 10, validP 3 p.props]
theorem first_u (v : Int) (p : Pk) : firstE (errsU v p) = validU v p := by
  unfold errsU validU
  simp only [firstE]
  generalize (idU p && decide (p = usedU v p)) = b3
  generalize topicU p = b4
  generalize validP 3 p.props = e5
  by_cases hk : p.kind = 3
  · rw [hk]
    generalize (flagsF v 3 p.dup p.retain p.qos).2 = e2
    by_cases h2 : e2 = 0 <;> by_cases h5 : e5 = 0 <;> cases b3 <;> cases b4 <;> simp [h2, h5]
  · simp [hk]
/-- What stands while publish.Valid runs. -/
structure PvS (w : World) (v : Int) (p : Pk) (a : Ad) (W : World) : Prop where
  low : Below w.heap.size w W
  vb : W.heap[w.heap.size]? = some (.cells #[.int .i64 v] 3 (0, 0))
  pb : W.heap[w.heap.size + 1]? = some (.cells (pkC p a) 30 (0, 0))
theorem PvS.call {w W W' : World} {v : Int} {p : Pk} {a : Ad} (h : PvS w v p a W) (hb : Below W.heap.size W W') : PvS w v p a W' := ⟨below_then h.low hb, (hb.block _ (lt_of_block h.vb)).trans h.vb, (hb.block _ (lt_of_block h.pb)).trans h.pb⟩
theorem PvS.cell {w W : World} {v : Int} {p : Pk} {a : Ad} (h : PvS w v p a W) (j : Nat) : W.cell? ⟨w.heap.size + 1, j, none⟩ = (pkC p a)[j]? := cell_of_row _ _ j _ _ _ h.pb
def EndU (W : World) (r : Nat) (e : Ending) (W' : World) : Prop := e = .returned (.int .i64 (r : Int)) ∧ Below W.heap.size W W'
section
variable {w W : World} {v : Int} {p : Pk} {a : Ad}
set_option maxRecDepth 100000 in
theorem pv_one (h : PvS w v p a W) : Calls Try.prog 13 #[.pointer (some ⟨w.heap.size + 1, 0, none⟩)] W (EndU W (if p.kind = 3 then 0 else 2)) := by
  have H := Lib.hid h
  have k0 : W.cell? ⟨w.heap.size + 1, 0, none⟩ = some (.int .i64 p.kind) := h.cell 0
  obtain ⟨b, hb⟩ : ∃ b, (p.kind == 3) = b := ⟨_, rfl⟩
  have RQ := pub_require b 2 W
  have HB := Lib.hid (show (if b then 0 else 2 : Nat) = (if p.kind = 3 then 0 else 2) by rw [← hb]; by_cases e : p.kind = 3 <;> simp [e])
  rw [HB.out] at RQ
  have RQ := Lib.hid RQ
  generalize (if p.kind = 3 then 0 else 2 : Nat) = r at *
  generalize p.kind = k at *
  clear h
  go_enter Try.func13, Try.ntmps13
  go_wp2_with fail
  refine (RQ.out).mono ?_
  rintro e W' ⟨rfl, rfl⟩
  go_wp2_with fail
  go_ret
  exact ⟨rfl, Below.refl _ _⟩
set_option maxRecDepth 100000 in
theorem pv_two (h : PvS w v p a W) : Calls Try.prog 15 #[.pointer (some ⟨w.heap.size, 0, none⟩), .pointer (some ⟨w.heap.size + 1, 0, none⟩)] W (EndU W (flagsF v p.kind p.dup p.retain p.qos).2) := by
  have H := Lib.hid h
  have C1 := Lib.hid (pkC_size p a)
  have k0 : W.cell? ⟨w.heap.size, 0, none⟩ = some (.int .i64 v) := cell_of_row _ _ 0 _ _ _ h.vb
  have FL := Lib.hid (pub_flags v p a W)
  clear h
  go_enter Try.func15, Try.ntmps15
  go_wp2_with (refine wpList_load_row rfl _ _ rfl (w.heap.size + 1) rfl 30 _ (0, 0) _ H.out.pb Try.underlying30 rfl (by rw [C1.out]; exact info_pk) ?_)
  refine (FL.out).mono ?_
  rintro e W' ⟨rfl, hb⟩
  have H2 := Lib.hid hb
  clear hb
  go_wp2_with fail
  go_ret
  exact ⟨rfl, H2.out⟩
set_option maxRecDepth 100000 in
theorem pv_three (h : PvS w v p a W) (hp : PkAt w p a) (sp : Short p) : Calls Try.prog 17 #[.pointer (some ⟨w.heap.size + 1, 0, none⟩), .pointer (some ⟨w.heap.size, 0, none⟩)] W (EndU W (if idU p && decide (p = usedU v p) then 0 else 2)) := by
  have H := Lib.hid h
  have C1 := Lib.hid (pkC_size p a)
  have I1 := fun V (h : PvS w v p a V ∧ Below W.heap.size W V) => (pub_id_fits p a V).mono fun e W' hh => (⟨hh.1, h.1.call hh.2, below_then h.2 hh.2⟩ : _ ∧ (PvS w v p a W' ∧ Below W.heap.size W W'))
  have U1 := fun V (h : PvS w v p a V ∧ Below W.heap.size W V) => (pub_used v p a V).mono fun e W' hh => (⟨hh.1, h.1.call hh.2, below_then h.2 hh.2⟩ : _ ∧ (PvS w v p a W' ∧ Below W.heap.size W W'))
  have M1 := fun V (h : PvS w v p a V ∧ Below W.heap.size W V) => (hd_same p (usedU v p) a (usedUA v a) V (hp.below h.1.low) (usedU_at v (hp.below h.1.low)) sp (usedU_short v sp)).mono fun e W' hh => (⟨hh.1, h.1.call hh.2, below_then h.2 hh.2⟩ : _ ∧ (PvS w v p a W' ∧ Below W.heap.size W W'))
  obtain ⟨r, hr⟩ : ∃ r : Nat, (if idU p && decide (p = usedU v p) then 0 else 2) = r := ⟨_, rfl⟩
  rw [hr]
  have R1 := fun (b : Bool) (hb : (if b then 0 else 2 : Nat) = r) V (h : PvS w v p a V ∧ Below W.heap.size W V) => (pub_require b 2 V).mono fun e W' (hh : _ ∧ V = W') => (⟨by rw [hh.1, hb], hh.2 ▸ h⟩ : e = .returned (.int .i64 (r : Int)) ∧ (PvS w v p a W' ∧ Below W.heap.size W W'))
  have S0 := Lib.hid (show PvS w v p a W.drew ∧ Below W.heap.size W W.drew from ⟨h.call (Below.refl _ _).drew, (Below.refl _ _).drew⟩)
  cases hi : idU p with
  | true =>
    rw [hi, Bool.true_and] at hr
    rw [hi] at I1
    have R1 := R1 _ hr
    go_enter Try.func17, Try.ntmps17
    go_upto_region 1 with fail
    refine pv_true (S := fun W' => PvS w v p a W' ∧ Below W.heap.size W W') (b1 := w.heap.size) (b2 := w.heap.size + 1) S0.out C1.out (fun W h => h.1.pb) (fun W h => cell_of_row _ _ 0 _ _ _ h.1.vb) I1 U1 M1 R1 ?_
    intro W' h
    have H := Lib.hid h.2
    clear h
    go_wp2_with fail
    go_ret
    exact ⟨rfl, H.out⟩
  | false =>
    rw [hi, Bool.false_and] at hr
    rw [hi] at I1
    have R1 := R1 _ hr
    go_enter Try.func17, Try.ntmps17
    go_upto_region 1 with fail
    refine pv_false (S := fun W' => PvS w v p a W' ∧ Below W.heap.size W W') (b1 := w.heap.size) (b2 := w.heap.size + 1) S0.out C1.out (fun W h => h.1.pb) I1 R1 ?_
    intro W' h
    have H := Lib.hid h.2
    clear h
    go_wp2_with fail
    go_ret
    exact ⟨rfl, H.out⟩
set_option maxRecDepth 100000 in
theorem pv_four (h : PvS w v p a W) (hp : PkAt w p a) (sp : Short p) (ok : PkOk p) : Calls Try.prog 21 #[.pointer (some ⟨w.heap.size + 1, 0, none⟩)] W (EndU W (if topicU p then 0 else 10)) := by
  have H := Lib.hid h
  have C1 := Lib.hid (pkC_size p a)
  have TF := Lib.hid (pub_topic_fits p a W (hp.below h.low) sp ok)
  have RQ := fun W => pub_require (topicU p) 10 W
  obtain ⟨r, hr⟩ : ∃ r : Nat, (if topicU p then 0 else 10) = r := ⟨_, rfl⟩
  rw [hr] at RQ ⊢
  generalize topicU p = b at *
  have RQ := Lib.hid RQ
  clear h hp sp ok hr
  go_enter Try.func21, Try.ntmps21
  go_wp2_with (refine wpList_load_row rfl _ _ rfl (w.heap.size + 1) rfl 30 _ (0, 0) _ H.out.pb Try.underlying30 rfl (by rw [C1.out]; exact info_pk) ?_)
  refine (TF.out).mono ?_
  rintro e W' ⟨rfl, hb⟩
  have H2 := Lib.hid hb
  clear hb
  go_wp2_with fail
  refine (RQ.out _).mono ?_
  rintro e W' ⟨rfl, rfl⟩
  go_wp2_with fail
  go_ret
  exact ⟨rfl, H2.out⟩
set_option maxRecDepth 100000 in
theorem pv_five (h : PvS w v p a W) (hp : PkAt w p a) (ok : PkOk p) (hc : p.props.length ≤ a.pc) : Calls Try.prog 23 #[.pointer (some ⟨w.heap.size + 1, 0, none⟩)] W (EndU W (validP 3 p.props)) := by
  have H := Lib.hid h
  have k24 : W.cell? ⟨w.heap.size + 1, 24, none⟩ = some (.slice a.ps p.props.length a.pc) := h.cell 24
  have VL := Lib.hid (valid_list 3 a.ps p.props.length a.pc p.props W (by decide) (by decide) (hp.below h.low).ps rfl hc (fun x hx => (ok.pps x hx).1))
  clear h hp ok hc
  go_enter Try.func23, Try.ntmps23
  go_wp2_with fail
  refine (VL.out).mono ?_
  rintro e W' ⟨rfl, hb⟩
  have H2 := Lib.hid hb
  clear hb
  go_wp2_with fail
  go_ret
  exact ⟨rfl, H2.out⟩
end
def valF : Nat → FuncId
  | 0 => 13
  | 1 => 15
  | 2 => 17
  | 3 => 21
  | _ => 23
def valC (b : Nat) : Nat → Array Value
  | 0 => #[.pointer (some ⟨b + 1, 0, none⟩)]
  | 1 => #[.pointer (some ⟨b, 0, none⟩), .pointer (some ⟨b + 1, 0, none⟩)]
  | 2 => #[.pointer (some ⟨b + 1, 0, none⟩), .pointer (some ⟨b, 0, none⟩)]
  | 3 => #[.pointer (some ⟨b + 1, 0, none⟩)]
  | _ => #[.pointer (some ⟨b + 1, 0, none⟩)]
def valR (b : Nat) : Array Value := #[.func (.func (valF 0)) #[] (valC b 0), .func (.func (valF 1)) #[] (valC b 1), .func (.func (valF 2)) #[] (valC b 2), .func (.func (valF 3)) #[] (valC b 3), .func (.func (valF 4)) #[] (valC b 4)]
theorem val_run (b k : Nat) (W : World) (hk : k < 5) : (callFunc (valF k) (valC b k)).run Try.prog W = .ok (.enter (valF k) (valC b k)) W := by
  obtain rfl | rfl | rfl | rfl | rfl : k = 0 ∨ k = 1 ∨ k = 2 ∨ k = 3 ∨ k = 4 := by omega
  all_goals kernel_rfl
set_option maxRecDepth 100000 in
set_option maxHeartbeats 2000000 in
theorem pub_valid (v : Int) (p : Pk) (a : Ad) (w : World) (hp : PkAt w p a) (sp : Short p) (ok : PkOk p) (hc : p.props.length ≤ a.pc) :
    Calls Try.prog 6 #[.int .i64 v, .agg (pkC p a)] w fun e w' => e = .returned (.int .i64 ((validU v p : Nat) : Int)) ∧ Below w.heap.size w w' := by
  have FI := fun (W : World) (hS : PvS w v p a W) (hF : W.heap[w.heap.size + 2]? = some (.cells (valR w.heap.size) 46 (0, 0))) => pub_first (w.heap.size + 2) 5 valF (valC w.heap.size) (fun k W => PvS w v p a W ∧ W.heap[w.heap.size + 2]? = some (.cells (valR w.heap.size) 46 (0, 0)) ∧ firstE ((errsU v p).drop k) = validU v p) (fun r W => PvS w v p a W ∧ r = validU v p) W (by decide)
    (fun k W hk h => by
      rw [cell_of_row _ _ k _ _ _ h.2.1]
      obtain rfl | rfl | rfl | rfl | rfl : k = 0 ∨ k = 1 ∨ k = 2 ∨ k = 3 ∨ k = 4 := by omega
      all_goals rfl)
    (fun k W hk h => by
      have go : ∀ (r : Nat) (F : FuncId) (C : Array Value), Calls Try.prog F C W (EndU W r) → (errsU v p).drop k = r :: (errsU v p).drop (k + 1) → Calls Try.prog F C W fun e W' => ∃ r : Nat, e = .returned (.int .i64 (r : Int)) ∧ (r = 0 → PvS w v p a W' ∧ W'.heap[w.heap.size + 2]? = some (.cells (valR w.heap.size) 46 (0, 0)) ∧ firstE ((errsU v p).drop (k + 1)) = validU v p) ∧ (r ≠ 0 → PvS w v p a W' ∧ r = validU v p) := fun r F C hC hd => hC.mono fun e W' ⟨he, hb⟩ => by
        have hf := h.2.2
        rw [hd, firstE] at hf
        refine ⟨r, he, fun h0 => ⟨h.1.call hb, (hb.block _ (lt_of_block h.2.1)).trans h.2.1, ?_⟩, fun hne => ⟨h.1.call hb, ?_⟩⟩
        · rw [if_pos h0] at hf; exact hf
        · rw [if_neg hne] at hf; exact hf
      obtain rfl | rfl | rfl | rfl | rfl : k = 0 ∨ k = 1 ∨ k = 2 ∨ k = 3 ∨ k = 4 := by omega
      · exact go _ _ _ (pv_one h.1) rfl
      · exact go _ _ _ (pv_two h.1) rfl
      · exact go _ _ _ (pv_three h.1 hp sp) rfl
      · exact go _ _ _ (pv_four h.1 hp sp ok) rfl
      · exact go _ _ _ (pv_five h.1 hp ok hc) rfl)
    (fun k W hk => val_run _ k W hk) ⟨hS, hF, first_u v p⟩
  have hmf : ∀ (fn : Fn) (f c : Array Value) (w : World), (Instr.makeFunc fn f c).run Try.prog w = .ok (.func fn f c) w := fun _ _ _ _ => rfl
  generalize validU v p = R at *
  have FI := Lib.hid FI
  have P0 := Lib.hid (show PvS w v p a ((w.alloc (.cells #[.int .i64 v] 3)).alloc (.cells (pkC p a) 30)) from ⟨below_then (below_box _) (below_box _), heap_alloc2_old _ _ _, heap_alloc2_new _ _ _⟩)
  clear hp sp ok hc
  go_enter Try.func6, Try.ntmps6
  go_wp2_with fail
  have G2 := heap_alloc_new ((w.alloc (.cells #[.int .i64 v] 3)).alloc (.cells (pkC p a) 30)) (.cells (valR w.heap.size) 46)
  rw [show ((w.alloc (.cells #[.int .i64 v] 3)).alloc (.cells (pkC p a) 30)).heap.size = w.heap.size + 2 by simp] at G2
  refine (FI.out _ (P0.out.call (below_box _)) G2).mono ?_
  rintro e W' ⟨r, rfl, h1, h2⟩
  have HE := Lib.hid (show (r = R ∧ Below w.heap.size w W') by
    by_cases h0 : r = 0
    · obtain ⟨hS, _, hf⟩ := h1 h0
      exact ⟨h0.trans hf, hS.low⟩
    · exact ⟨(h2 h0).2, (h2 h0).1.low⟩)
  clear h1 h2 G2
  go_wp2_with fail
  go_ret
  obtain ⟨hr, hl⟩ := HE.out
  subst hr
  exact ⟨rfl, hl⟩
end Go.Proofs.Ytaahhbjnflimnaa
