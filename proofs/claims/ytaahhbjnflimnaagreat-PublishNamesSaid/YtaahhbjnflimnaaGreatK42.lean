/-
  The contracts of publish.topicFits and publish.Valid. Condition: the packet's fields are what their types hold; at most 70,000 properties, within their capacity.
  The contract of publish.Body. Condition: the packet's fields are what their types hold; at most 70,000 properties, within their capacity.
  The chapter's example of layer 9: polyglotlaw09.one and lives. No condition.
-/
import Derived.Deep.DeepCutAuto
import Derived.Great.BuildSlice
import Derived.Test.YtaahhbjnflimnaaGreatK41
import Derived.Test.YtaahhbjnflimnaaGreatK19
import Derived.Test.YtaahhbjnflimnaaGreatK31
import Derived.Test.YtaahhbjnflimnaaGreatK38
import Derived.Test.YtaahhbjnflimnaaGreatK13
import Derived.Test.YtaahhbjnflimnaaGreatK33
import Derived.Test.YtaahhbjnflimnaaGreatK17
import Derived.Test.YtaahhbjnflimnaaGreatK40
import Derived.Test.YtaahhbjnflimnaaGreatK23
namespace Go.Proofs.YtaahhbjnflimnaaGreat
open Go.RowKit

theorem topic_size {p : Pk} (ok : PkOk p) : (bs p.topic).size ≤ 9223372036854775807 := by
  rw [bs_size]
  exact Nat.le_trans (ok.texts p.topic (by simp [Pk.texts])) (by decide)
set_option maxRecDepth 100000 in
set_option maxHeartbeats 1000000 in
theorem pub_topic_fits (p : Pk) (a : Ad) (w : World) (hp : PkAt w p a) (sp : Short p) (ok : PkOk p) : Calls Tryz.prog 97 #[.agg (pkC p a)] w fun e w' => e = .returned (.bool (topicU p)) ∧ Below w.heap.size w w' := by
  have S0 := Lib.hid (BxS.made w p a)
  have C1 := Lib.hid (pkC_size p a)
  have AL := fun W (h : BxS w p a W) => pub_alias p a W (hp.below h.low) sp (fun x hx => (ok.pps x hx).1)
  have NM := fun W => name_any (bs p.topic) W (topic_size ok)
  rw [bs_data] at NM
  have hE : ((bs p.topic).toList == []) = p.topic.isEmpty := by rw [bs_toList]; cases p.topic <;> rfl
  obtain ⟨R, hR⟩ : ∃ R, topicU p = R := ⟨_, rfl⟩
  rw [hR]
  unfold topicU at hR
  generalize hasP p.props 35 = b at *
  generalize nameL p.topic = nm at *
  generalize p.topic.isEmpty = em at *
  have HR := Lib.hid hR
  have AL := Lib.hid AL
  have NM := Lib.hid NM
  have k5 : ∀ W, BxS w p a W → W.cell? ⟨w.heap.size, 5, none⟩ = some (.string (bs p.topic)) := fun W h => h.cell 5
  have K5 := Lib.hid k5
  generalize bs p.topic = T at *
  clear hp sp ok hR k5
  go_enter Tryz.func97, Tryz.ntmps97
  go_wp2_with (refine wpList_load_row rfl _ _ rfl w.heap.size rfl 28 _ (0, 0) _ S0.out.box Tryz.underlying28 rfl (by rw [C1.out]; exact info_pk) ?_)
  refine (AL.out _ S0.out).mono ?_
  rintro e W ⟨rfl, hb⟩
  have S1 := Lib.hid (S0.out.call hb)
  have k5 := K5.out W S1.out
  clear hb S0
  go_wp2_with fail
  refine (NM.out _).mono ?_
  rintro e W2 ⟨rfl, hb⟩
  have S2 := Lib.hid (S1.out.call hb)
  have k5 := K5.out W2 S2.out
  clear hb S1
  cases nm with
  | true =>
    have HT := Lib.hid (show true = R by rw [← HR.out]; rfl)
    clear HR
    go_wp2_with fail
    go_ret
    exact ⟨congrArg (fun b => Ending.returned (Value.bool b)) HT.out, S2.out.low⟩
  | false =>
    cases em with
    | true =>
      have HT := Lib.hid (show b = R by rw [← HR.out]; rfl)
      clear HR
      go_wp2_with fail
      go_ret
      exact ⟨congrArg (fun b => Ending.returned (Value.bool b)) HT.out, S2.out.low⟩
    | false =>
      have HT := Lib.hid (show false = R by rw [← HR.out]; rfl)
      clear HR
      go_wp2_with fail
      go_ret
      exact ⟨congrArg (fun b => Ending.returned (Value.bool b)) HT.out, S2.out.low⟩
/-- The first of several errors. -/
def firstE : List Nat → Nat
  | [] => 0
  | e :: l => if e = 0 then firstE l else e
def errsU (v : Int) (p : Pk) : List Nat := [if p.kind = 3 then 0 else 2, (flagsF v p.kind p.dup p.retain p.qos).2, if idU p && decide (p = usedU v p) then 0 else 2, if topicU p then 0 else 10, validP 3 p.props]
theorem first_u (v : Int) (p : Pk) : firstE (errsU v p) = validU v p := by
  unfold errsU validU
  simp only [firstE]
  generalize (idU p && decide (p = usedU v p)) = b3
  generalize topicU p = b4
  generalize validP 3 p.props = e5
  by_cases hk : p.kind = 3
  · rw [hk]
    generalize (flagsF v 3 p.dup p.retain p.qos).2 = e2
    by_cases h2 : e2 = 0 <;> by_cases h5 : e5 = 0 <;> cases b3 <;> cases b4 <;> simp [h2, h5]
  · simp [hk]
/-- What stands while publish.Valid runs. -/
structure PvS (w : World) (v : Int) (p : Pk) (a : Ad) (W : World) : Prop where
  low : Below w.heap.size w W
  vb : W.heap[w.heap.size]? = some (.cells #[.int .i64 v] 3 (0, 0))
  pb : W.heap[w.heap.size + 1]? = some (.cells (pkC p a) 28 (0, 0))
theorem PvS.call {w W W' : World} {v : Int} {p : Pk} {a : Ad} (h : PvS w v p a W) (hb : Below W.heap.size W W') : PvS w v p a W' := ⟨below_then h.low hb, (hb.block _ (lt_of_block h.vb)).trans h.vb, (hb.block _ (lt_of_block h.pb)).trans h.pb⟩
theorem PvS.cell {w W : World} {v : Int} {p : Pk} {a : Ad} (h : PvS w v p a W) (j : Nat) : W.cell? ⟨w.heap.size + 1, j, none⟩ = (pkC p a)[j]? := cell_of_row _ _ j _ _ _ h.pb
def EndU (W : World) (r : Nat) (e : Ending) (W' : World) : Prop := e = .returned (.int .i64 (r : Int)) ∧ Below W.heap.size W W'
section
variable {w W : World} {v : Int} {p : Pk} {a : Ad}
set_option maxRecDepth 100000 in
theorem pv_one (h : PvS w v p a W) : Calls Tryz.prog 88 #[.pointer (some ⟨w.heap.size + 1, 0, none⟩)] W (EndU W (if p.kind = 3 then 0 else 2)) := by
  have H := Lib.hid h
  have k0 : W.cell? ⟨w.heap.size + 1, 0, none⟩ = some (.int .i64 p.kind) := h.cell 0
  obtain ⟨b, hb⟩ : ∃ b, (p.kind == 3) = b := ⟨_, rfl⟩
  have RQ := pub_require b 2 W
  have HB := Lib.hid (show (if b then 0 else 2 : Nat) = (if p.kind = 3 then 0 else 2) by rw [← hb]; by_cases e : p.kind = 3 <;> simp [e])
  rw [HB.out] at RQ
  have RQ := Lib.hid RQ
  generalize (if p.kind = 3 then 0 else 2 : Nat) = r at *
  generalize p.kind = k at *
  clear h
  go_enter Tryz.func88, Tryz.ntmps88
  go_wp2_with fail
  refine (RQ.out).mono ?_
  rintro e W' ⟨rfl, rfl⟩
  go_wp2_with fail
  go_ret
  exact ⟨rfl, Below.refl _ _⟩
set_option maxRecDepth 100000 in
theorem pv_two (h : PvS w v p a W) : Calls Tryz.prog 90 #[.pointer (some ⟨w.heap.size, 0, none⟩), .pointer (some ⟨w.heap.size + 1, 0, none⟩)] W (EndU W (flagsF v p.kind p.dup p.retain p.qos).2) := by
  have H := Lib.hid h
  have C1 := Lib.hid (pkC_size p a)
  have k0 : W.cell? ⟨w.heap.size, 0, none⟩ = some (.int .i64 v) := cell_of_row _ _ 0 _ _ _ h.vb
  have FL := Lib.hid (pub_flags v p a W)
  clear h
  go_enter Tryz.func90, Tryz.ntmps90
  go_wp2_with (refine wpList_load_row rfl _ _ rfl (w.heap.size + 1) rfl 28 _ (0, 0) _ H.out.pb Tryz.underlying28 rfl (by rw [C1.out]; exact info_pk) ?_)
  refine (FL.out).mono ?_
  rintro e W' ⟨rfl, hb⟩
  have H2 := Lib.hid hb
  clear hb
  go_wp2_with fail
  go_ret
  exact ⟨rfl, H2.out⟩
set_option maxRecDepth 100000 in
theorem pv_three (h : PvS w v p a W) (hp : PkAt w p a) (sp : Short p) : Calls Tryz.prog 92 #[.pointer (some ⟨w.heap.size + 1, 0, none⟩), .pointer (some ⟨w.heap.size, 0, none⟩)] W (EndU W (if idU p && decide (p = usedU v p) then 0 else 2)) := by
  have H := Lib.hid h
  have C1 := Lib.hid (pkC_size p a)
  have I1 := fun V (h : PvS w v p a V ∧ Below W.heap.size W V) => (pub_id_fits p a V).mono fun e W' hh => (⟨hh.1, h.1.call hh.2, below_then h.2 hh.2⟩ : _ ∧ (PvS w v p a W' ∧ Below W.heap.size W W'))
  have U1 := fun V (h : PvS w v p a V ∧ Below W.heap.size W V) => (pub_used v p a V).mono fun e W' hh => (⟨hh.1, h.1.call hh.2, below_then h.2 hh.2⟩ : _ ∧ (PvS w v p a W' ∧ Below W.heap.size W W'))
  have M1 := fun V (h : PvS w v p a V ∧ Below W.heap.size W V) => (hd_same p (usedU v p) a (usedUA v a) V (hp.below h.1.low) (usedU_at v (hp.below h.1.low)) sp (usedU_short v sp)).mono fun e W' hh => (⟨hh.1, h.1.call hh.2, below_then h.2 hh.2⟩ : _ ∧ (PvS w v p a W' ∧ Below W.heap.size W W'))
  obtain ⟨r, hr⟩ : ∃ r : Nat, (if idU p && decide (p = usedU v p) then 0 else 2) = r := ⟨_, rfl⟩
  rw [hr]
  have R1 := fun (b : Bool) (hb : (if b then 0 else 2 : Nat) = r) V (h : PvS w v p a V ∧ Below W.heap.size W V) => (pub_require b 2 V).mono fun e W' (hh : _ ∧ V = W') => (⟨by rw [hh.1, hb], hh.2 ▸ h⟩ : e = .returned (.int .i64 (r : Int)) ∧ (PvS w v p a W' ∧ Below W.heap.size W W'))
  have S0 := Lib.hid (show PvS w v p a W.drew ∧ Below W.heap.size W W.drew from ⟨h.call (Below.refl _ _).drew, (Below.refl _ _).drew⟩)
  cases hi : idU p with
  | true =>
    rw [hi, Bool.true_and] at hr
    rw [hi] at I1
    have R1 := R1 _ hr
    go_enter Tryz.func92, Tryz.ntmps92
    go_upto_region 1 with fail
    refine pv_true (S := fun W' => PvS w v p a W' ∧ Below W.heap.size W W') (b1 := w.heap.size) (b2 := w.heap.size + 1) S0.out C1.out (fun W h => h.1.pb) (fun W h => cell_of_row _ _ 0 _ _ _ h.1.vb) I1 U1 M1 R1 ?_
    intro W' h
    have H := Lib.hid h.2
    clear h
    go_wp2_with fail
    go_ret
    exact ⟨rfl, H.out⟩
  | false =>
    rw [hi, Bool.false_and] at hr
    rw [hi] at I1
    have R1 := R1 _ hr
    go_enter Tryz.func92, Tryz.ntmps92
    go_upto_region 1 with fail
    refine pv_false (S := fun W' => PvS w v p a W' ∧ Below W.heap.size W W') (b1 := w.heap.size) (b2 := w.heap.size + 1) S0.out C1.out (fun W h => h.1.pb) I1 R1 ?_
    intro W' h
    have H := Lib.hid h.2
    clear h
    go_wp2_with fail
    go_ret
    exact ⟨rfl, H.out⟩
set_option maxRecDepth 100000 in
theorem pv_four (h : PvS w v p a W) (hp : PkAt w p a) (sp : Short p) (ok : PkOk p) : Calls Tryz.prog 96 #[.pointer (some ⟨w.heap.size + 1, 0, none⟩)] W (EndU W (if topicU p then 0 else 10)) := by
  have H := Lib.hid h
  have C1 := Lib.hid (pkC_size p a)
  have TF := Lib.hid (pub_topic_fits p a W (hp.below h.low) sp ok)
  have RQ := fun W => pub_require (topicU p) 10 W
  obtain ⟨r, hr⟩ : ∃ r : Nat, (if topicU p then 0 else 10) = r := ⟨_, rfl⟩
  rw [hr] at RQ ⊢
  generalize topicU p = b at *
  have RQ := Lib.hid RQ
  clear h hp sp ok hr
  go_enter Tryz.func96, Tryz.ntmps96
  go_wp2_with (refine wpList_load_row rfl _ _ rfl (w.heap.size + 1) rfl 28 _ (0, 0) _ H.out.pb Tryz.underlying28 rfl (by rw [C1.out]; exact info_pk) ?_)
  refine (TF.out).mono ?_
  rintro e W' ⟨rfl, hb⟩
  have H2 := Lib.hid hb
  clear hb
  go_wp2_with fail
  refine (RQ.out _).mono ?_
  rintro e W' ⟨rfl, rfl⟩
  go_wp2_with fail
  go_ret
  exact ⟨rfl, H2.out⟩
set_option maxRecDepth 100000 in
theorem pv_five (h : PvS w v p a W) (hp : PkAt w p a) (ok : PkOk p) (hc : p.props.length ≤ a.pc) : Calls Tryz.prog 98 #[.pointer (some ⟨w.heap.size + 1, 0, none⟩)] W (EndU W (validP 3 p.props)) := by
  have H := Lib.hid h
  have k24 : W.cell? ⟨w.heap.size + 1, 24, none⟩ = some (.slice a.ps p.props.length a.pc) := h.cell 24
  have VL := Lib.hid (valid_list 3 a.ps p.props.length a.pc p.props W (by decide) (by decide) (hp.below h.low).ps rfl hc (fun x hx => (ok.pps x hx).1))
  clear h hp ok hc
  go_enter Tryz.func98, Tryz.ntmps98
  go_wp2_with fail
  refine (VL.out).mono ?_
  rintro e W' ⟨rfl, hb⟩
  have H2 := Lib.hid hb
  clear hb
  go_wp2_with fail
  go_ret
  exact ⟨rfl, H2.out⟩
end
def valF : Nat → FuncId
  | 0 => 88
  | 1 => 90
  | 2 => 92
  | 3 => 96
  | _ => 98
def valC (b : Nat) : Nat → Array Value
  | 0 => #[.pointer (some ⟨b + 1, 0, none⟩)]
  | 1 => #[.pointer (some ⟨b, 0, none⟩), .pointer (some ⟨b + 1, 0, none⟩)]
  | 2 => #[.pointer (some ⟨b + 1, 0, none⟩), .pointer (some ⟨b, 0, none⟩)]
  | 3 => #[.pointer (some ⟨b + 1, 0, none⟩)]
  | _ => #[.pointer (some ⟨b + 1, 0, none⟩)]
def valR (b : Nat) : Array Value := #[.func (.func (valF 0)) #[] (valC b 0), .func (.func (valF 1)) #[] (valC b 1), .func (.func (valF 2)) #[] (valC b 2), .func (.func (valF 3)) #[] (valC b 3), .func (.func (valF 4)) #[] (valC b 4)]
theorem val_run (b k : Nat) (W : World) (hk : k < 5) : (callFunc (valF k) (valC b k)).run Tryz.prog W = .ok (.enter (valF k) (valC b k)) W := by
  obtain rfl | rfl | rfl | rfl | rfl : k = 0 ∨ k = 1 ∨ k = 2 ∨ k = 3 ∨ k = 4 := by omega
  all_goals kernel_rfl
set_option maxRecDepth 100000 in
set_option maxHeartbeats 2000000 in
theorem pub_valid (v : Int) (p : Pk) (a : Ad) (w : World) (hp : PkAt w p a) (sp : Short p) (ok : PkOk p) (hc : p.props.length ≤ a.pc) :
    Calls Tryz.prog 25 #[.int .i64 v, .agg (pkC p a)] w fun e w' => e = .returned (.int .i64 ((validU v p : Nat) : Int)) ∧ Below w.heap.size w w' := by
  have FI := fun (W : World) (hS : PvS w v p a W) (hF : W.heap[w.heap.size + 2]? = some (.cells (valR w.heap.size) 75 (0, 0))) => pub_first (w.heap.size + 2) 5 valF (valC w.heap.size) (fun k W => PvS w v p a W ∧ W.heap[w.heap.size + 2]? = some (.cells (valR w.heap.size) 75 (0, 0)) ∧ firstE ((errsU v p).drop k) = validU v p) (fun r W => PvS w v p a W ∧ r = validU v p) W (by decide)
    (fun k W hk h => by
      rw [cell_of_row _ _ k _ _ _ h.2.1]
      obtain rfl | rfl | rfl | rfl | rfl : k = 0 ∨ k = 1 ∨ k = 2 ∨ k = 3 ∨ k = 4 := by omega
      all_goals rfl)
    (fun k W hk h => by
      have go : ∀ (r : Nat) (F : FuncId) (C : Array Value), Calls Tryz.prog F C W (EndU W r) → (errsU v p).drop k = r :: (errsU v p).drop (k + 1) → Calls Tryz.prog F C W fun e W' => ∃ r : Nat, e = .returned (.int .i64 (r : Int)) ∧ (r = 0 → PvS w v p a W' ∧ W'.heap[w.heap.size + 2]? = some (.cells (valR w.heap.size) 75 (0, 0)) ∧ firstE ((errsU v p).drop (k + 1)) = validU v p) ∧ (r ≠ 0 → PvS w v p a W' ∧ r = validU v p) := fun r F C hC hd => hC.mono fun e W' ⟨he, hb⟩ => by
        have hf := h.2.2
        rw [hd, firstE] at hf
        refine ⟨r, he, fun h0 => ⟨h.1.call hb, (hb.block _ (lt_of_block h.2.1)).trans h.2.1, ?_⟩, fun hne => ⟨h.1.call hb, ?_⟩⟩
        · rw [if_pos h0] at hf; exact hf
        · rw [if_neg hne] at hf; exact hf
      obtain rfl | rfl | rfl | rfl | rfl : k = 0 ∨ k = 1 ∨ k = 2 ∨ k = 3 ∨ k = 4 := by omega
      · exact go _ _ _ (pv_one h.1) rfl
      · exact go _ _ _ (pv_two h.1) rfl
      · exact go _ _ _ (pv_three h.1 hp sp) rfl
      · exact go _ _ _ (pv_four h.1 hp sp ok) rfl
      · exact go _ _ _ (pv_five h.1 hp ok hc) rfl)
    (fun k W hk => val_run _ k W hk) ⟨hS, hF, first_u v p⟩
  have hmf : ∀ (fn : Fn) (f c : Array Value) (w : World), (Instr.makeFunc fn f c).run Tryz.prog w = .ok (.func fn f c) w := fun _ _ _ _ => rfl
  generalize validU v p = R at *
  have FI := Lib.hid FI
  have P0 := Lib.hid (show PvS w v p a ((w.alloc (.cells #[.int .i64 v] 3)).alloc (.cells (pkC p a) 28)) from ⟨below_then (below_box _) (below_box _), heap_alloc2_old _ _ _, heap_alloc2_new _ _ _⟩)
  clear hp sp ok hc
  go_enter Tryz.func25, Tryz.ntmps25
  go_wp2_with fail
  have G2 := heap_alloc_new ((w.alloc (.cells #[.int .i64 v] 3)).alloc (.cells (pkC p a) 28)) (.cells (valR w.heap.size) 75)
  rw [show ((w.alloc (.cells #[.int .i64 v] 3)).alloc (.cells (pkC p a) 28)).heap.size = w.heap.size + 2 by simp] at G2
  refine (FI.out _ (P0.out.call (below_box _)) G2).mono ?_
  rintro e W' ⟨r, rfl, h1, h2⟩
  have HE := Lib.hid (show (r = R ∧ Below w.heap.size w W') by
    by_cases h0 : r = 0
    · obtain ⟨hS, _, hf⟩ := h1 h0
      exact ⟨h0.trans hf, hS.low⟩
    · exact ⟨(h2 h0).2, (h2 h0).1.low⟩)
  clear h1 h2 G2
  go_wp2_with fail
  go_ret
  obtain ⟨hr, hl⟩ := HE.out
  subst hr
  exact ⟨rfl, hl⟩
end Go.Proofs.YtaahhbjnflimnaaGreat
namespace Go.Proofs.YtaahhbjnflimnaaGreat
open Go.RowKit

theorem id_range {p : Pk} (h : idU p = true) : p.qos = 0 ∨ (p.qos ≠ 0 ∧ 0 < p.id ∧ p.id ≤ 65535) := by
  unfold idU at h
  by_cases hq : p.qos = 0
  · exact .inl hq
  · rw [if_neg hq, Bool.and_eq_true, decide_eq_true_eq, decide_eq_true_eq] at h
    exact .inr ⟨hq, h.1, h.2⟩
def idL (p : Pk) : List UInt8 := if p.qos = 0 then [] else be p.id.toNat 2
set_option maxRecDepth 100000 in
theorem pub_id (p : Pk) (a : Ad) (w : World) (hi : idU p = true) : Calls Tryz.prog 74 #[.agg (pkC p a)] w fun e w' => e = .returned (.string (bs (idL p))) ∧ Below w.heap.size w w' := by
  have S0 := Lib.hid (BxS.made w p a)
  have c3 : (w.alloc (.cells (pkC p a) 28)).cell? ⟨w.heap.size, 3, none⟩ = some (.int .i64 p.qos) := S0.out.cell 3
  have c4 : (w.alloc (.cells (pkC p a) 28)).cell? ⟨w.heap.size, 4, none⟩ = some (.int .i64 p.id) := S0.out.cell 4
  unfold idL
  rcases id_range hi with hq | ⟨hq, h0, h1⟩
  · rw [if_pos hq]
    have e1 : (p.qos == 0) = true := by simpa using hq
    clear hq hi
    generalize p.qos = q at *
    go_enter Tryz.func74, Tryz.ntmps74
    go_wp2_with fail
    go_ret
    exact ⟨rfl, S0.out.low⟩
  · rw [if_neg hq]
    have e1 : (p.qos == 0) = false := by simpa using hq
    obtain ⟨n, hn⟩ : ∃ n : Nat, p.id = n := ⟨p.id.toNat, by omega⟩
    rw [hn] at c4 h0 h1 ⊢
    have PU := Lib.hid (fun W => put_any n 2 W (by omega))
    have h2 : (n : Int) < 65536 := by omega
    rw [Int.toNat_natCast]
    clear hq hi hn
    generalize p.qos = q at *
    go_enter Tryz.func74, Tryz.ntmps74
    go_wp2_with fail
    refine (PU.out _).mono ?_
    rintro e W ⟨rfl, hb⟩
    have L := Lib.hid (S0.out.call hb)
    clear hb
    go_wp2_with fail
    go_ret
    exact ⟨rfl, L.out.low⟩
set_option maxRecDepth 100000 in
theorem pub_props (v : Int) (p : Pk) (a : Ad) (w : World) (hp : PkAt w p a) (ok : PkOk p) (hc : p.props.length ≤ a.pc) : Calls Tryz.prog 75 #[.int .i64 v, .agg (pkC p a)] w fun e w' => e = .returned (.string (bs (tailC v 3 p.props))) ∧ Below w.heap.size w w' := by
  have S0 := Lib.hid (BxS.made w p a)
  have c24 : (w.alloc (.cells (pkC p a) 28)).cell? ⟨w.heap.size, 24, none⟩ = some (.slice a.ps p.props.length a.pc) := S0.out.cell 24
  have BY := Lib.hid (bytes_list 3 a.ps p.props.length a.pc p.props (w.alloc (.cells (pkC p a) 28)) (by decide) (by decide) (hp.below S0.out.low).ps rfl hc (fun x hx => (ok.pps x hx).1))
  unfold tailC
  by_cases h5 : v = 5
  · rw [if_pos h5]
    have e1 : (v == 5) = true := by simpa using h5
    have e2 : (v != 5) = false := by simpa using h5
    clear h5 hp ok hc
    go_enter Tryz.func75, Tryz.ntmps75
    go_wp2_with fail
    refine (BY.out).mono ?_
    rintro e W ⟨rfl, hb⟩
    have L := Lib.hid (below_then S0.out.low hb)
    clear hb
    go_wp2_with fail
    go_ret
    exact ⟨rfl, L.out⟩
  · rw [if_neg h5]
    have e1 : (v == 5) = false := by simpa using h5
    have e2 : (v != 5) = true := by simpa using h5
    clear h5 hp ok hc BY
    go_enter Tryz.func75, Tryz.ntmps75
    go_wp2_with fail
    go_ret
    exact ⟨rfl, S0.out.low⟩
theorem raw_u (v : Int) (p : Pk) : rawU v p = enc2 p.topic ++ idL p ++ tailC v 3 p.props ++ p.payload := by simp [rawU, idL]
theorem id_len (p : Pk) : (idL p).length ≤ 2 := by
  unfold idL
  split
  · exact Nat.zero_le _
  · rw [be_length]; exact Nat.le_refl _
theorem raw_u_len {v : Int} {p : Pk} (ok : PkOk p) (h : validU v p = 0) : (enc2 p.topic).length ≤ 65537 ∧ (tailC v 3 p.props).length ≤ 300000000 ∧ p.payload.length ≤ 140737488351232 := by
  obtain ⟨_, _, _, _, _, ht, hp, _⟩ := valid_u h
  have hl := ((validOf_iff _).1 (topic_u ht)).1
  refine ⟨by rw [enc2_length]; omega, ?_, ok.texts _ (by simp [Pk.texts])⟩
  refine tail_len ?_
  unfold rightC
  split
  · exact hp
  · rfl
set_option maxRecDepth 100000 in
set_option maxHeartbeats 2000000 in
theorem pub_body (v : Int) (p : Pk) (a : Ad) (w : World) (hp : PkAt w p a) (sp : Short p) (ok : PkOk p) (hc : p.props.length ≤ a.pc) :
    Calls Tryz.prog 21 #[.int .i64 v, .agg (pkC p a)] w fun e w' => e = .returned (.tuple #[.string (bs (bodyU v p).1), .int .i64 ((bodyU v p).2 : Nat)]) ∧ Below w.heap.size w w' := by
  have S0 := Lib.hid (BxS.made w p a)
  have C1 := Lib.hid (pkC_size p a)
  have VA := fun W (h : BxS w p a W) => pub_valid v p a W (hp.below h.low) sp ok hc
  unfold bodyU
  by_cases hv : validU v p = 0
  · rw [if_neg (by simpa using hv), raw_u]
    rw [hv] at VA
    obtain ⟨l1, l2, l3⟩ := raw_u_len ok hv
    have hi := (valid_u hv).2.2.2.1
    have ht := (valid_u hv).2.2.2.2.2.1
    have l4 := id_len p
    have TX := fun W => text_yes (bs p.topic) W (by rw [bs_data]; exact topic_u ht)
    rw [bs_data] at TX
    have ID := fun W (h : BxS w p a W) => (pub_id p a W hi).mono fun e W' hh => (⟨hh.1, h.call hh.2⟩ : _ ∧ BxS w p a W')
    have PR := fun W (h : BxS w p a W) => (pub_props v p a W (hp.below h.low) ok hc).mono fun e W' hh => (⟨hh.1, h.call hh.2⟩ : _ ∧ BxS w p a W')
    have K5 := Lib.hid (fun W (h : BxS w p a W) => (h.cell 5 : W.cell? ⟨w.heap.size, 5, none⟩ = some (.string (bs p.topic))))
    have e1 : bs (enc2 p.topic) ++ bs (idL p) = bs (enc2 p.topic ++ idL p) := bs_append _ _
    have e2 : bs (enc2 p.topic ++ idL p) ++ bs (tailC v 3 p.props) = bs (enc2 p.topic ++ idL p ++ tailC v 3 p.props) := bs_append _ _
    have e3 : bs (enc2 p.topic ++ idL p ++ tailC v 3 p.props) ++ bs p.payload = bs (enc2 p.topic ++ idL p ++ tailC v 3 p.props ++ p.payload) := bs_append _ _
    have s1 : (bs (enc2 p.topic ++ idL p)).size ≤ 9223372036854775807 := by rw [bs_size]; simp only [List.length_append]; omega
    have s2 : (bs (enc2 p.topic ++ idL p ++ tailC v 3 p.props)).size ≤ 9223372036854775807 := by rw [bs_size]; simp only [List.length_append]; omega
    have s3 : (bs (enc2 p.topic ++ idL p ++ tailC v 3 p.props ++ p.payload)).size ≤ 9223372036854775807 := by rw [bs_size]; simp only [List.length_append]; omega
    have AD := Lib.hid (And.intro (And.intro e1 s1) (And.intro (And.intro e2 s2) (And.intro e3 s3)))
    replace VA := Lib.hid VA
    replace TX := Lib.hid TX
    replace ID := Lib.hid ID
    replace PR := Lib.hid PR
    clear hp sp ok hc hv l1 l2 l3 l4 hi ht e1 e2 e3 s1 s2 s3
    go_enter Tryz.func21, Tryz.ntmps21
    go_wp2_with (refine wpList_load_row rfl _ _ rfl w.heap.size rfl 28 _ (0, 0) _ S0.out.box Tryz.underlying28 rfl (by rw [C1.out]; exact info_pk) ?_)
    refine (VA.out _ S0.out).mono ?_
    rintro e W ⟨rfl, hb⟩
    have S1 := Lib.hid (S0.out.call hb)
    have k5 : W.cell? ⟨w.heap.size, 5, none⟩ = some (.string (bs p.topic)) := K5.out W S1.out
    clear hb S0
    go_wp2_with fail
    refine (TX.out _).mono ?_
    rintro e W2 ⟨rfl, hb⟩
    have S2 := Lib.hid (S1.out.call hb)
    clear hb S1 k5
    go_upto_region 5 with fail
    refine pb_body (S := BxS w p a) (b := w.heap.size) (v := v) (C := pkC p a) S2.out.draw C1.out (fun W h => h.box) (fun W h => h.cell 6) ID.out PR.out AD.out.1.1 AD.out.1.2 AD.out.2.1.1 AD.out.2.1.2 AD.out.2.2.1 AD.out.2.2.2 ?_
    intro W h
    have LO := Lib.hid h.low
    clear h
    go_wp2_with fail
    go_ret2
    exact ⟨rfl, LO.out⟩
  · rw [if_pos hv]
    generalize validU v p = R at *
    have hr1 : ((R : Int) == 0) = false := by simp; omega
    have hr2 : ((R : Int) != 0) = true := by simp; omega
    replace VA := Lib.hid VA
    clear hv hp sp ok hc
    go_enter Tryz.func21, Tryz.ntmps21
    go_wp2_with (refine wpList_load_row rfl _ _ rfl w.heap.size rfl 28 _ (0, 0) _ S0.out.box Tryz.underlying28 rfl (by rw [C1.out]; exact info_pk) ?_)
    refine (VA.out _ S0.out).mono ?_
    rintro e W ⟨rfl, hb⟩
    have LO := Lib.hid (below_then S0.out.low hb)
    clear hb
    go_wp2_with fail
    go_ret2
    exact ⟨rfl, LO.out⟩
end Go.Proofs.YtaahhbjnflimnaaGreat
namespace Go.Proofs.YtaahhbjnflimnaaGreat
open Go.RowKit

def oneU : Pk := { Pk.zero with kind := 3, qos := 1, id := 10, topic := [97, 47, 98], payload := [104, 105] }
theorem plain_at (p : Pk) (W : World) (h : p.wProps = [] ∧ p.codes = [] ∧ p.filters = [] ∧ p.props = []) : PkAt W p adZ :=
  ⟨by rw [h.1]; exact fun e => absurd rfl e, by rw [h.2.1]; exact fun e => absurd rfl e, by rw [h.2.2.1]; exact fun e => absurd rfl e, by rw [h.2.2.2]; exact fun e => absurd rfl e⟩
theorem one_ok : PkOk oneU := by
  refine ⟨by decide, by decide, fun t ht => ?_, fun x hx => (nomatch hx), fun x hx => (nomatch hx), fun x hx => (nomatch hx)⟩
  simp only [Pk.texts, oneU, Pk.zero, List.mem_cons, List.not_mem_nil, or_false] at ht
  rcases ht with rfl | rfl | rfl | rfl | rfl | rfl | rfl <;> decide
theorem one_body (v : Int) (w : World) : Calls Tryz.prog 21 #[.int .i64 v, .agg (pkC oneU adZ)] w fun e w' => e = .returned (.tuple #[.string (bs (bodyU v oneU).1), .int .i64 ((bodyU v oneU).2 : Nat)]) ∧ Below w.heap.size w w' :=
  pub_body v oneU adZ w (plain_at oneU w ⟨rfl, rfl, rfl, rfl⟩) ⟨by decide, by decide, by decide, by decide⟩ one_ok (Nat.zero_le _)
set_option maxRecDepth 100000 in
theorem pub_one (w : World) : Calls Tryz.prog 22 #[] w fun e w' => e = .returned (.agg (pkC oneU adZ)) ∧ Below w.heap.size w w' := by
  obtain ⟨D, hD⟩ : ∃ D, pkC oneU adZ = D := ⟨_, rfl⟩
  have hD1 : D.size = 25 := by rw [← hD]; exact pkC_size _ _
  have hD2 : D.all (·.oneCell') = true := by rw [← hD]; exact pkC_one _ _
  rw [hD]
  have HD := Lib.hid hD
  have HD1 := Lib.hid hD1
  have HD2 := Lib.hid hD2
  have HZ := Lib.hid pkZ_size
  have hzv := zero_pk
  have hne : ¬ pkZ = #[] := by intro h; have := pkZ_size; rw [h] at this; cases this
  have LO := Lib.hid (belowRow (below_box (w := w) (.cells pkZ 28)) (Nat.le_refl _) D)
  clear hD hD1 hD2
  go_enter Tryz.func22, Tryz.ntmps22
  go_wp2_with (first
    | (refine wpList_buildTo rfl 28 _ rfl (some _) rfl D (by rw [← HD.out]; kernel_rfl) ?_)
    | (refine wpList_store_row rfl _ _ _ rfl w.heap.size D rfl rfl 28 _ (heap_alloc_new w _) (by rw [HD1.out]; exact info_pk) (by rw [HZ.out, HD1.out]) HD2.out ?_))
  exact ret_row (cs := D) rfl rfl rfl Tryz.underlying28 rfl (by rw [HD1.out]; exact info_pk) (setRow_heap _ _ _ _ _ _ (heap_alloc_new w _)) ⟨rfl, LO.out⟩
theorem one_raw : bodyU 4 oneU = ([0, 3, 97, 47, 98, 0, 10, 104, 105], 0) := by decide +kernel
set_option maxRecDepth 100000 in
theorem lives_pub (w : World) : Calls Tryz.prog 20 #[] w fun e w' => e = .returned (.bool true) ∧ Below w.heap.size w w' := by
  have BO := fun W => one_body 4 W
  rw [one_raw] at BO
  replace BO := Lib.hid BO
  go_enter Tryz.func20, Tryz.ntmps20
  go_wp2_with fail
  refine (pub_one _).mono ?_
  rintro e W ⟨rfl, hb⟩
  have L1 := Lib.hid hb
  clear hb
  go_wp2_with fail
  refine (BO.out _).mono ?_
  rintro e W2 ⟨rfl, hb⟩
  have L2 := Lib.hid (below_then L1.out hb)
  clear hb
  have hs : ((bs [0, 3, 97, 47, 98, 0, 10, 104, 105]).toList == [0, 3, 97, 47, 98, 0, 10, 104, 105]) = true := by rw [bs_toList]; decide
  go_wp2_with fail
  go_ret
  exact ⟨rfl, L2.out⟩
end Go.Proofs.YtaahhbjnflimnaaGreat
