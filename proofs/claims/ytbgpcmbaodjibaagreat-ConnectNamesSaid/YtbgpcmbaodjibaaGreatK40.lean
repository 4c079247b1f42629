/-
  The contract of connect.Body. Condition: at most 70,000 elements a list, no more than their capacities; the fields are what their types hold.
  What the laws of layer 8 begin with: the chapter's example. No condition.
-/
import Derived.Test.YtbgpcmbaodjibaaGreatK17
import Derived.Test.YtbgpcmbaodjibaaGreatK35
import Derived.Test.YtbgpcmbaodjibaaGreatK36
import Derived.Test.YtbgpcmbaodjibaaGreatK39
namespace Go.Proofs.YtbgpcmbaodjibaaGreat
open Go.RowKit

/-- What stands while connect.Body gathers the parts: the packet in its box, the literal slices that are made. -/
def GhS (w : World) (p : Pk) (a : Ad) (K : Nat → Array Value × TypeId) (x : Nat → Option Nat) (W : World) : Prop :=
  BxS w p a W ∧ ∀ j g, x j = some g → W.heap[g]? = some (.cells (K j).1 (K j).2 (0, 0))
section
variable {w W W' : World} {p : Pk} {a : Ad} {K : Nat → Array Value × TypeId} {x : Nat → Option Nat}
theorem GhS.call (h : GhS w p a K x W) (hb : Below W.heap.size W W') : GhS w p a K x W' :=
  ⟨h.1.call hb, fun j g hg => (hb.block g (lt_of_block (h.2 j g hg))).trans (h.2 j g hg)⟩
theorem GhS.put (h : GhS w p a K x W) (j : Nat) {cs : Array Value} {t : TypeId} (hK : K j = (cs, t)) : GhS w p a K (putG x j W.heap.size) (W.alloc (.cells cs t)) := by
  have h1 := h.call (below_box (.cells cs t))
  refine ⟨h1.1, fun i g hg => ?_⟩
  unfold putG at hg
  cases hi : Nat.beq i j with
  | true =>
    rw [hi] at hg
    obtain rfl := Option.some.inj hg
    obtain rfl := Nat.eq_of_beq_eq_true hi
    rw [hK]
    exact heap_alloc_new W _
  | false => rw [hi] at hg; exact h1.2 i g hg
theorem GhS.begin (h : BxS w p a W) : GhS w p a K (fun _ => none) W.drew := ⟨h.draw, fun _ _ h => by cases h⟩
end
theorem tail_len {v kind : Int} {l : List Pr} (h : rightC v kind l = 0) : (tailC v kind l).length ≤ 300000000 := by
  unfold tailC
  unfold rightC at h
  split
  · rename_i h5
    rw [if_pos h5] at h
    obtain ⟨_, _, _, h4⟩ := valid_parts h
    unfold bytesP
    rw [if_neg (by simpa using h), List.length_append, vb_length]
    have := sz_cases (bodyP l).length h4
    omega
  · exact Nat.zero_le _
theorem strs_cells {W : World} {g : Nat} {ls : List (List UInt8)} {cs : Array Value} (h : W.heap[g]? = some (.cells cs 9 (0, 0))) (hc : cs = (strs ls).toArray) : SR W (some ⟨g, 0, none⟩) ls := fun _ => by
  subst hc
  exact ⟨_, _, rfl, lt_of_block h, fun j hj => by rw [Nat.zero_add]; exact (cell_of_row _ _ j _ _ _ h).trans (strs_get ls j hj)⟩
/-- The literal slices of a CONNACK's body. -/
def ackK (b code : Int) (o t : List UInt8) : Nat → Array Value × TypeId
  | 5 => (#[.int .i64 b, .int .i64 code], 3)
  | 13 => (#[.string (bs o), .string (bs t)], 9)
  | _ => (#[], 0)
set_option maxHeartbeats 2000000 in
set_option maxRecDepth 100000 in
theorem con_body_ack (v : Int) (p : Pk) (a : Ad) (w : World) (hp : PkAt w p a) (sp : Short p) (ok : PkOk p) (ca : PkCap p a) (hv : validC v p = 0) (hk : p.kind = 2) :
    Calls Tryz.prog 8 #[.int .i64 v, pkV p a] w fun e w' => e = .returned (.tuple #[.string (bs (rawC v p)), .int .i64 0]) ∧ Below w.heap.size w w' := by
  have S0 := Lib.hid (BxS.made w p a)
  have VA := fun W (h : BxS w p a W) => con_valid v p a W (hp.below h.low) sp ok ca
  rw [hv] at VA
  have VA := Lib.hid VA
  have C1 := Lib.hid (pkC_size p a)
  obtain ⟨hok, _, _, _, _, _, hr, _⟩ := valid_c hv
  have hc := ((ok_c hok).2.2.2.2.1 hk).1
  have hc2 := code_range hc
  obtain ⟨b, hb⟩ : ∃ b, (if p.session = true then (1 : Int) else 0) = b := ⟨_, rfl⟩
  have hb0 : 0 ≤ b ∧ b < 256 := by rw [← hb]; split <;> decide
  have hbt : UInt8.ofNat b.toNat = UInt8.ofNat (bitC p.session 1) := by rw [← hb]; unfold bitC; split <;> rfl
  have hraw : rawC v p = [UInt8.ofNat b.toNat, UInt8.ofNat p.code.toNat] ++ tailC v 2 p.props := by rw [rawC, if_pos hk, hbt]; rfl
  have htl := tail_len hr
  rw [hk] at htl
  have KB : ∀ x W, GhS w p a (ackK b p.code [UInt8.ofNat b.toNat, UInt8.ofNat p.code.toNat] (tailC v 2 p.props)) x W → W.cell? ⟨w.heap.size, 20, none⟩ = some (.bool p.session) ∧ W.cell? ⟨w.heap.size, 21, none⟩ = some (.int .i64 p.code) ∧ W.cell? ⟨w.heap.size, 0, none⟩ = some (.int .i64 p.kind) ∧ W.cell? ⟨w.heap.size, 24, none⟩ = some (.slice a.ps p.props.length a.pc) := fun x W h => ⟨h.1.cell 20, h.1.cell 21, h.1.cell 0, h.1.cell 24⟩
  have H18 : ∀ (x : Nat → Option Nat) W, GhS w p a (ackK b p.code [UInt8.ofNat b.toNat, UInt8.ofNat p.code.toNat] (tailC v 2 p.props)) x W → Calls Tryz.prog 25 #[.bool p.session, .int .i64 1] W fun e w' => e = .returned (.int .i64 b) ∧ GhS w p a (ackK b p.code [UInt8.ofNat b.toNat, UInt8.ofNat p.code.toNat] (tailC v 2 p.props)) x w' := fun x W h => by
    have := con_bit p.session 1 W
    rw [hb] at this
    exact this.mono fun e w' ⟨he, hw⟩ => ⟨he, hw ▸ h⟩
  have H22 : ∀ (x : Nat → Option Nat) W, GhS w p a (ackK b p.code [UInt8.ofNat b.toNat, UInt8.ofNat p.code.toNat] (tailC v 2 p.props)) x W → (x 5).isSome = true → Calls Tryz.prog 24 #[rowN 2 (x 5)] W fun e w' => e = .returned (.string (bs [UInt8.ofNat b.toNat, UInt8.ofNat p.code.toNat])) ∧ GhS w p a (ackK b p.code [UInt8.ofNat b.toNat, UInt8.ofNat p.code.toNat] (tailC v 2 p.props)) x w' := fun x W h hx => by
    obtain ⟨g, hg⟩ := Option.isSome_iff_exists.1 hx
    rw [hg]
    have hr : W.heap[g]? = some (.cells #[.int .i64 b, .int .i64 p.code] 3 (0, 0)) := h.2 5 g hg
    exact (con_octets g 2 b p.code W (lt_of_block hr) hb0.1 hb0.2 hc2.1 (by omega) (cell_of_row _ _ 0 _ _ _ hr) (cell_of_row _ _ 1 _ _ _ hr)).mono fun e w' ⟨he, hb⟩ => ⟨he, h.call hb⟩
  have H28 : ∀ (x : Nat → Option Nat) W, GhS w p a (ackK b p.code [UInt8.ofNat b.toNat, UInt8.ofNat p.code.toNat] (tailC v 2 p.props)) x W → Calls Tryz.prog 26 #[.int .i64 v, .int .i64 p.kind, .slice a.ps p.props.length a.pc] W fun e w' => e = .returned (.string (bs (tailC v 2 p.props))) ∧ GhS w p a (ackK b p.code [UInt8.ofNat b.toNat, UInt8.ofNat p.code.toNat] (tailC v 2 p.props)) x w' := fun x W h => by
    rw [hk]
    exact (con_props v 2 a.ps p.props.length a.pc p.props W (by decide) (by decide) (hp.below h.1.low).ps rfl ca.pc (fun y hy => (ok.pps y hy).1)).mono fun e w' ⟨he, hb⟩ => ⟨he, h.call hb⟩
  have H30 : ∀ (x : Nat → Option Nat) W, GhS w p a (ackK b p.code [UInt8.ofNat b.toNat, UInt8.ofNat p.code.toNat] (tailC v 2 p.props)) x W → (x 13).isSome = true → Calls Tryz.prog 23 #[rowN 2 (x 13)] W fun e w' => e = .returned (.string (bs (rawC v p))) ∧ GhS w p a (ackK b p.code [UInt8.ofNat b.toNat, UInt8.ofNat p.code.toNat] (tailC v 2 p.props)) x w' := fun x W h hx => by
    obtain ⟨g, hg⟩ := Option.isSome_iff_exists.1 hx
    rw [hg, hraw]
    have hr : W.heap[g]? = some (.cells #[.string (bs [UInt8.ofNat b.toNat, UInt8.ofNat p.code.toNat]), .string (bs (tailC v 2 p.props))] 9 (0, 0)) := h.2 13 g hg
    have := con_join g 0 2 [[UInt8.ofNat b.toNat, UInt8.ofNat p.code.toNat], tailC v 2 p.props] W (strs_cells hr rfl) (by simp) (Nat.le_refl _) (by simp; omega) (by simp)
    have e1 : [[UInt8.ofNat b.toNat, UInt8.ofNat p.code.toNat], tailC v 2 p.props].flatten = [UInt8.ofNat b.toNat, UInt8.ofNat p.code.toNat] ++ tailC v 2 p.props := by simp
    rw [e1] at this
    exact this.mono fun e w' ⟨he, hb⟩ => ⟨he, h.call hb⟩
  have M5 : ∀ (x : Nat → Option Nat) W, GhS w p a (ackK b p.code [UInt8.ofNat b.toNat, UInt8.ofNat p.code.toNat] (tailC v 2 p.props)) x W → GhS w p a (ackK b p.code [UInt8.ofNat b.toNat, UInt8.ofNat p.code.toNat] (tailC v 2 p.props)) (putG x 5 W.heap.size) (W.alloc (.cells #[.int .i64 b, .int .i64 p.code] 3)) := fun x W h => h.put 5 rfl
  have M13 : ∀ (x : Nat → Option Nat) W, GhS w p a (ackK b p.code [UInt8.ofNat b.toNat, UInt8.ofNat p.code.toNat] (tailC v 2 p.props)) x W → GhS w p a (ackK b p.code [UInt8.ofNat b.toNat, UInt8.ofNat p.code.toNat] (tailC v 2 p.props)) (putG x 13 W.heap.size) (W.alloc (.cells #[.string (bs [UInt8.ofNat b.toNat, UInt8.ofNat p.code.toNat]), .string (bs (tailC v 2 p.props))] 9)) := fun x W h => h.put 13 rfl
  have BE : ∀ W, BxS w p a W → GhS w p a (ackK b p.code [UInt8.ofNat b.toNat, UInt8.ofNat p.code.toNat] (tailC v 2 p.props)) (fun _ => none) W.drew := fun W h => GhS.begin h
  have LO : ∀ x W, GhS w p a (ackK b p.code [UInt8.ofNat b.toNat, UInt8.ofNat p.code.toNat] (tailC v 2 p.props)) x W → Below w.heap.size w W := fun x W h => h.1.low
  generalize GhS w p a (ackK b p.code [UInt8.ofNat b.toNat, UInt8.ofNat p.code.toNat] (tailC v 2 p.props)) = S at *
  have KB := Lib.hid KB
  have H18 := Lib.hid H18
  have H22 := Lib.hid H22
  have H28 := Lib.hid H28
  have H30 := Lib.hid H30
  have M5 := Lib.hid M5
  have M13 := Lib.hid M13
  have BE := Lib.hid BE
  have LO := Lib.hid LO
  have HK := Lib.hid hk
  generalize rawC v p = R at *
  unfold pkV
  clear hp sp ok ca hv hok hr hc hc2 hb hb0 hbt hraw htl
  go_enter Tryz.func8, Tryz.ntmps8
  go_wp2_with (refine wpList_load_row rfl _ _ rfl w.heap.size rfl 32 _ (0, 0) _ S0.out.box Tryz.underlying32 rfl (by rw [C1.out]; exact info_pk) ?_)
  refine (VA.out _ S0.out).mono ?_
  rintro e W ⟨rfl, hb⟩
  have S1 := Lib.hid (S0.out.call hb)
  clear hb
  have k0 : W.cell? ⟨w.heap.size, 0, none⟩ = some (.int .i64 p.kind) := S1.out.cell 0
  rw [HK.out] at k0
  go_upto_region 5 with fail
  refine body_ack (S := S) (B := w.heap.size) (BE.out _ S1.out) (fun x w h => (KB.out x w h).2.2.1) (fun x w h => (KB.out x w h).1) (fun x w h => (KB.out x w h).2.1) (fun x w h => (KB.out x w h).2.2.2) M5.out M13.out H18.out H22.out H28.out H30.out ?_
  intro x r5 r13 W2 hS
  have L2 := Lib.hid (LO.out x W2 hS)
  clear hS
  go_wp2_with fail
  go_ret2
  exact ⟨rfl, L2.out⟩
/-- The literal slices of a CONNECT's body. -/
def conK (v : Int) (F : Nat) (cl wt wp us pa k t tw : List UInt8) (hw hu ha : Bool) : Nat → Array Value × TypeId
  | 3 => (#[.int .i64 v, .int .i64 F], 3)
  | 17 => (#[.string (bs cl)], 9)
  | 32 => (#[.string (bs wt), .string (bs wp)], 9)
  | 34 => (#[.string (bs tw), .string (bs (enc2 wt ++ enc2 wp))], 9)
  | 40 => (#[.string (bs us)], 9)
  | 42 => (#[.string (bs (enc2 us))], 9)
  | 48 => (#[.string (bs pa)], 9)
  | 50 => (#[.string (bs (enc2 pa))], 9)
  | 52 => (#[.string ⟨#[0, 4, 77, 81, 84, 84]⟩, .string (bs [UInt8.ofNat v.toNat, UInt8.ofNat F]), .string (bs k), .string (bs t), .string (bs (enc2 cl)), .string (bs (if hw then tw ++ (enc2 wt ++ enc2 wp) else [])), .string (bs (if hu then enc2 us else [])), .string (bs (if ha then enc2 pa else []))], 9)
  | _ => (#[], 0)
/-- What a valid CONNECT is, for its body. -/
theorem con_facts {v : Int} {p : Pk} (hv : validC v p = 0) (hk : p.kind = 1) : (v = 4 ∨ v = 5) ∧ flagsC p < 256 ∧ (0 ≤ p.keep ∧ p.keep ≤ 65535) ∧ p.client.length ≤ 65535 ∧ p.user.length ≤ 65535 ∧ p.wTopic.length ≤ 65535 ∧ p.wPayload.length ≤ 65535 ∧ p.pass.length ≤ 65535 ∧
    (tailC v 1 p.props).length ≤ 300000000 ∧ (tailC v 16 p.wProps).length ≤ 300000000 := by
  obtain ⟨hok, h1, h2, h3, h4, h5, hr, hw⟩ := valid_c hv
  obtain ⟨g1, g2, g3, g4, g5, g6⟩ := ok_c hok
  obtain ⟨g7, g8, g9⟩ := g6 hk
  rw [hk] at hr
  refine ⟨g1, ?_, g8, ((validOf_iff _).1 h1).1, ((validOf_iff _).1 h2).1, ?_, h4, h5, tail_len hr, tail_len hw⟩
  · have hq : p.wQos = (p.wQos.toNat : Int) := by omega
    rw [flags_fl hk hq (by omega)]
    exact (fl_facts _ _ _ _ _ (by omega)).1
  · cases hw : p.hasWill with
    | true => exact ((validOf_iff _).1 (name_valid (h3 hw))).1
    | false =>
      have : p.wTopic = [] := by rw [g3]; unfold usedC; rw [if_neg (by omega)]; simp [hw]
      rw [this]; decide
set_option maxHeartbeats 2000000 in
set_option maxRecDepth 100000 in
theorem con_body_con (v : Int) (p : Pk) (a : Ad) (w : World) (hp : PkAt w p a) (sp : Short p) (ok : PkOk p) (ca : PkCap p a) (hv : validC v p = 0) (hk : p.kind = 1) :
    Calls Tryz.prog 8 #[.int .i64 v, pkV p a] w fun e w' => e = .returned (.tuple #[.string (bs (rawC v p)), .int .i64 0]) ∧ Below w.heap.size w w' := by
  have S0 := Lib.hid (BxS.made w p a)
  have VA := fun W (h : BxS w p a W) => con_valid v p a W (hp.below h.low) sp ok ca
  rw [hv] at VA
  have VA := Lib.hid VA
  have C1 := Lib.hid (pkC_size p a)
  obtain ⟨f1, f2, f3, l1, l2, l3, l4, l5, l6, l7⟩ := con_facts hv hk
  obtain ⟨F, hF⟩ : ∃ F, flagsC p = F := ⟨_, rfl⟩
  rw [hF] at f2
  have hraw : rawC v p = [[0, 4, 77, 81, 84, 84], [UInt8.ofNat v.toNat, UInt8.ofNat F], be p.keep.toNat 2, tailC v 1 p.props, enc2 p.client, (if p.hasWill then tailC v 16 p.wProps ++ (enc2 p.wTopic ++ enc2 p.wPayload) else []), (if p.hasUser then enc2 p.user else []), (if p.hasPass then enc2 p.pass else [])].flatten := by
    rw [rawC, if_neg (by omega), hF]
    have e6 : enc2 mqttL = [0, 4, 77, 81, 84, 84] := by decide
    rw [e6]
    simp
  have H33 : ∀ (x : Nat → Option Nat) W, GhS w p a (conK v F p.client p.wTopic p.wPayload p.user p.pass (be p.keep.toNat 2) (tailC v 1 p.props) (tailC v 16 p.wProps) p.hasWill p.hasUser p.hasPass) x W → Calls Tryz.prog 12 #[.agg (pkC p a)] W fun e w' => e = .returned (.int .i64 (F : Int)) ∧ GhS w p a (conK v F p.client p.wTopic p.wPayload p.user p.pass (be p.keep.toNat 2) (tailC v 1 p.props) (tailC v 16 p.wProps) p.hasWill p.hasUser p.hasPass) x w' := fun x W h => by
    have := con_flags p a W
    rw [hF] at this
    exact this.mono fun e w' ⟨he, hb⟩ => ⟨he, h.call hb⟩
  have H35 : ∀ (x : Nat → Option Nat) W, GhS w p a (conK v F p.client p.wTopic p.wPayload p.user p.pass (be p.keep.toNat 2) (tailC v 1 p.props) (tailC v 16 p.wProps) p.hasWill p.hasUser p.hasPass) x W → (x 3).isSome = true → Calls Tryz.prog 24 #[rowN 2 (x 3)] W fun e w' => e = .returned (.string (bs [UInt8.ofNat v.toNat, UInt8.ofNat F])) ∧ GhS w p a (conK v F p.client p.wTopic p.wPayload p.user p.pass (be p.keep.toNat 2) (tailC v 1 p.props) (tailC v 16 p.wProps) p.hasWill p.hasUser p.hasPass) x w' := fun x W h hx => by
    obtain ⟨g, hg⟩ := Option.isSome_iff_exists.1 hx
    rw [hg]
    have hr : W.heap[g]? = some (.cells #[.int .i64 v, .int .i64 F] 3 (0, 0)) := h.2 3 g hg
    have := con_octets g 2 v F W (lt_of_block hr) (by omega) (by omega) (by omega) (by omega) (cell_of_row _ _ 0 _ _ _ hr) (cell_of_row _ _ 1 _ _ _ hr)
    rw [Int.toNat_natCast] at this
    exact this.mono fun e w' ⟨he, hb⟩ => ⟨he, h.call hb⟩
  have H39 : ∀ (x : Nat → Option Nat) W, GhS w p a (conK v F p.client p.wTopic p.wPayload p.user p.pass (be p.keep.toNat 2) (tailC v 1 p.props) (tailC v 16 p.wProps) p.hasWill p.hasUser p.hasPass) x W → Calls Tryz.prog 27 #[.int .u64 p.keep, .int .i64 2] W fun e w' => e = .returned (.string (bs (be p.keep.toNat 2))) ∧ GhS w p a (conK v F p.client p.wTopic p.wPayload p.user p.pass (be p.keep.toNat 2) (tailC v 1 p.props) (tailC v 16 p.wProps) p.hasWill p.hasUser p.hasPass) x w' := fun x W h => by
    have := put_any p.keep.toNat 2 W (by omega)
    rw [show (min (2 : Int) 16).toNat = 2 by decide, show ((p.keep.toNat : Nat) : Int) = p.keep by omega] at this
    exact this.mono fun e w' ⟨he, hb⟩ => ⟨he, h.call hb⟩
  have H45 : ∀ (x : Nat → Option Nat) W, GhS w p a (conK v F p.client p.wTopic p.wPayload p.user p.pass (be p.keep.toNat 2) (tailC v 1 p.props) (tailC v 16 p.wProps) p.hasWill p.hasUser p.hasPass) x W → Calls Tryz.prog 26 #[.int .i64 v, .int .i64 p.kind, .slice a.ps p.props.length a.pc] W fun e w' => e = .returned (.string (bs (tailC v 1 p.props))) ∧ GhS w p a (conK v F p.client p.wTopic p.wPayload p.user p.pass (be p.keep.toNat 2) (tailC v 1 p.props) (tailC v 16 p.wProps) p.hasWill p.hasUser p.hasPass) x w' := fun x W h => by
    rw [hk]
    exact (con_props v 1 a.ps p.props.length a.pc p.props W (by decide) (by decide) (hp.below h.1.low).ps rfl ca.pc (fun y hy => (ok.pps y hy).1)).mono fun e w' ⟨he, hb⟩ => ⟨he, h.call hb⟩
  have H49 : ∀ (x : Nat → Option Nat) W, GhS w p a (conK v F p.client p.wTopic p.wPayload p.user p.pass (be p.keep.toNat 2) (tailC v 1 p.props) (tailC v 16 p.wProps) p.hasWill p.hasUser p.hasPass) x W → (x 17).isSome = true → Calls Tryz.prog 28 #[rowN 1 (x 17)] W fun e w' => e = .returned (.string (bs (enc2 p.client))) ∧ GhS w p a (conK v F p.client p.wTopic p.wPayload p.user p.pass (be p.keep.toNat 2) (tailC v 1 p.props) (tailC v 16 p.wProps) p.hasWill p.hasUser p.hasPass) x w' := fun x W h hx => by
    obtain ⟨g, hg⟩ := Option.isSome_iff_exists.1 hx
    rw [hg]
    have hr : W.heap[g]? = some (.cells #[.string (bs p.client)] 9 (0, 0)) := h.2 17 g hg
    exact (con_piece1 g 1 p.client W (lt_of_block hr) l1 (cell_of_row _ _ 0 _ _ _ hr)).mono fun e w' ⟨he, hb⟩ => ⟨he, h.call hb⟩
  have H56 : ∀ (x : Nat → Option Nat) W, GhS w p a (conK v F p.client p.wTopic p.wPayload p.user p.pass (be p.keep.toNat 2) (tailC v 1 p.props) (tailC v 16 p.wProps) p.hasWill p.hasUser p.hasPass) x W → Calls Tryz.prog 26 #[.int .i64 v, .int .i64 16, .slice a.w p.wProps.length a.wc] W fun e w' => e = .returned (.string (bs (tailC v 16 p.wProps))) ∧ GhS w p a (conK v F p.client p.wTopic p.wPayload p.user p.pass (be p.keep.toNat 2) (tailC v 1 p.props) (tailC v 16 p.wProps) p.hasWill p.hasUser p.hasPass) x w' := fun x W h => by
    exact (con_props v 16 a.w p.wProps.length a.wc p.wProps W (by decide) (by decide) (hp.below h.1.low).w rfl ca.wc (fun y hy => (ok.wps y hy).1)).mono fun e w' ⟨he, hb⟩ => ⟨he, h.call hb⟩
  have H64 : ∀ (x : Nat → Option Nat) W, GhS w p a (conK v F p.client p.wTopic p.wPayload p.user p.pass (be p.keep.toNat 2) (tailC v 1 p.props) (tailC v 16 p.wProps) p.hasWill p.hasUser p.hasPass) x W → (x 32).isSome = true → Calls Tryz.prog 28 #[rowN 2 (x 32)] W fun e w' => e = .returned (.string (bs (enc2 p.wTopic ++ enc2 p.wPayload))) ∧ GhS w p a (conK v F p.client p.wTopic p.wPayload p.user p.pass (be p.keep.toNat 2) (tailC v 1 p.props) (tailC v 16 p.wProps) p.hasWill p.hasUser p.hasPass) x w' := fun x W h hx => by
    obtain ⟨g, hg⟩ := Option.isSome_iff_exists.1 hx
    rw [hg]
    have hr : W.heap[g]? = some (.cells #[.string (bs p.wTopic), .string (bs p.wPayload)] 9 (0, 0)) := h.2 32 g hg
    exact (con_piece2 g 2 p.wTopic p.wPayload W (lt_of_block hr) l3 l4 (cell_of_row _ _ 0 _ _ _ hr) (cell_of_row _ _ 1 _ _ _ hr)).mono fun e w' ⟨he, hb⟩ => ⟨he, h.call hb⟩
  have H66 : ∀ (x : Nat → Option Nat) W, GhS w p a (conK v F p.client p.wTopic p.wPayload p.user p.pass (be p.keep.toNat 2) (tailC v 1 p.props) (tailC v 16 p.wProps) p.hasWill p.hasUser p.hasPass) x W → (x 34).isSome = true → Calls Tryz.prog 29 #[.bool p.hasWill, rowN 2 (x 34)] W fun e w' => e = .returned (.string (bs (if p.hasWill then tailC v 16 p.wProps ++ (enc2 p.wTopic ++ enc2 p.wPayload) else []))) ∧ GhS w p a (conK v F p.client p.wTopic p.wPayload p.user p.pass (be p.keep.toNat 2) (tailC v 1 p.props) (tailC v 16 p.wProps) p.hasWill p.hasUser p.hasPass) x w' := fun x W h hx => by
    obtain ⟨g, hg⟩ := Option.isSome_iff_exists.1 hx
    rw [hg]
    have hr : W.heap[g]? = some (.cells #[.string (bs (tailC v 16 p.wProps)), .string (bs (enc2 p.wTopic ++ enc2 p.wPayload))] 9 (0, 0)) := h.2 34 g hg
    have := con_when p.hasWill g 0 2 [tailC v 16 p.wProps, enc2 p.wTopic ++ enc2 p.wPayload] W (strs_cells hr rfl) (by simp) (Nat.le_refl _) (by simp [enc2_length]; omega) (by simp)
    rw [show [tailC v 16 p.wProps, enc2 p.wTopic ++ enc2 p.wPayload].flatten = tailC v 16 p.wProps ++ (enc2 p.wTopic ++ enc2 p.wPayload) by simp] at this
    exact this.mono fun e w' ⟨he, hb⟩ => ⟨he, h.call hb⟩
  have H72 : ∀ (x : Nat → Option Nat) W, GhS w p a (conK v F p.client p.wTopic p.wPayload p.user p.pass (be p.keep.toNat 2) (tailC v 1 p.props) (tailC v 16 p.wProps) p.hasWill p.hasUser p.hasPass) x W → (x 40).isSome = true → Calls Tryz.prog 28 #[rowN 1 (x 40)] W fun e w' => e = .returned (.string (bs (enc2 p.user))) ∧ GhS w p a (conK v F p.client p.wTopic p.wPayload p.user p.pass (be p.keep.toNat 2) (tailC v 1 p.props) (tailC v 16 p.wProps) p.hasWill p.hasUser p.hasPass) x w' := fun x W h hx => by
    obtain ⟨g, hg⟩ := Option.isSome_iff_exists.1 hx
    rw [hg]
    have hr : W.heap[g]? = some (.cells #[.string (bs p.user)] 9 (0, 0)) := h.2 40 g hg
    exact (con_piece1 g 1 p.user W (lt_of_block hr) l2 (cell_of_row _ _ 0 _ _ _ hr)).mono fun e w' ⟨he, hb⟩ => ⟨he, h.call hb⟩
  have H74 : ∀ (x : Nat → Option Nat) W, GhS w p a (conK v F p.client p.wTopic p.wPayload p.user p.pass (be p.keep.toNat 2) (tailC v 1 p.props) (tailC v 16 p.wProps) p.hasWill p.hasUser p.hasPass) x W → (x 42).isSome = true → Calls Tryz.prog 29 #[.bool p.hasUser, rowN 1 (x 42)] W fun e w' => e = .returned (.string (bs (if p.hasUser then enc2 p.user else []))) ∧ GhS w p a (conK v F p.client p.wTopic p.wPayload p.user p.pass (be p.keep.toNat 2) (tailC v 1 p.props) (tailC v 16 p.wProps) p.hasWill p.hasUser p.hasPass) x w' := fun x W h hx => by
    obtain ⟨g, hg⟩ := Option.isSome_iff_exists.1 hx
    rw [hg]
    have hr : W.heap[g]? = some (.cells #[.string (bs (enc2 p.user))] 9 (0, 0)) := h.2 42 g hg
    have := con_when p.hasUser g 0 1 [enc2 p.user] W (strs_cells hr rfl) (by simp) (Nat.le_refl _) (by simp [enc2_length]; omega) (by simp)
    rw [show [enc2 p.user].flatten = enc2 p.user by simp] at this
    exact this.mono fun e w' ⟨he, hb⟩ => ⟨he, h.call hb⟩
  have H80 : ∀ (x : Nat → Option Nat) W, GhS w p a (conK v F p.client p.wTopic p.wPayload p.user p.pass (be p.keep.toNat 2) (tailC v 1 p.props) (tailC v 16 p.wProps) p.hasWill p.hasUser p.hasPass) x W → (x 48).isSome = true → Calls Tryz.prog 28 #[rowN 1 (x 48)] W fun e w' => e = .returned (.string (bs (enc2 p.pass))) ∧ GhS w p a (conK v F p.client p.wTopic p.wPayload p.user p.pass (be p.keep.toNat 2) (tailC v 1 p.props) (tailC v 16 p.wProps) p.hasWill p.hasUser p.hasPass) x w' := fun x W h hx => by
    obtain ⟨g, hg⟩ := Option.isSome_iff_exists.1 hx
    rw [hg]
    have hr : W.heap[g]? = some (.cells #[.string (bs p.pass)] 9 (0, 0)) := h.2 48 g hg
    exact (con_piece1 g 1 p.pass W (lt_of_block hr) l5 (cell_of_row _ _ 0 _ _ _ hr)).mono fun e w' ⟨he, hb⟩ => ⟨he, h.call hb⟩
  have H82 : ∀ (x : Nat → Option Nat) W, GhS w p a (conK v F p.client p.wTopic p.wPayload p.user p.pass (be p.keep.toNat 2) (tailC v 1 p.props) (tailC v 16 p.wProps) p.hasWill p.hasUser p.hasPass) x W → (x 50).isSome = true → Calls Tryz.prog 29 #[.bool p.hasPass, rowN 1 (x 50)] W fun e w' => e = .returned (.string (bs (if p.hasPass then enc2 p.pass else []))) ∧ GhS w p a (conK v F p.client p.wTopic p.wPayload p.user p.pass (be p.keep.toNat 2) (tailC v 1 p.props) (tailC v 16 p.wProps) p.hasWill p.hasUser p.hasPass) x w' := fun x W h hx => by
    obtain ⟨g, hg⟩ := Option.isSome_iff_exists.1 hx
    rw [hg]
    have hr : W.heap[g]? = some (.cells #[.string (bs (enc2 p.pass))] 9 (0, 0)) := h.2 50 g hg
    have := con_when p.hasPass g 0 1 [enc2 p.pass] W (strs_cells hr rfl) (by simp) (Nat.le_refl _) (by simp [enc2_length]; omega) (by simp)
    rw [show [enc2 p.pass].flatten = enc2 p.pass by simp] at this
    exact this.mono fun e w' ⟨he, hb⟩ => ⟨he, h.call hb⟩
  have H84 : ∀ (x : Nat → Option Nat) W, GhS w p a (conK v F p.client p.wTopic p.wPayload p.user p.pass (be p.keep.toNat 2) (tailC v 1 p.props) (tailC v 16 p.wProps) p.hasWill p.hasUser p.hasPass) x W → (x 52).isSome = true → Calls Tryz.prog 23 #[rowN 8 (x 52)] W fun e w' => e = .returned (.string (bs (rawC v p))) ∧ GhS w p a (conK v F p.client p.wTopic p.wPayload p.user p.pass (be p.keep.toNat 2) (tailC v 1 p.props) (tailC v 16 p.wProps) p.hasWill p.hasUser p.hasPass) x w' := fun x W h hx => by
    obtain ⟨g, hg⟩ := Option.isSome_iff_exists.1 hx
    rw [hg]
    have hr : W.heap[g]? = some (.cells #[.string ⟨#[0, 4, 77, 81, 84, 84]⟩, .string (bs [UInt8.ofNat v.toNat, UInt8.ofNat F]), .string (bs (be p.keep.toNat 2)), .string (bs (tailC v 1 p.props)), .string (bs (enc2 p.client)), .string (bs (if p.hasWill then tailC v 16 p.wProps ++ (enc2 p.wTopic ++ enc2 p.wPayload) else [])), .string (bs (if p.hasUser then enc2 p.user else [])), .string (bs (if p.hasPass then enc2 p.pass else []))] 9 (0, 0)) := h.2 52 g hg
    have hz : (if p.hasWill then tailC v 16 p.wProps ++ (enc2 p.wTopic ++ enc2 p.wPayload) else []).length ≤ 400000000 := by split <;> simp [enc2_length] <;> omega
    have hu : (if p.hasUser then enc2 p.user else []).length ≤ 70000 := by split <;> simp [enc2_length] <;> omega
    have ha : (if p.hasPass then enc2 p.pass else []).length ≤ 70000 := by split <;> simp [enc2_length] <;> omega
    have hc : (enc2 p.client).length ≤ 70000 := by rw [enc2_length]; omega
    have hb2 : (be p.keep.toNat 2).length = 2 := be_length 2 _
    have hl : [[0, 4, 77, 81, 84, 84], [UInt8.ofNat v.toNat, UInt8.ofNat F], be p.keep.toNat 2, tailC v 1 p.props, enc2 p.client, (if p.hasWill then tailC v 16 p.wProps ++ (enc2 p.wTopic ++ enc2 p.wPayload) else []), (if p.hasUser then enc2 p.user else []), (if p.hasPass then enc2 p.pass else [])].flatten.length ≤ 4000000000 := by
      generalize (if p.hasWill then tailC v 16 p.wProps ++ (enc2 p.wTopic ++ enc2 p.wPayload) else []) = z1 at *
      generalize (if p.hasUser then enc2 p.user else []) = z2 at *
      generalize (if p.hasPass then enc2 p.pass else []) = z3 at *
      generalize enc2 p.client = z4 at *
      generalize be p.keep.toNat 2 = z5 at *
      simp
      omega
    have := con_join g 0 8 [[0, 4, 77, 81, 84, 84], [UInt8.ofNat v.toNat, UInt8.ofNat F], be p.keep.toNat 2, tailC v 1 p.props, enc2 p.client, (if p.hasWill then tailC v 16 p.wProps ++ (enc2 p.wTopic ++ enc2 p.wPayload) else []), (if p.hasUser then enc2 p.user else []), (if p.hasPass then enc2 p.pass else [])] W (strs_cells hr rfl) (by simp) (Nat.le_refl _) hl (by simp)
    rw [← hraw] at this
    exact this.mono fun e w' ⟨he, hb⟩ => ⟨he, h.call hb⟩
  have M3 : ∀ (x : Nat → Option Nat) W, GhS w p a (conK v F p.client p.wTopic p.wPayload p.user p.pass (be p.keep.toNat 2) (tailC v 1 p.props) (tailC v 16 p.wProps) p.hasWill p.hasUser p.hasPass) x W → GhS w p a (conK v F p.client p.wTopic p.wPayload p.user p.pass (be p.keep.toNat 2) (tailC v 1 p.props) (tailC v 16 p.wProps) p.hasWill p.hasUser p.hasPass) (putG x 3 W.heap.size) (W.alloc (.cells #[.int .i64 v, .int .i64 (F : Int)] 3)) := fun x W h => h.put 3 rfl
  have M17 : ∀ (x : Nat → Option Nat) W, GhS w p a (conK v F p.client p.wTopic p.wPayload p.user p.pass (be p.keep.toNat 2) (tailC v 1 p.props) (tailC v 16 p.wProps) p.hasWill p.hasUser p.hasPass) x W → GhS w p a (conK v F p.client p.wTopic p.wPayload p.user p.pass (be p.keep.toNat 2) (tailC v 1 p.props) (tailC v 16 p.wProps) p.hasWill p.hasUser p.hasPass) (putG x 17 W.heap.size) (W.alloc (.cells #[.string (bs p.client)] 9)) := fun x W h => h.put 17 rfl
  have M32 : ∀ (x : Nat → Option Nat) W, GhS w p a (conK v F p.client p.wTopic p.wPayload p.user p.pass (be p.keep.toNat 2) (tailC v 1 p.props) (tailC v 16 p.wProps) p.hasWill p.hasUser p.hasPass) x W → GhS w p a (conK v F p.client p.wTopic p.wPayload p.user p.pass (be p.keep.toNat 2) (tailC v 1 p.props) (tailC v 16 p.wProps) p.hasWill p.hasUser p.hasPass) (putG x 32 W.heap.size) (W.alloc (.cells #[.string (bs p.wTopic), .string (bs p.wPayload)] 9)) := fun x W h => h.put 32 rfl
  have M34 : ∀ (x : Nat → Option Nat) W, GhS w p a (conK v F p.client p.wTopic p.wPayload p.user p.pass (be p.keep.toNat 2) (tailC v 1 p.props) (tailC v 16 p.wProps) p.hasWill p.hasUser p.hasPass) x W → GhS w p a (conK v F p.client p.wTopic p.wPayload p.user p.pass (be p.keep.toNat 2) (tailC v 1 p.props) (tailC v 16 p.wProps) p.hasWill p.hasUser p.hasPass) (putG x 34 W.heap.size) (W.alloc (.cells #[.string (bs (tailC v 16 p.wProps)), .string (bs (enc2 p.wTopic ++ enc2 p.wPayload))] 9)) := fun x W h => h.put 34 rfl
  have M40 : ∀ (x : Nat → Option Nat) W, GhS w p a (conK v F p.client p.wTopic p.wPayload p.user p.pass (be p.keep.toNat 2) (tailC v 1 p.props) (tailC v 16 p.wProps) p.hasWill p.hasUser p.hasPass) x W → GhS w p a (conK v F p.client p.wTopic p.wPayload p.user p.pass (be p.keep.toNat 2) (tailC v 1 p.props) (tailC v 16 p.wProps) p.hasWill p.hasUser p.hasPass) (putG x 40 W.heap.size) (W.alloc (.cells #[.string (bs p.user)] 9)) := fun x W h => h.put 40 rfl
  have M42 : ∀ (x : Nat → Option Nat) W, GhS w p a (conK v F p.client p.wTopic p.wPayload p.user p.pass (be p.keep.toNat 2) (tailC v 1 p.props) (tailC v 16 p.wProps) p.hasWill p.hasUser p.hasPass) x W → GhS w p a (conK v F p.client p.wTopic p.wPayload p.user p.pass (be p.keep.toNat 2) (tailC v 1 p.props) (tailC v 16 p.wProps) p.hasWill p.hasUser p.hasPass) (putG x 42 W.heap.size) (W.alloc (.cells #[.string (bs (enc2 p.user))] 9)) := fun x W h => h.put 42 rfl
  have M48 : ∀ (x : Nat → Option Nat) W, GhS w p a (conK v F p.client p.wTopic p.wPayload p.user p.pass (be p.keep.toNat 2) (tailC v 1 p.props) (tailC v 16 p.wProps) p.hasWill p.hasUser p.hasPass) x W → GhS w p a (conK v F p.client p.wTopic p.wPayload p.user p.pass (be p.keep.toNat 2) (tailC v 1 p.props) (tailC v 16 p.wProps) p.hasWill p.hasUser p.hasPass) (putG x 48 W.heap.size) (W.alloc (.cells #[.string (bs p.pass)] 9)) := fun x W h => h.put 48 rfl
  have M50 : ∀ (x : Nat → Option Nat) W, GhS w p a (conK v F p.client p.wTopic p.wPayload p.user p.pass (be p.keep.toNat 2) (tailC v 1 p.props) (tailC v 16 p.wProps) p.hasWill p.hasUser p.hasPass) x W → GhS w p a (conK v F p.client p.wTopic p.wPayload p.user p.pass (be p.keep.toNat 2) (tailC v 1 p.props) (tailC v 16 p.wProps) p.hasWill p.hasUser p.hasPass) (putG x 50 W.heap.size) (W.alloc (.cells #[.string (bs (enc2 p.pass))] 9)) := fun x W h => h.put 50 rfl
  have M52 : ∀ (x : Nat → Option Nat) W, GhS w p a (conK v F p.client p.wTopic p.wPayload p.user p.pass (be p.keep.toNat 2) (tailC v 1 p.props) (tailC v 16 p.wProps) p.hasWill p.hasUser p.hasPass) x W → GhS w p a (conK v F p.client p.wTopic p.wPayload p.user p.pass (be p.keep.toNat 2) (tailC v 1 p.props) (tailC v 16 p.wProps) p.hasWill p.hasUser p.hasPass) (putG x 52 W.heap.size) (W.alloc (.cells #[.string ⟨#[0, 4, 77, 81, 84, 84]⟩, .string (bs [UInt8.ofNat v.toNat, UInt8.ofNat F]), .string (bs (be p.keep.toNat 2)), .string (bs (tailC v 1 p.props)), .string (bs (enc2 p.client)), .string (bs (if p.hasWill then tailC v 16 p.wProps ++ (enc2 p.wTopic ++ enc2 p.wPayload) else [])), .string (bs (if p.hasUser then enc2 p.user else [])), .string (bs (if p.hasPass then enc2 p.pass else []))] 9)) := fun x W h => h.put 52 rfl
  have K0 : ∀ x W, GhS w p a (conK v F p.client p.wTopic p.wPayload p.user p.pass (be p.keep.toNat 2) (tailC v 1 p.props) (tailC v 16 p.wProps) p.hasWill p.hasUser p.hasPass) x W → W.cell? ⟨w.heap.size, 0, none⟩ = some (.int .i64 p.kind) := fun x W h => h.1.cell 0
  have K8 : ∀ x W, GhS w p a (conK v F p.client p.wTopic p.wPayload p.user p.pass (be p.keep.toNat 2) (tailC v 1 p.props) (tailC v 16 p.wProps) p.hasWill p.hasUser p.hasPass) x W → W.cell? ⟨w.heap.size, 8, none⟩ = some (.int .i64 p.keep) := fun x W h => h.1.cell 8
  have K9 : ∀ x W, GhS w p a (conK v F p.client p.wTopic p.wPayload p.user p.pass (be p.keep.toNat 2) (tailC v 1 p.props) (tailC v 16 p.wProps) p.hasWill p.hasUser p.hasPass) x W → W.cell? ⟨w.heap.size, 9, none⟩ = some (.string (bs p.client)) := fun x W h => h.1.cell 9
  have K10 : ∀ x W, GhS w p a (conK v F p.client p.wTopic p.wPayload p.user p.pass (be p.keep.toNat 2) (tailC v 1 p.props) (tailC v 16 p.wProps) p.hasWill p.hasUser p.hasPass) x W → W.cell? ⟨w.heap.size, 10, none⟩ = some (.bool p.hasUser) := fun x W h => h.1.cell 10
  have K11 : ∀ x W, GhS w p a (conK v F p.client p.wTopic p.wPayload p.user p.pass (be p.keep.toNat 2) (tailC v 1 p.props) (tailC v 16 p.wProps) p.hasWill p.hasUser p.hasPass) x W → W.cell? ⟨w.heap.size, 11, none⟩ = some (.string (bs p.user)) := fun x W h => h.1.cell 11
  have K12 : ∀ x W, GhS w p a (conK v F p.client p.wTopic p.wPayload p.user p.pass (be p.keep.toNat 2) (tailC v 1 p.props) (tailC v 16 p.wProps) p.hasWill p.hasUser p.hasPass) x W → W.cell? ⟨w.heap.size, 12, none⟩ = some (.bool p.hasPass) := fun x W h => h.1.cell 12
  have K13 : ∀ x W, GhS w p a (conK v F p.client p.wTopic p.wPayload p.user p.pass (be p.keep.toNat 2) (tailC v 1 p.props) (tailC v 16 p.wProps) p.hasWill p.hasUser p.hasPass) x W → W.cell? ⟨w.heap.size, 13, none⟩ = some (.string (bs p.pass)) := fun x W h => h.1.cell 13
  have K14 : ∀ x W, GhS w p a (conK v F p.client p.wTopic p.wPayload p.user p.pass (be p.keep.toNat 2) (tailC v 1 p.props) (tailC v 16 p.wProps) p.hasWill p.hasUser p.hasPass) x W → W.cell? ⟨w.heap.size, 14, none⟩ = some (.bool p.hasWill) := fun x W h => h.1.cell 14
  have K15 : ∀ x W, GhS w p a (conK v F p.client p.wTopic p.wPayload p.user p.pass (be p.keep.toNat 2) (tailC v 1 p.props) (tailC v 16 p.wProps) p.hasWill p.hasUser p.hasPass) x W → W.cell? ⟨w.heap.size, 15, none⟩ = some (.string (bs p.wTopic)) := fun x W h => h.1.cell 15
  have K16 : ∀ x W, GhS w p a (conK v F p.client p.wTopic p.wPayload p.user p.pass (be p.keep.toNat 2) (tailC v 1 p.props) (tailC v 16 p.wProps) p.hasWill p.hasUser p.hasPass) x W → W.cell? ⟨w.heap.size, 16, none⟩ = some (.string (bs p.wPayload)) := fun x W h => h.1.cell 16
  have K19 : ∀ x W, GhS w p a (conK v F p.client p.wTopic p.wPayload p.user p.pass (be p.keep.toNat 2) (tailC v 1 p.props) (tailC v 16 p.wProps) p.hasWill p.hasUser p.hasPass) x W → W.cell? ⟨w.heap.size, 19, none⟩ = some (.slice a.w p.wProps.length a.wc) := fun x W h => h.1.cell 19
  have K24 : ∀ x W, GhS w p a (conK v F p.client p.wTopic p.wPayload p.user p.pass (be p.keep.toNat 2) (tailC v 1 p.props) (tailC v 16 p.wProps) p.hasWill p.hasUser p.hasPass) x W → W.cell? ⟨w.heap.size, 24, none⟩ = some (.slice a.ps p.props.length a.pc) := fun x W h => h.1.cell 24
  have S1X : ∀ x W, GhS w p a (conK v F p.client p.wTopic p.wPayload p.user p.pass (be p.keep.toNat 2) (tailC v 1 p.props) (tailC v 16 p.wProps) p.hasWill p.hasUser p.hasPass) x W → W.heap[w.heap.size]? = some (.cells (pkC p a) 32 (0, 0)) := fun x W h => h.1.box
  have BE : ∀ W, BxS w p a W → GhS w p a (conK v F p.client p.wTopic p.wPayload p.user p.pass (be p.keep.toNat 2) (tailC v 1 p.props) (tailC v 16 p.wProps) p.hasWill p.hasUser p.hasPass) (fun _ => none) W.drew := fun W h => GhS.begin h
  have LO : ∀ x W, GhS w p a (conK v F p.client p.wTopic p.wPayload p.user p.pass (be p.keep.toNat 2) (tailC v 1 p.props) (tailC v 16 p.wProps) p.hasWill p.hasUser p.hasPass) x W → Below w.heap.size w W := fun x W h => h.1.low
  generalize GhS w p a (conK v F p.client p.wTopic p.wPayload p.user p.pass (be p.keep.toNat 2) (tailC v 1 p.props) (tailC v 16 p.wProps) p.hasWill p.hasUser p.hasPass) = S at *
  have hS1X := Lib.hid S1X
  have hBE := Lib.hid BE
  have hLO := Lib.hid LO
  have hK0 := Lib.hid K0
  have hK8 := Lib.hid K8
  have hK9 := Lib.hid K9
  have hK10 := Lib.hid K10
  have hK11 := Lib.hid K11
  have hK12 := Lib.hid K12
  have hK13 := Lib.hid K13
  have hK14 := Lib.hid K14
  have hK15 := Lib.hid K15
  have hK16 := Lib.hid K16
  have hK19 := Lib.hid K19
  have hK24 := Lib.hid K24
  have hM3 := Lib.hid M3
  have hM17 := Lib.hid M17
  have hM32 := Lib.hid M32
  have hM34 := Lib.hid M34
  have hM40 := Lib.hid M40
  have hM42 := Lib.hid M42
  have hM48 := Lib.hid M48
  have hM50 := Lib.hid M50
  have hM52 := Lib.hid M52
  have hH33 := Lib.hid H33
  have hH35 := Lib.hid H35
  have hH39 := Lib.hid H39
  have hH45 := Lib.hid H45
  have hH49 := Lib.hid H49
  have hH56 := Lib.hid H56
  have hH64 := Lib.hid H64
  have hH66 := Lib.hid H66
  have hH72 := Lib.hid H72
  have hH74 := Lib.hid H74
  have hH80 := Lib.hid H80
  have hH82 := Lib.hid H82
  have hH84 := Lib.hid H84
  have hkw : IntKind.u64.wrap p.keep = p.keep := by rw [IntKind.wrap_u64]; omega
  have HKW := Lib.hid hkw
  have HK := Lib.hid hk
  clear S1X BE LO K0 K8 K9 K10 K11 K12 K13 K14 K15 K16 K19 K24 M3 M17 M32 M34 M40 M42 M48 M50 M52 H33 H35 H39 H45 H49 H56 H64 H66 H72 H74 H80 H82 H84 hkw hraw
  generalize rawC v p = R at *
  generalize (if p.hasWill then tailC v 16 p.wProps ++ (enc2 p.wTopic ++ enc2 p.wPayload) else []) = z1 at *
  generalize (if p.hasUser then enc2 p.user else []) = z2 at *
  generalize (if p.hasPass then enc2 p.pass else []) = z3 at *
  unfold pkV
  clear hp sp ok ca hv f1 f2 f3 l1 l2 l3 l4 l5 l6 l7 hF
  go_enter Tryz.func8, Tryz.ntmps8
  go_wp2_with (refine wpList_load_row rfl _ _ rfl w.heap.size rfl 32 _ (0, 0) _ S0.out.box Tryz.underlying32 rfl (by rw [C1.out]; exact info_pk) ?_)
  refine (VA.out _ S0.out).mono ?_
  rintro e W ⟨rfl, hb⟩
  have S1 := Lib.hid (S0.out.call hb)
  clear hb
  have k0 : W.cell? ⟨w.heap.size, 0, none⟩ = some (.int .i64 p.kind) := S1.out.cell 0
  rw [HK.out] at k0
  go_upto_region 6 with fail
  refine body_con (S := S) (B := w.heap.size) (hBE.out _ S1.out) C1.out hS1X.out HKW.out hK0.out hK8.out hK9.out hK10.out hK11.out hK12.out hK13.out hK14.out hK15.out hK16.out hK19.out hK24.out hM3.out hM17.out hM32.out hM34.out hM40.out hM42.out hM48.out hM50.out hM52.out hH33.out hH35.out hH39.out hH45.out hH49.out hH56.out hH64.out hH66.out hH72.out hH74.out hH80.out hH82.out hH84.out ?_
  intro x r3 r17 r32 r34 r40 r42 r48 r50 r52 W2 hS
  have L2 := Lib.hid (hLO.out x W2 hS)
  clear hS
  go_wp2_with fail
  go_ret2
  exact ⟨rfl, L2.out⟩
set_option maxRecDepth 100000 in
/-- connect.Body. -/
theorem con_body (v : Int) (p : Pk) (a : Ad) (w : World) (hp : PkAt w p a) (sp : Short p) (ok : PkOk p) (ca : PkCap p a) :
    Calls Tryz.prog 8 #[.int .i64 v, pkV p a] w fun e w' => e = .returned (.tuple #[.string (bs (bodyC v p).1), .int .i64 ((bodyC v p).2 : Nat)]) ∧ Below w.heap.size w w' := by
  unfold bodyC
  by_cases hv : validC v p = 0
  · rw [if_neg (by simpa using hv)]
    rcases (ok_c (valid_c hv).1).2.1 with hk | hk
    · exact con_body_con v p a w hp sp ok ca hv hk
    · exact con_body_ack v p a w hp sp ok ca hv hk
  · rw [if_pos hv]
    have S0 := Lib.hid (BxS.made w p a)
    have VA := fun W (h : BxS w p a W) => con_valid v p a W (hp.below h.low) sp ok ca
    have C1 := Lib.hid (pkC_size p a)
    generalize validC v p = R at *
    have hr1 : ((R : Int) == 0) = false := by simp; omega
    have hr2 : ((R : Int) != 0) = true := by simp; omega
    have VA := Lib.hid VA
    clear hv hp sp ok ca
    unfold pkV at *
    go_enter Tryz.func8, Tryz.ntmps8
    go_wp2_with (refine wpList_load_row rfl _ _ rfl w.heap.size rfl 32 _ (0, 0) _ S0.out.box Tryz.underlying32 rfl (by rw [C1.out]; exact info_pk) ?_)
    refine (VA.out _ S0.out).mono ?_
    rintro e W ⟨rfl, hb⟩
    have LO := Lib.hid (below_then S0.out.low hb)
    clear hb
    go_wp2_with fail
    go_ret2
    exact ⟨rfl, LO.out⟩
end Go.Proofs.YtbgpcmbaodjibaaGreat
namespace Go.Proofs.YtbgpcmbaodjibaaGreat
open Go.RowKit

/-- A CONNACK without properties. -/
def ackP (b : Bool) (c : Int) : Pk := { Pk.zero with kind := 2, session := b, code := c }
theorem ackP_at (w : World) (b : Bool) (c : Int) : PkAt w (ackP b c) adZ := ⟨fun e => absurd rfl e, fun e => absurd rfl e, fun e => absurd rfl e, fun e => absurd rfl e⟩
theorem ackP_short (b : Bool) (c : Int) : Short (ackP b c) := ⟨Nat.zero_le _, Nat.zero_le _, Nat.zero_le _, Nat.zero_le _⟩
theorem ackP_ok (b : Bool) (c : Int) : PkOk (ackP b c) := by
  refine ⟨⟨(show (-9223372036854775808 : Int) ≤ 2 by decide), (show (2 : Int) ≤ 9223372036854775807 by decide)⟩, ⟨(show (-9223372036854775808 : Int) ≤ 0 by decide), (show (0 : Int) ≤ 9223372036854775807 by decide)⟩, fun t ht => ?_, fun x hx => (nomatch hx), fun x hx => (nomatch hx), fun x hx => (nomatch hx)⟩
  have : t = [] := by simpa [Pk.texts, ackP, Pk.zero] using ht
  rw [this]; decide
theorem ackP_cap (b : Bool) (c : Int) : PkCap (ackP b c) adZ := ⟨Nat.zero_le _, Nat.zero_le _, (show (-9223372036854775808 : Int) ≤ 0 by decide), (show (0 : Int) ≤ 9223372036854775807 by decide)⟩
theorem ack_body (v : Int) (b : Bool) (c : Int) (w : World) :
    Calls Tryz.prog 8 #[.int .i64 v, pkV (ackP b c) adZ] w fun e w' => e = .returned (.tuple #[.string (bs (bodyC v (ackP b c)).1), .int .i64 ((bodyC v (ackP b c)).2 : Nat)]) ∧ Below w.heap.size w w' :=
  con_body v (ackP b c) adZ w (ackP_at w b c) (ackP_short b c) (ackP_ok b c) (ackP_cap b c)
set_option maxRecDepth 100000 in
theorem lives_con (w : World) : Calls Tryz.prog 7 #[] w fun e w' => e = .returned (.bool true) ∧ Below w.heap.size w w' := by
  have BO := ack_body 4 false 5 w
  have e1 : bodyC 4 (ackP false 5) = ([0, 5], 0) := by decide +kernel
  rw [e1] at BO
  unfold pkV at BO
  obtain ⟨D, hD⟩ : ∃ D, pkC (ackP false 5) adZ = D := ⟨_, rfl⟩
  rw [hD] at BO
  have HD := Lib.hid hD
  have BO := Lib.hid BO
  have HQ := Lib.hid (show ((bs [0, 5]).toList == [0, 5]) = true by rw [bs_toList]; rfl)
  have hzv := zero_pk
  clear hD e1
  go_enter Tryz.func7, Tryz.ntmps7
  go_wp2_with (refine wpList_buildTo rfl 32 _ rfl (some 4) rfl D (by rw [← HD.out]; kernel_rfl) ?_)
  refine (BO.out).mono ?_
  rintro e w' ⟨rfl, hb⟩
  go_wp2_with fail
  go_ret
  exact ⟨congrArg (fun b => Ending.returned (Value.bool b)) HQ.out, hb⟩
end Go.Proofs.YtbgpcmbaodjibaaGreat
