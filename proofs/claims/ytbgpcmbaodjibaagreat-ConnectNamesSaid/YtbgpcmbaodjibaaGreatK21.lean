/-
  The contracts of connect's usedWill and used: a packet with just what it may have. Condition: none.
-/
import Derived.Great.BuildSlice
import Derived.Deep.DeepCutAuto
import Derived.Test.YtbgpcmbaodjibaaGreatK20
import Derived.Test.YtbgpcmbaodjibaaGreatK11
namespace Go.Proofs.YtbgpcmbaodjibaaGreat
open Go.RowKit

theorem info_will : (Tryz.prog.info? 28).map (·.size) = some 5 := by kernel_rfl
set_option maxRecDepth 100000 in
/-- A will without its properties, but for MQTT 5. -/
theorem con_used_will (v : Int) (t y : ByteArray) (q : Int) (r : Bool) (A : Option Addr) (n c : Nat) (w : World) :
    Calls Tryz.prog 119 #[.int .i64 v, .agg #[.string t, .string y, .int .i64 q, .bool r, .slice A n c]] w fun e w' => e = .returned (.agg #[.string t, .string y, .int .i64 q, .bool r, .slice (if v = 5 then A else none) (if v = 5 then n else 0) (if v = 5 then c else 0)]) ∧ Below w.heap.size w w' := by
  by_cases h5 : v = 5
  · subst h5
    go_enter Tryz.func119, Tryz.ntmps119
    go_wp2_with fail
    exact ret_row (cs := #[.string t, .string y, .int .i64 q, .bool r, .slice A n c]) rfl rfl rfl Tryz.underlying28 rfl info_will (heap_alloc2_new _ _ _) ⟨rfl, below_then (below_box _) (below_box _)⟩
  · have h5' : (v == 5) = false := beq_eq_false_iff_ne.2 h5
    rw [if_neg h5, if_neg h5, if_neg h5]
    clear h5
    go_enter Tryz.func119, Tryz.ntmps119
    go_wp2_with fail
    exact ret_row (cs := #[.string t, .string y, .int .i64 q, .bool r, .slice none 0 0]) rfl rfl rfl Tryz.underlying28 rfl info_will (heap_alloc2_new _ _ _) ⟨rfl, below_then (below_box _) (below_box _)⟩
/-- A packet of which only the kind is told. -/
def us0 (p : Pk) : Pk := { Pk.zero with kind := p.kind }
/-- Nowhere. -/
def adZ : Ad := ⟨none, 0, none, 0, none, 0, none, 0⟩
theorem pkC_zero : pkC Pk.zero adZ = pkZ := rfl
/-- What stands while connect.used runs: the packet, the result, the new packet. -/
structure UsS (w : World) (p : Pk) (a : Ad) (x : Pk) (b : Ad) (W : World) : Prop where
  low : Below w.heap.size w W
  box : W.heap[w.heap.size]? = some (.cells (pkC p a) 32 (0, 0))
  res : W.heap[w.heap.size + 1]? = some (.cells pkZ 32 (0, 0))
  new : W.heap[w.heap.size + 1 + 1]? = some (.cells (pkC x b) 32 (0, 0))
section
variable {w W W' : World} {p x : Pk} {a b : Ad}
theorem UsS.cell (h : UsS w p a x b W) (j : Nat) : W.cell? ⟨w.heap.size, j, none⟩ = (pkC p a)[j]? := cell_of_row _ _ j _ _ _ h.box
theorem UsS.ncell (h : UsS w p a x b W) (j : Nat) : W.cell? ⟨w.heap.size + 1 + 1, j, none⟩ = (pkC x b)[j]? := cell_of_row _ _ j _ _ _ h.new
theorem UsS.fr (h : UsS w p a x b W) (j : Nat) : W.frozen? ⟨w.heap.size + 1 + 1, j, none⟩ = false := frozen_of_row _ _ _ _ _ h.new
theorem UsS.put (h : UsS w p a x b W) (j : Nat) (u : Value) {x' : Pk} {b' : Ad} (he : (pkC x b).setIfInBounds j u = pkC x' b') : UsS w p a x' b' (W.setCell ⟨w.heap.size + 1 + 1, j, none⟩ u) :=
  ⟨h.low.setCell (by show _ ≤ w.heap.size + 1 + 1; omega) u, (heap_setCell_other W ⟨w.heap.size + 1 + 1, j, none⟩ _ u (by show w.heap.size ≠ w.heap.size + 1 + 1; omega)).trans h.box, (heap_setCell_other W ⟨w.heap.size + 1 + 1, j, none⟩ _ u (by show w.heap.size + 1 ≠ w.heap.size + 1 + 1; omega)).trans h.res,
   by have := setCell_block h.new j u; rw [he] at this; exact this⟩
theorem UsS.call (h : UsS w p a x b W) (hb : Below W.heap.size W W') : UsS w p a x b W' :=
  ⟨below_then h.low hb, (hb.block _ (lt_of_block h.box)).trans h.box, (hb.block _ (lt_of_block h.res)).trans h.res, (hb.block _ (lt_of_block h.new)).trans h.new⟩
theorem UsS.drew (h : UsS w p a x b W) : UsS w p a x b W.drew := ⟨h.low.drew, h.box, h.res, h.new⟩
end
def us1 (v : Int) (p : Pk) : Pk := { Pk.zero with kind := p.kind, props := if v = 5 then p.props else [] }
def us1A (v : Int) (a : Ad) : Ad := { adZ with ps := if v = 5 then a.ps else none, pc := if v = 5 then a.pc else 0 }
def us2 (v : Int) (p : Pk) : Pk := { us1 v p with session := p.session, code := p.code }
def us3 (v : Int) (p : Pk) : Pk := { us1 v p with clean := p.clean, keep := p.keep, client := p.client, hasWill := p.hasWill, hasUser := p.hasUser, hasPass := p.hasPass }
def us4 (v : Int) (p : Pk) : Pk := { us3 v p with wTopic := if p.hasWill then p.wTopic else [], wPayload := if p.hasWill then p.wPayload else [], wQos := if p.hasWill then p.wQos else 0, wRetain := if p.hasWill then p.wRetain else false, wProps := if p.hasWill then (if v = 5 then p.wProps else []) else [] }
def us4A (v : Int) (p : Pk) (a : Ad) : Ad := { us1A v a with w := if p.hasWill then (if v = 5 then a.w else none) else none, wc := if p.hasWill then (if v = 5 then a.wc else 0) else 0 }
def us5 (v : Int) (p : Pk) : Pk := { us4 v p with user := if p.hasUser then p.user else [] }
def us6 (v : Int) (p : Pk) : Pk := { us5 v p with pass := if p.hasPass then p.pass else [] }
/-- What connect.used returns. -/
def usedP (v : Int) (p : Pk) : Pk := if p.kind = 2 then us2 v p else us6 v p
def usedAd (v : Int) (p : Pk) (a : Ad) : Ad := if p.kind = 2 then us1A v a else us4A v p a
set_option maxHeartbeats 2000000 in
set_option maxRecDepth 100000 in
theorem con_used (v : Int) (p : Pk) (a : Ad) (w : World) :
    Calls Tryz.prog 72 #[.int .i64 v, pkV p a] w fun e w' => e = .returned (pkV (usedP v p) (usedAd v p a)) ∧ Below w.heap.size w w' := by
  have Z0 : ((w.alloc (.cells (pkC p a) 32)).alloc (.cells pkZ 32)).heap.size = w.heap.size + 1 + 1 := by simp
  have GN : (((w.alloc (.cells (pkC p a) 32)).alloc (.cells pkZ 32)).alloc (.cells pkZ 32)).heap[w.heap.size + 1 + 1]? = some (.cells pkZ 32 (0, 0)) := by
    have := heap_alloc_new ((w.alloc (.cells (pkC p a) 32)).alloc (.cells pkZ 32)) (.cells pkZ 32)
    rw [Z0] at this; exact this
  have S0 : UsS w p a (us0 p) adZ ((((w.alloc (.cells (pkC p a) 32)).alloc (.cells pkZ 32)).alloc (.cells pkZ 32)).setRow (w.heap.size + 1 + 1) (pkC (us0 p) adZ)) := by
    refine ⟨belowRow (below_then (below_then (below_box _) (below_box _)) (below_box _)) (by omega) _, ?_, ?_, setRow_heap _ _ _ _ _ _ GN⟩
    · exact (setRow_other _ _ _ _ (by omega)).trans ((heap_alloc_old _ _ (by rw [Z0]; omega)).trans (heap_alloc2_old _ _ _))
    · exact (setRow_other _ _ _ _ (by omega)).trans ((heap_alloc_old _ _ (by rw [Z0]; omega)).trans (heap_alloc2_new _ _ _))
  have hzv := zero_pk
  have hne : ¬ pkZ = #[] := by intro h; have := pkZ_size; rw [h] at this; cases this
  have HZ := Lib.hid pkZ_size
  have GN := Lib.hid GN
  have hD1 := pkC_size (us0 p) adZ
  have hD2 := pkC_one (us0 p) adZ
  obtain ⟨D, hD⟩ : ∃ D, pkC (us0 p) adZ = D := ⟨_, rfl⟩
  rw [hD] at hD1 hD2 S0
  have HD := Lib.hid hD
  have HD1 := Lib.hid hD1
  have HD2 := Lib.hid hD2
  have HS0 := Lib.hid S0
  obtain ⟨R, hR⟩ : ∃ R, pkC (usedP v p) (usedAd v p a) = R := ⟨_, rfl⟩
  have HR := Lib.hid hR
  unfold pkV
  rw [hR]
  clear hR
  have K0 : ((w.alloc (.cells (pkC p a) 32)).alloc (.cells pkZ 32)).cell? ⟨w.heap.size, 0, none⟩ = some (.int .i64 p.kind) := cell_of_row _ _ 0 _ _ _ (heap_alloc2_old _ _ _)
  clear S0 hD hD1 hD2 Z0
  go_enter Tryz.func72, Tryz.ntmps72
  go_upto_if 10 with (first
    | (refine wpList_buildTo rfl 32 _ rfl (some 8) rfl D (by rw [← HD.out]; kernel_rfl) ?_)
    | (refine wpList_store_row rfl _ _ _ rfl (w.heap.size + 1 + 1) D rfl rfl 32 _ GN.out (by rw [HD1.out]; exact info_pk) (by rw [HZ.out, HD1.out]) HD2.out ?_))
  clear K0 GN HZ hne hzv
  go_cut [] (fun wx => UsS w p a (us1 v p) (us1A v a) wx)
  case first =>
    generalize (((w.alloc (.cells (pkC p a) 32)).alloc (.cells pkZ 32)).alloc (.cells pkZ 32)).setRow (w.heap.size + 1 + 1) D = W at *
    by_cases h5 : v = 5
    · subst h5
      have S1 := Lib.hid (HS0.out.put 24 (.slice a.ps p.props.length a.pc) (x' := us1 5 p) (b' := us1A 5 a) rfl)
      have k24 : W.cell? ⟨w.heap.size, 24, none⟩ = some (.slice a.ps p.props.length a.pc) := HS0.out.cell 24
      have n24 : W.cell? ⟨w.heap.size + 1 + 1, 24, none⟩ = some (.slice none 0 0) := HS0.out.ncell 24
      have f24 := HS0.out.fr 24
      clear HS0 GN
      go_wp2_with fail
      go_meet
      exact S1.out
    · have h5' : (v == 5) = false := beq_eq_false_iff_ne.2 h5
      have SB := Lib.hid (show UsS w p a (us1 v p) (us1A v a) W by rw [us1, us1A, if_neg h5, if_neg h5, if_neg h5]; exact HS0.out)
      clear HS0 h5 GN
      go_wp2_with fail
      go_meet
      exact SB.out
  case rest =>
    have HS := Lib.hid hcut
    clear hcut HS0 GN
    have k0 : wc.cell? ⟨w.heap.size, 0, none⟩ = some (.int .i64 p.kind) := HS.out.cell 0
    by_cases h2 : p.kind = 2
    · rw [usedP, usedAd, if_pos h2, if_pos h2] at HR
      rw [h2] at k0
      clear h2
      have k20 : wc.cell? ⟨w.heap.size, 20, none⟩ = some (.bool p.session) := HS.out.cell 20
      have k21 : wc.cell? ⟨w.heap.size, 21, none⟩ = some (.int .i64 p.code) := HS.out.cell 21
      have n20 : wc.cell? ⟨w.heap.size + 1 + 1, 20, none⟩ = some (.bool false) := HS.out.ncell 20
      have f20 := HS.out.fr 20
      have n21 : wc.cell? ⟨w.heap.size + 1 + 1, 21, none⟩ = some (.int .i64 0) := HS.out.ncell 21
      have f21 := HS.out.fr 21
      have S5 := Lib.hid ((HS.out.put 20 (.bool p.session) (x' := { us1 v p with session := p.session }) (b' := us1A v a) rfl).put 21 (.int .i64 p.code) (x' := us2 v p) (b' := us1A v a) rfl)
      go_upto_region 5 with fail
      go_cut [] (fun wx => UsS w p a (us2 v p) (us1A v a) wx)
      case first =>
        go_region
        go_wp2_with fail
        go_meet
        exact S5.out.drew
      case rest =>
        have HS := Lib.hid hcut
        clear hcut k0 k20 k21 n20 n21 f20 f21 S5
        have GB := HS.out.new
        rw [HR.out] at GB
        have GB := Lib.hid GB
        have GR := Lib.hid HS.out.res
        have LO := Lib.hid HS.out.low
        have hR1 := pkC_size (us2 v p) (us1A v a)
        have hR2 := pkC_one (us2 v p) (us1A v a)
        rw [HR.out] at hR1 hR2
        have HR1 := Lib.hid hR1
        have HR2 := Lib.hid hR2
        clear hR1 hR2 HS
        go_wp2_with (first
          | (refine wpList_load_row rfl _ _ rfl (w.heap.size + 1 + 1) rfl 32 R (0, 0) _ GB.out Tryz.underlying32 rfl (by rw [HR1.out]; exact info_pk) ?_)
          | (refine wpList_store_row rfl _ _ _ rfl (w.heap.size + 1) R rfl rfl 32 _ GR.out (by rw [HR1.out]; exact info_pk) (by rw [pkZ_size, HR1.out]) HR2.out ?_))
        exact ret_row (cs := R) rfl rfl rfl Tryz.underlying32 rfl (by rw [HR1.out]; exact info_pk) (setRow_heap _ _ _ _ _ _ GR.out) ⟨rfl, belowRow LO.out (by omega) _⟩
    · rw [usedP, usedAd, if_neg h2, if_neg h2] at HR
      have h2' : (p.kind == 2) = false := beq_eq_false_iff_ne.2 h2
      clear h2
      have k7 : wc.cell? ⟨w.heap.size, 7, none⟩ = some (.bool p.clean) := HS.out.cell 7
      have k8 : wc.cell? ⟨w.heap.size, 8, none⟩ = some (.int .i64 p.keep) := HS.out.cell 8
      have k9 : wc.cell? ⟨w.heap.size, 9, none⟩ = some (.string (bs p.client)) := HS.out.cell 9
      have n7 : wc.cell? ⟨w.heap.size + 1 + 1, 7, none⟩ = some (.bool false) := HS.out.ncell 7
      have f7 := HS.out.fr 7
      have n8 : wc.cell? ⟨w.heap.size + 1 + 1, 8, none⟩ = some (.int .i64 0) := HS.out.ncell 8
      have f8 := HS.out.fr 8
      have n9 : wc.cell? ⟨w.heap.size + 1 + 1, 9, none⟩ = some (.string ⟨#[]⟩) := HS.out.ncell 9
      have f9 := HS.out.fr 9
      have S7 := Lib.hid (((HS.out.put 7 (.bool p.clean) (x' := { us1 v p with clean := p.clean }) (b' := us1A v a) rfl).put 8 (.int .i64 p.keep) (x' := { us1 v p with clean := p.clean, keep := p.keep }) (b' := us1A v a) rfl).put 9 (.string (bs p.client)) (x' := { us1 v p with clean := p.clean, keep := p.keep, client := p.client }) (b' := us1A v a) rfl)
      go_upto_region 7 with fail
      go_cut [] (fun wx => UsS w p a { us1 v p with clean := p.clean, keep := p.keep, client := p.client } (us1A v a) wx)
      case first =>
        go_region
        go_wp2_with fail
        go_meet
        exact S7.out.drew
      case rest =>
        clear k0 k7 k8 k9 n7 n8 n9 f7 f8 f9 S7 HS h2'
        rename_i wc'
        have HS := Lib.hid hcut
        clear hcut
        have k14 : wc.cell? ⟨w.heap.size, 14, none⟩ = some (.bool p.hasWill) := HS.out.cell 14
        have k10 : wc.cell? ⟨w.heap.size, 10, none⟩ = some (.bool p.hasUser) := HS.out.cell 10
        have k12 : wc.cell? ⟨w.heap.size, 12, none⟩ = some (.bool p.hasPass) := HS.out.cell 12
        have n14 : wc.cell? ⟨w.heap.size + 1 + 1, 14, none⟩ = some (.bool false) := HS.out.ncell 14
        have f14 := HS.out.fr 14
        have n10 : wc.cell? ⟨w.heap.size + 1 + 1, 10, none⟩ = some (.bool false) := HS.out.ncell 10
        have f10 := HS.out.fr 10
        have n12 : wc.cell? ⟨w.heap.size + 1 + 1, 12, none⟩ = some (.bool false) := HS.out.ncell 12
        have f12 := HS.out.fr 12
        have S8 := Lib.hid (((HS.out.put 14 (.bool p.hasWill) (x' := { us1 v p with clean := p.clean, keep := p.keep, client := p.client, hasWill := p.hasWill }) (b' := us1A v a) rfl).put 10 (.bool p.hasUser) (x' := { us1 v p with clean := p.clean, keep := p.keep, client := p.client, hasWill := p.hasWill, hasUser := p.hasUser }) (b' := us1A v a) rfl).put 12 (.bool p.hasPass) (x' := us3 v p) (b' := us1A v a) rfl)
        go_upto_region 8 with fail
        go_cut [] (fun wx => UsS w p a (us3 v p) (us1A v a) wx)
        case first =>
          go_region
          go_wp2_with fail
          go_meet
          exact S8.out.drew
        case rest =>
          clear HS k14 k10 k12 n14 n10 n12 f14 f10 f12 S8
          have HS := Lib.hid hcut
          clear hcut
          have k14 : wc.cell? ⟨w.heap.size, 14, none⟩ = some (.bool p.hasWill) := HS.out.cell 14
          go_upto_if 43 with fail
          go_cut [] (fun wx => UsS w p a (us4 v p) (us4A v p a) wx)
          case first =>
            cases hw : p.hasWill with
            | false =>
              have S4 := Lib.hid (show UsS w p a (us4 v p) (us4A v p a) _ by unfold us4 us4A; rw [hw]; exact HS.out)
              go_wp2_with fail
              go_meet
              exact S4.out
            | true =>
              have k15 : wc.cell? ⟨w.heap.size, 15, none⟩ = some (.string (bs p.wTopic)) := HS.out.cell 15
              have k16 : wc.cell? ⟨w.heap.size, 16, none⟩ = some (.string (bs p.wPayload)) := HS.out.cell 16
              have k17 : wc.cell? ⟨w.heap.size, 17, none⟩ = some (.int .i64 p.wQos) := HS.out.cell 17
              have k18 : wc.cell? ⟨w.heap.size, 18, none⟩ = some (.bool p.wRetain) := HS.out.cell 18
              have k19 : wc.cell? ⟨w.heap.size, 19, none⟩ = some (.slice a.w p.wProps.length a.wc) := HS.out.cell 19
              obtain ⟨zA, hA⟩ : ∃ z, (if v = 5 then a.w else none) = z := ⟨_, rfl⟩
              obtain ⟨zn, hn⟩ : ∃ z, (if v = 5 then p.wProps.length else 0) = z := ⟨_, rfl⟩
              obtain ⟨zc, hc⟩ : ∃ z, (if v = 5 then a.wc else 0) = z := ⟨_, rfl⟩
              have CW := con_used_will v (bs p.wTopic) (bs p.wPayload) p.wQos p.wRetain a.w p.wProps.length a.wc
              rw [hA, hn, hc] at CW
              have CW := Lib.hid CW
              have he : (pkC { us3 v p with wTopic := p.wTopic, wPayload := p.wPayload, wQos := p.wQos, wRetain := p.wRetain } (us1A v a)).setIfInBounds 19 (.slice zA zn zc) = pkC { us3 v p with wTopic := p.wTopic, wPayload := p.wPayload, wQos := p.wQos, wRetain := p.wRetain, wProps := if v = 5 then p.wProps else [] } { us1A v a with w := if v = 5 then a.w else none, wc := if v = 5 then a.wc else 0 } := by
                have hl : (if v = 5 then p.wProps.length else 0) = (if v = 5 then p.wProps else []).length := by split <;> rfl
                subst hA hn hc
                rw [hl]
                rfl
              have HE := Lib.hid he
              have h4 : us4 v p = { us3 v p with wTopic := p.wTopic, wPayload := p.wPayload, wQos := p.wQos, wRetain := p.wRetain, wProps := if v = 5 then p.wProps else [] } := by unfold us4; simp only [hw, if_true]
              have h4A : us4A v p a = { us1A v a with w := if v = 5 then a.w else none, wc := if v = 5 then a.wc else 0 } := by unfold us4A; simp only [hw, if_true]
              have H4 := Lib.hid h4
              have H4A := Lib.hid h4A
              clear hA hn hc he h4 h4A
              go_wp2_with fail
              refine (CW.out _).mono ?_
              rintro e W2 ⟨rfl, hb⟩
              have HS := Lib.hid (HS.out.call hb)
              clear hb k15 k16 k17 k18 k19 k14
              have n15 : W2.cell? ⟨w.heap.size + 1 + 1, 15, none⟩ = some (.string ⟨#[]⟩) := HS.out.ncell 15
              have f15 := HS.out.fr 15
              have n16 : W2.cell? ⟨w.heap.size + 1 + 1, 16, none⟩ = some (.string ⟨#[]⟩) := HS.out.ncell 16
              have f16 := HS.out.fr 16
              have n17 : W2.cell? ⟨w.heap.size + 1 + 1, 17, none⟩ = some (.int .i64 0) := HS.out.ncell 17
              have f17 := HS.out.fr 17
              have n18 : W2.cell? ⟨w.heap.size + 1 + 1, 18, none⟩ = some (.bool false) := HS.out.ncell 18
              have f18 := HS.out.fr 18
              have n19 : W2.cell? ⟨w.heap.size + 1 + 1, 19, none⟩ = some (.slice none 0 0) := HS.out.ncell 19
              have f19 := HS.out.fr 19
              have S4 := Lib.hid (((((HS.out.put 15 (.string (bs p.wTopic)) (x' := { us3 v p with wTopic := p.wTopic }) (b' := us1A v a) rfl).put 16 (.string (bs p.wPayload)) (x' := { us3 v p with wTopic := p.wTopic, wPayload := p.wPayload }) (b' := us1A v a) rfl).put 17 (.int .i64 p.wQos) (x' := { us3 v p with wTopic := p.wTopic, wPayload := p.wPayload, wQos := p.wQos }) (b' := us1A v a) rfl).put 18 (.bool p.wRetain) (x' := { us3 v p with wTopic := p.wTopic, wPayload := p.wPayload, wQos := p.wQos, wRetain := p.wRetain }) (b' := us1A v a) rfl).put 19 (.slice zA zn zc) (x' := { us3 v p with wTopic := p.wTopic, wPayload := p.wPayload, wQos := p.wQos, wRetain := p.wRetain, wProps := if v = 5 then p.wProps else [] }) (b' := { us1A v a with w := if v = 5 then a.w else none, wc := if v = 5 then a.wc else 0 }) HE.out)
              go_wp2_with fail
              go_meet
              rw [H4.out, H4A.out]
              exact S4.out
          case rest =>
            clear k14 HS
            have HS := Lib.hid hcut
            clear hcut
            have k10 : wc.cell? ⟨w.heap.size, 10, none⟩ = some (.bool p.hasUser) := HS.out.cell 10
            go_upto_if 50 with fail
            go_cut [] (fun wx => UsS w p a (us5 v p) (us4A v p a) wx)
            case first =>
              cases hw : p.hasUser with
              | false =>
                have S4 := Lib.hid (show UsS w p a (us5 v p) (us4A v p a) _ by unfold us5; rw [hw]; exact HS.out)
                go_wp2_with fail
                go_meet
                exact S4.out
              | true =>
                have h5 : us5 v p = { us4 v p with user := p.user } := by unfold us5; simp only [hw, if_true]
                have H5 := Lib.hid h5
                clear h5
                have k11 : wc.cell? ⟨w.heap.size, 11, none⟩ = some (.string (bs p.user)) := HS.out.cell 11
                have n11 : wc.cell? ⟨w.heap.size + 1 + 1, 11, none⟩ = some (.string ⟨#[]⟩) := HS.out.ncell 11
                have f11 := HS.out.fr 11
                have S4 := Lib.hid (HS.out.put 11 (.string (bs p.user)) (x' := { us4 v p with user := p.user }) (b' := us4A v p a) rfl)
                go_wp2_with fail
                go_meet
                rw [H5.out]
                exact S4.out
            case rest =>
              clear k10 HS
              have HS := Lib.hid hcut
              clear hcut
              have k12 : wc.cell? ⟨w.heap.size, 12, none⟩ = some (.bool p.hasPass) := HS.out.cell 12
              go_upto_if 55 with fail
              go_cut [] (fun wx => UsS w p a (us6 v p) (us4A v p a) wx)
              case first =>
                cases hw : p.hasPass with
                | false =>
                  have S4 := Lib.hid (show UsS w p a (us6 v p) (us4A v p a) _ by unfold us6; rw [hw]; exact HS.out)
                  go_wp2_with fail
                  go_meet
                  exact S4.out
                | true =>
                  have h5 : us6 v p = { us5 v p with pass := p.pass } := by unfold us6; simp only [hw, if_true]
                  have H5 := Lib.hid h5
                  clear h5
                  have k13 : wc.cell? ⟨w.heap.size, 13, none⟩ = some (.string (bs p.pass)) := HS.out.cell 13
                  have n13 : wc.cell? ⟨w.heap.size + 1 + 1, 13, none⟩ = some (.string ⟨#[]⟩) := HS.out.ncell 13
                  have f13 := HS.out.fr 13
                  have S4 := Lib.hid (HS.out.put 13 (.string (bs p.pass)) (x' := { us5 v p with pass := p.pass }) (b' := us4A v p a) rfl)
                  go_wp2_with fail
                  go_meet
                  rw [H5.out]
                  exact S4.out
              case rest =>
                clear k12 HS
                have HS := Lib.hid hcut
                clear hcut
                have GB := HS.out.new
                rw [HR.out] at GB
                have GB := Lib.hid GB
                have GR := Lib.hid HS.out.res
                have LO := Lib.hid HS.out.low
                have hR1 := pkC_size (us6 v p) (us4A v p a)
                have hR2 := pkC_one (us6 v p) (us4A v p a)
                rw [HR.out] at hR1 hR2
                have HR1 := Lib.hid hR1
                have HR2 := Lib.hid hR2
                clear hR1 hR2 HS
                go_wp2_with (first
                  | (refine wpList_load_row rfl _ _ rfl (w.heap.size + 1 + 1) rfl 32 R (0, 0) _ GB.out Tryz.underlying32 rfl (by rw [HR1.out]; exact info_pk) ?_)
                  | (refine wpList_store_row rfl _ _ _ rfl (w.heap.size + 1) R rfl rfl 32 _ GR.out (by rw [HR1.out]; exact info_pk) (by rw [pkZ_size, HR1.out]) HR2.out ?_))
                exact ret_row (cs := R) rfl rfl rfl Tryz.underlying32 rfl (by rw [HR1.out]; exact info_pk) (setRow_heap _ _ _ _ _ _ GR.out) ⟨rfl, belowRow LO.out (by omega) _⟩
end Go.Proofs.YtbgpcmbaodjibaaGreat
