/-
  The walk of HeadNames. Condition: the table of names reads as the program's text lays it.
-/
import Derived.Deep.DeepCutAuto
import Derived.Deep.AppendLies
import Derived.Great.BuildSlice
import Derived.Test.YtnmdbbkcbedklaaDoorRowG
import Derived.Test.YtnmdbbkcbedklaaDoorHdLive
import Derived.Test.YtnmdbbkcbedklaaDoorHdRead
import Derived.Test.YtnmdbbkcbedklaaDoorHdSame
import Derived.Test.YtnmdbbkcbedklaaDoorHdCopy
import Derived.Test.YtnmdbbkcbedklaaDoorHdName
import Derived.Test.YtnmdbbkcbedklaaDoorHdNmLast
namespace Go.Proofs.YtnmdbbkcbedklaaDoor
open Go.RowKit

theorem ck_is {v k f l : Int} {e : Nat} (h : checkH v ⟨k, f, l⟩ = e) : ∀ W, Calls Tryd.prog 6 #[.int .i64 v, .agg #[.int .i64 k, .int .i64 f, .int .i64 l]] W fun x w' => x = .returned (.int .i64 (e : Int)) ∧ Below W.heap.size W w' := fun W => by
  have := check_any v ⟨k, f, l⟩ W
  rw [h] at this
  exact this
theorem fl_is {v k q n : Int} {d r : Bool} {e : Nat} (h : flagsF v k d r q = (n, e)) : ∀ W, Calls Tryd.prog 7 #[.int .i64 v, .agg (pkD k d r q)] W fun x w' => x = .returned (.tuple #[.int .i64 n, .int .i64 (e : Int)]) ∧ Below W.heap.size W w' := fun W => by
  have := flags_any v (k := k) (q := q) (d := d) (r := r) (c := pkD k d r q) W rfl rfl rfl rfl rfl
  unfold FlRet at this
  rw [h] at this
  exact this
theorem rd_is {v x0 x1 x2 : Int} {s : ByteArray} {n e : Nat} (hm : s.size ≤ 9223372036854775807) (h : readH v s.data.toList = (⟨x0, x1, x2⟩, n, e)) : ∀ W, Calls Tryd.prog 8 #[.int .i64 v, .string s] W fun x w' => x = .returned (.tuple #[.agg #[.int .i64 x0, .int .i64 x1, .int .i64 x2], .int .i64 (n : Int), .int .i64 (e : Int)]) ∧ Below W.heap.size W w' := fun W => by
  have := hd_read v s W hm
  unfold HdRdRet HdRd at this
  rw [h] at this
  exact this
/-- The packet with a will, its property's id. -/
def willP (id : Int) : Pk := ⟨1, false, false, 0, 0, [], [], false, 0, [], false, [], false, [], true, [97], [], 0, false, [⟨id, 0, [], []⟩], false, 0, [], [], []⟩
def willA (g : Nat) : Ad := ⟨some ⟨g, 0, none⟩, 1, none, 0, none, 0, none, 0⟩
theorem willP_ok : PkOk (willP 38) := by
  refine ⟨⟨by decide, by decide⟩, ⟨by decide, by decide⟩, fun t ht => ?_, fun x hx => ?_, (fun x hx => by cases hx), (fun f hf => by cases hf)⟩
  · simp only [Pk.texts, willP, List.mem_cons, List.not_mem_nil, or_false] at ht
    rcases ht with rfl | rfl | rfl | rfl | rfl | rfl | rfl <;> decide
  · have : x = ⟨38, 0, [], []⟩ := by simpa [willP] using hx
    subst this
    exact ⟨⟨by decide, by decide, by decide, by decide, by decide⟩, by decide, by decide⟩
theorem built_will (g : Nat) : Tryd.prog.built 35 [(0, .int .i64 1), (14, .bool true), (15, .agg #[.string ⟨#[97]⟩, .string ⟨#[]⟩, .int .i64 0, .bool false, .slice (some ⟨g, 0, none⟩) 1 1])] = some (pkC (willP 38) (willA g)) := by kernel_rfl
/-- What stands behind the sixteen calls: the header that was read, the packet, the packet's list, the copy. -/
structure NmS (w : World) (bx bp bc : Nat) (id : Int) (a a' : Ad) (W : World) : Prop where
  low : Below w.heap.size w W
  x : W.heap[bx]? = some (.cells #[.int .i64 12, .int .i64 0, .int .i64 0] 26 (0, 0))
  p : W.heap[bp]? = some (.cells (pkC (willP 38) a) 35 (0, 0))
  c : W.heap[bc]? = some (.cells (pkC (willP 38) a') 35 (0, 0))
  pl : PkAt W (willP 38) a
  cl : PkAt W (willP id) a'
  tab : Names W
theorem NmS.call {w W W' : World} {bx bp bc : Nat} {id : Int} {a a' : Ad} (h : NmS w bx bp bc id a a' W) (hb : Below W.heap.size W W') : NmS w bx bp bc id a a' W' :=
  ⟨below_then h.low hb, (hb.block _ (lt_of_block h.x)).trans h.x, (hb.block _ (lt_of_block h.p)).trans h.p, (hb.block _ (lt_of_block h.c)).trans h.c, h.pl.below hb, h.cl.below hb, h.tab.below hb⟩
set_option maxHeartbeats 4000000 in
set_option maxRecDepth 100000 in
theorem names_walk7 (w : World) (ht : Names w) : Calls Tryd.prog 3 #[] w fun e w' => e = .returned (.bool true) ∧ Below w.heap.size w w' := by
  have hzv := zero_pk
  have HZ := Lib.hid pkZ_size
  have hne : ¬ pkZ = #[] := by intro h; have := pkZ_size; rw [h] at this; cases this
  have L0 := Lib.hid (Below.refl w.heap.size w)
  have TB := Lib.hid ht
  clear ht
  have K0 := Lib.hid (ck_is (v := 9) (k := 12) (f := 0) (l := 0) (e := 2) (by decide +kernel))
  have K1 := Lib.hid (ck_is (v := 4) (k := 15) (f := 0) (l := 0) (e := 8) (by decide +kernel))
  have K2 := Lib.hid (ck_is (v := 5) (k := 15) (f := 0) (l := 0) (e := 0) (by decide +kernel))
  have K3 := Lib.hid (ck_is (v := 5) (k := 3) (f := 6) (l := 0) (e := 7) (by decide +kernel))
  have K4 := Lib.hid (ck_is (v := 5) (k := 3) (f := 8) (l := 0) (e := 7) (by decide +kernel))
  have K5 := Lib.hid (ck_is (v := 5) (k := 8) (f := 0) (l := 0) (e := 7) (by decide +kernel))
  have K6 := Lib.hid (ck_is (v := 5) (k := 12) (f := 0) (l := -1) (e := 2) (by decide +kernel))
  have F0 := Lib.hid (fl_is (v := 5) (k := 3) (d := true) (r := true) (q := 2) (n := 13) (e := 0) (by decide +kernel))
  have F1 := Lib.hid (fl_is (v := 5) (k := 3) (d := true) (r := false) (q := 0) (n := 0) (e := 7) (by decide +kernel))
  have F2 := Lib.hid (fl_is (v := 5) (k := 6) (d := false) (r := false) (q := 9) (n := 2) (e := 0) (by decide +kernel))
  have R0 := Lib.hid (rd_is (v := 4) (s := ⟨#[]⟩) (x0 := 0) (x1 := 0) (x2 := 0) (n := 0) (e := 3) (by decide) (by decide +kernel))
  have R1 := Lib.hid (rd_is (v := 4) (s := ⟨#[240, 0]⟩) (x0 := 0) (x1 := 0) (x2 := 0) (n := 0) (e := 8) (by decide) (by decide +kernel))
  have R2 := Lib.hid (rd_is (v := 4) (s := ⟨#[49]⟩) (x0 := 0) (x1 := 0) (x2 := 0) (n := 0) (e := 3) (by decide) (by decide +kernel))
  have R3 := Lib.hid (rd_is (v := 4) (s := ⟨#[97, 0]⟩) (x0 := 0) (x1 := 0) (x2 := 0) (n := 0) (e := 7) (by decide) (by decide +kernel))
  have R4 := Lib.hid (rd_is (v := 4) (s := ⟨#[192, 0, 122]⟩) (x0 := 12) (x1 := 0) (x2 := 0) (n := 2) (e := 0) (by decide) (by decide +kernel))
  have CO := Lib.hid (show ∀ W g C, pkC (willP 38) (willA g) = C → PkAt W (willP 38) (willA g) → Calls Tryd.prog 9 #[.agg C] W (CopyRet (willP 38) W) from fun W g C hC x => by subst hC; exact hd_copy (willP 38) (willA g) W x willP_ok (by decide) (by decide) (by decide) (by decide))
  have SH := Lib.hid (show Short (willP 38) from ⟨by decide, by decide, by decide, by decide⟩)
  have SH1 := Lib.hid (show Short (willP 1) from ⟨by decide, by decide, by decide, by decide⟩)
  have NE := Lib.hid (show decide (willP 38 = willP 1) = false from decide_eq_false fun e => by have := congrArg Pk.wProps e; exact absurd this (by decide))
  generalize pkZ = Z at hzv HZ hne
  go_enter Tryd.func3, Tryd.ntmps3
  go_wp2_with fail
  refine (lives_head _).mono ?_
  rintro e W0 ⟨rfl, hb⟩
  have L1 := Lib.hid (below_then L0.out hb)
  clear hb
  go_wp2_with fail
  refine (K0.out _).mono ?_
  rintro e W1 ⟨rfl, hb⟩
  have L2 := Lib.hid (below_then L1.out hb)
  clear hb
  go_wp2_with fail
  refine (K1.out _).mono ?_
  rintro e W2 ⟨rfl, hb⟩
  have L3 := Lib.hid (below_then L2.out hb)
  clear hb
  go_wp2_with fail
  refine (K2.out _).mono ?_
  rintro e W3 ⟨rfl, hb⟩
  have L4 := Lib.hid (below_then L3.out hb)
  clear hb
  go_wp2_with fail
  refine (K3.out _).mono ?_
  rintro e W4 ⟨rfl, hb⟩
  have L5 := Lib.hid (below_then L4.out hb)
  clear hb
  go_wp2_with fail
  refine (K4.out _).mono ?_
  rintro e W5 ⟨rfl, hb⟩
  have L6 := Lib.hid (below_then L5.out hb)
  clear hb
  go_wp2_with fail
  refine (K5.out _).mono ?_
  rintro e W6 ⟨rfl, hb⟩
  have L7 := Lib.hid (below_then L6.out hb)
  clear hb
  go_wp2_with fail
  refine (K6.out _).mono ?_
  rintro e W7 ⟨rfl, hb⟩
  have L8 := Lib.hid (below_then L7.out hb)
  clear hb
  go_wp2_with (refine wpList_buildTo rfl 35 _ rfl (some 48) rfl (pkD 3 true true 2) (by kernel_rfl) ?_)
  refine (F0.out _).mono ?_
  rintro e W8 ⟨rfl, hb⟩
  have L9 := Lib.hid (below_then L8.out hb)
  clear hb
  go_wp2_with (refine wpList_buildTo rfl 35 _ rfl (some 53) rfl (pkD 3 true false 0) (by kernel_rfl) ?_)
  refine (F1.out _).mono ?_
  rintro e W9 ⟨rfl, hb⟩
  have L10 := Lib.hid (below_then L9.out hb)
  clear hb
  go_wp2_with (refine wpList_buildTo rfl 35 _ rfl (some 58) rfl (pkD 6 false false 9) (by kernel_rfl) ?_)
  refine (F2.out _).mono ?_
  rintro e W10 ⟨rfl, hb⟩
  have L11 := Lib.hid (below_then L10.out hb)
  clear hb
  go_wp2_with fail
  refine (R0.out _).mono ?_
  rintro e W11 ⟨rfl, hb⟩
  have L12 := Lib.hid (below_then L11.out hb)
  clear hb
  go_wp2_with fail
  refine (R1.out _).mono ?_
  rintro e W12 ⟨rfl, hb⟩
  have L13 := Lib.hid (below_then L12.out ((below_box _).trans (hb.mono (by simp))))
  clear hb
  go_wp2_with fail
  refine (R2.out _).mono ?_
  rintro e W13 ⟨rfl, hb⟩
  have L14 := Lib.hid (below_then L13.out ((below_box _).trans (hb.mono (by simp))))
  clear hb
  go_wp2_with fail
  refine (R3.out _).mono ?_
  rintro e W14 ⟨rfl, hb⟩
  have L15 := Lib.hid (below_then L14.out ((below_box _).trans (hb.mono (by simp))))
  clear hb
  go_wp2_with fail
  refine (R4.out _).mono ?_
  rintro e W15 ⟨rfl, hb⟩
  have L16 := Lib.hid (below_then L15.out ((below_box _).trans (hb.mono (by simp))))
  clear hb
  go_upto_region 18 with fail
  have LA := Lib.hid (L16.out.alloc L16.out.size (.cells #[.int .i64 12, .int .i64 0, .int .i64 0] 26))
  have XA := Lib.hid (heap_alloc_new W15 (.cells #[.int .i64 12, .int .i64 0, .int .i64 0] 26))
  have hbx : W15.heap.size < (W15.alloc (.cells #[.int .i64 12, .int .i64 0, .int .i64 0] 26)).heap.size := by simp
  have HBX := Lib.hid hbx
  clear hbx
  generalize W15.heap.size = bx at *
  generalize W15.alloc (.cells #[.int .i64 12, .int .i64 0, .int .i64 0] 26) = WA at *
  -- the packet with a will
  have HD1 := Lib.hid (pkC_size (willP 38) (willA WA.heap.size))
  have HD2 := Lib.hid (pkC_one (willP 38) (willA WA.heap.size))
  have HD3 := Lib.hid (built_will WA.heap.size)
  generalize hC : pkC (willP 38) (willA WA.heap.size) = C at *
  have HC := Lib.hid hC
  clear hC
  go_upto_region 19 with (first
    | (refine wpList_buildTo rfl 35 _ rfl (some 90) rfl C (by rw [← HC.out]; kernel_rfl) ?_)
    | (refine wpList_store_row rfl _ _ _ rfl (WA.heap.size + 1) C rfl rfl 35 _ (heap_alloc2_new WA _ _) ?c1 ?c2 ?c3 ?_))
  case c1 => rw [HD1.out]; exact info_pk
  case c2 => rw [HZ.out, HD1.out]
  case c3 => exact HD2.out
  have GP := Lib.hid (setRow_heap ((WA.alloc (.cells #[.int .i64 38, .int .u32 0, .string ⟨#[]⟩, .string ⟨#[]⟩] 40)).alloc (.cells Z 35)) (WA.heap.size + 1) _ C _ _ (heap_alloc2_new WA (.cells #[.int .i64 38, .int .u32 0, .string ⟨#[]⟩, .string ⟨#[]⟩] 40) (.cells Z 35)))
  have GR := Lib.hid ((setRow_other ((WA.alloc (.cells #[.int .i64 38, .int .u32 0, .string ⟨#[]⟩, .string ⟨#[]⟩] 40)).alloc (.cells Z 35)) (WA.heap.size + 1) WA.heap.size C (by omega)).trans (heap_alloc2_old WA (.cells #[.int .i64 38, .int .u32 0, .string ⟨#[]⟩, .string ⟨#[]⟩] 40) (.cells Z 35)))
  have LB := Lib.hid (belowRow (below_then (below_box (w := WA) (.cells #[.int .i64 38, .int .u32 0, .string ⟨#[]⟩, .string ⟨#[]⟩] 40)) (below_box (.cells Z 35))) (show WA.heap.size ≤ WA.heap.size + 1 by omega) C)
  have hxb := lt_of_block XA.out
  have HXB := Lib.hid hxb
  clear hxb
  have HGE := Lib.hid LA.out.size
  generalize WA.heap.size = g at *
  generalize ((WA.alloc (.cells #[.int .i64 38, .int .u32 0, .string ⟨#[]⟩, .string ⟨#[]⟩] 40)).alloc (.cells Z 35)).setRow (g + 1) C = WB at *
  have HPL := Lib.hid (show PkAt WB (willP 38) (willA g) from ⟨PL.of_cells GR.out (fun j u hu => by simpa [willP, pcs, pc, bs] using hu), CL.nil, CL.nil, PL.nil⟩)
  have GXB := Lib.hid ((LB.out.block bx HBX.out).trans XA.out)
  have LW := Lib.hid (LA.out.trans (LB.out.mono HGE.out))
  go_wp2_with (refine wpList_load_row_g rfl _ _ rfl (g + 1) rfl 35 C (0, 0) _ GP.out Tryd.underlying35 rfl (by rw [HD1.out]; exact info_pk) ?_)
  refine (CO.out _ g C HC.out HPL.out).mono ?_
  rintro e WC ⟨a', rfl, hown, hb⟩
  have LC := Lib.hid (below_then LW.out hb)
  have LBC := Lib.hid hb
  have OW := Lib.hid hown
  have hg1 := Lib.hid (lt_of_block GP.out)
  clear hown hb
  unfold pkV
  go_upto_region 20 with (refine wpList_store_row rfl _ _ _ rfl WC.heap.size (pkC (willP 38) a') rfl rfl 35 _ (heap_alloc_new WC _) info_pk (by rw [HZ.out]; rfl) (pkC_one _ _) ?_)
  have GC := Lib.hid (setRow_heap (WC.alloc (.cells Z 35)) WC.heap.size _ (pkC (willP 38) a') _ _ (heap_alloc_new WC (.cells Z 35)))
  have LCD := Lib.hid (belowRow (below_box (w := WC) (.cells Z 35)) (Nat.le_refl _) (pkC (willP 38) a'))
  generalize (WC.alloc (.cells Z 35)).setRow WC.heap.size (pkC (willP 38) a') = WD at *
  obtain ⟨aw, awc, acs, acc, afs, afc, aps, apc⟩ := a'
  have hform := World.ownsRow.form OW.out.w (by decide)
  obtain ⟨g', cap, hv, hbg, hlt⟩ := hform
  simp only [Value.slice.injEq] at hv
  obtain ⟨rfl, _, rfl⟩ := hv
  have OD := Lib.hid (own_below OW.out.w LCD.out)
  have FG := Lib.hid (show g + 1 < g' from Nat.lt_of_lt_of_le hg1.out hbg)
  have FC := Lib.hid hlt
  clear hbg hlt
  have c19 : WD.cell? ⟨WC.heap.size, 19, none⟩ = some (.slice (some ⟨g', 0, none⟩) 1 awc) := (cell_of_row _ _ 19 _ _ _ GC.out).trans rfl
  have cg : WD.cell? ⟨g', 0, none⟩ = some (.int .i64 38) := (World.ownsRow.cellAt OD.out 0 (by decide)).trans rfl
  have fg : WD.frozen? ⟨g', 0, none⟩ = false := World.ownsRow.frozenAt OD.out 0
  go_upto_region 21 with fail
  clear c19 cg fg
  have LD := Lib.hid (below_then LC.out LCD.out)
  have T0 : NmS w bx (g + 1) WC.heap.size 1 (willA g) ⟨some ⟨g', 0, none⟩, awc, acs, acc, afs, afc, aps, apc⟩ (WD.setCell ⟨g', 0, none⟩ (.int .i64 1)) := by
    have hgw : w.heap.size ≤ g' := by have := FG.out; have := HGE.out; omega
    have low : Below w.heap.size w (WD.setCell ⟨g', 0, none⟩ (.int .i64 1)) := LD.out.setCell (p := ⟨g', 0, none⟩) hgw (.int .i64 1)
    have keep : ∀ k, k ≠ g' → (WD.setCell ⟨g', 0, none⟩ (.int .i64 1)).heap[k]? = WD.heap[k]? := fun k hk => heap_setCell_other WD ⟨g', 0, none⟩ k _ hk
    have bd : ∀ k, k < WB.heap.size → WD.heap[k]? = WB.heap[k]? := fun k hk => (LCD.out.block k (Nat.lt_of_lt_of_le hk LBC.out.size)).trans (LBC.out.block k hk)
    have PD : PkAt WD (willP 38) (willA g) := (HPL.out.below LBC.out).below LCD.out
    refine ⟨low, ?_, ?_, ?_, ?_, ?_, TB.out.below low⟩
    · rw [keep bx (by have := FG.out; have := HBX.out; omega), bd bx (lt_of_block GXB.out)]; exact GXB.out
    · rw [keep (g + 1) (by have := FG.out; omega), bd (g + 1) hg1.out, HC.out]; exact GP.out
    · rw [keep WC.heap.size (by have := FC.out; omega)]; exact GC.out
    · exact ⟨PD.w.kept (by simp [World.setCell]) (fun k i e _ => keep k (by cases e; have := FG.out; omega)), CL.nil, CL.nil, PL.nil⟩
    · refine ⟨?_, CL.nil, CL.nil, PL.nil⟩
      have h1 := (World.ownsRow.stored OD.out 0 (.int .i64 1)).1
      exact (own_cl h1 rfl).pl
  have T0 := T0.call (Below.refl _ _).drew
  have HT := Lib.hid T0
  clear T0
  have e11 : bs (nameK 11) = (⟨#[117, 110, 115, 117, 98, 97, 99, 107]⟩ : ByteArray) := by kernel_rfl
  have e0 : bs (nameK 0) = (⟨#[63]⟩ : ByteArray) := by kernel_rfl
  have e16 : bs (nameK 16) = (⟨#[63]⟩ : ByteArray) := by kernel_rfl
  refine nm_last (T := NmS w bx (g + 1) WC.heap.size 1 (willA g) ⟨some ⟨g', 0, none⟩, awc, acs, acc, afs, afc, aps, apc⟩) (p := willP 38) (C := pkC (willP 38) (willA g)) (E := pkC (willP 38) ⟨some ⟨g', 0, none⟩, awc, acs, acc, afs, afc, aps, apc⟩) (b7 := g + 1) (b8 := WC.heap.size) (g := g) (z1 := bx) HT.out (fun _ _ t hb => t.call hb) rfl rfl (fun _ t => t.p) (fun _ t => t.c) (fun _ t => t.x)
    (fun _ t => (cell_of_row _ _ 19 _ _ _ t.p).trans rfl) (fun W t => ?i) (fun W t => (hd_copy (willP 38) (willA g) W t.pl willP_ok (by decide) (by decide) (by decide) (by decide)).mono fun e w' ⟨x, he, ho, hb⟩ => ⟨x, he, ho.at_, hb⟩)
    (fun W x t hl => (hd_same (willP 38) (willP 38) (willA g) x W t.pl hl SH.out SH.out).mono fun e w' ⟨he, hb⟩ => ⟨by rw [he]; simp, hb⟩)
    (fun W t => (hd_same (willP 38) (willP 1) (willA g) ⟨some ⟨g', 0, none⟩, awc, acs, acc, afs, afc, aps, apc⟩ W t.pl t.cl SH.out SH1.out).mono fun e w' ⟨he, hb⟩ => ⟨by rw [he, NE.out], hb⟩)
    (fun W t => (name_any 11 W t.tab).mono fun e w' ⟨he, hw⟩ => ⟨by rw [he, e11], by rw [← hw]; exact Below.refl _ _⟩)
    (fun W t => (name_any 0 W t.tab).mono fun e w' ⟨he, hw⟩ => ⟨by rw [he, e0], by rw [← hw]; exact Below.refl _ _⟩)
    (fun W t => (name_any 16 W t.tab).mono fun e w' ⟨he, hw⟩ => ⟨by rw [he, e16], by rw [← hw]; exact Below.refl _ _⟩) ?_
  case i =>
    obtain ⟨gg, ii, e, _, h0, _⟩ := t.pl.w.at (j := 0) (p := ⟨38, 0, [], []⟩) rfl
    cases e
    exact h0
  intro v1 W hW
  have LZ := Lib.hid hW.low
  clear hW
  go_wp2_with fail
  go_ret
  exact ⟨rfl, LZ.out⟩
end Go.Proofs.YtnmdbbkcbedklaaDoor
