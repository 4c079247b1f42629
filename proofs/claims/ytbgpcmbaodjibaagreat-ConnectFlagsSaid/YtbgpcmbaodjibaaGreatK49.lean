/-
  The contracts of connect.reader's packet and of connect.Read. Condition: the bytes are no more than an int says.
  What the laws of layer 8 use of polyglotkit: None, SamePacket at a packet that was read. No condition.
-/
import Derived.Great.BuildSlice
import Derived.Test.YtbgpcmbaodjibaaGreatK42
import Derived.Test.YtbgpcmbaodjibaaGreatK46
import Derived.Test.YtbgpcmbaodjibaaGreatK48
import Derived.Test.YtbgpcmbaodjibaaGreatK22
namespace Go.Proofs.YtbgpcmbaodjibaaGreat
open Go.RowKit

section
variable {w W W' : World} {cb : Nat} {s : ByteArray} {x y : Cs} {v : Int} {P : Pk}
/-- What a packet's method returns, stored as the result of the one that calls it. -/
theorem PkRet.out {W0 : World} {B : Nat} {e : Ending} (h : PkRet W0 cb s y P e W) (hcb : cb < w.heap.size) (hB : w.heap.size ≤ B) (hB2 : B < W0.heap.size) (hg : w.grownBy W0 (some cb)) (D : Array Value) :
    PkRet w cb s y P e (W.setRow B D) := by
  obtain ⟨a, he, p1, p2, p3, p4, p5, p6, hc, hG⟩ := h
  have hr := row_kept W B D
  refine ⟨a, he, p1.grown hr (fun g i e => by have := p5 g i e; omega), p2, p3.grown hr (fun g i e => by have := p6 g i e; omega), p4, fun g i e => by have := p5 g i e; omega, fun g i e => by have := p6 g i e; omega, ?_, grown_row (grown_then hg hG) hB _⟩
  exact hc.of_block (setRow_other W B cb D (by omega))
set_option maxRecDepth 100000 in
set_option maxHeartbeats 1000000 in
theorem rd_packet (k : Int) (hk : k = 1 ∨ k = 2) (hm : s.size ≤ 9223372036854775807) (h : CsAt w cb s x) :
    Calls Tryz.prog 32 #[rdrV cb v, .int .i64 k] w (PkRet w cb s (if k = 1 then partsC v x else backC v x).2 (if k = 1 then partsC v x else backC v x).1) := by
  have S0 := Lib.hid (RkS.made (v := v) h)
  have CO := fun W (h : CsAt W cb s x) => rd_connect (v := v) hm h
  have AC := fun W (h : CsAt W cb s x) => rd_connack (v := v) hm h
  have HZ := Lib.hid pkZ_size
  have hzv := zero_pk
  have hne : ¬ pkZ = #[] := by intro h; have := pkZ_size; rw [h] at this; cases this
  have CB := Lib.hid h.lt
  unfold rdrV at *
  rcases hk with rfl | rfl
  · rw [if_pos rfl]
    generalize partsC v x = z at *
    obtain ⟨P, y⟩ := z
    have CO := Lib.hid CO
    clear AC h
    have ZW : ((w.alloc (.cells #[.pointer (some ⟨cb, 0, none⟩), .int .i64 v] 58)).alloc (.cells pkZ 32)).heap.size = w.heap.size + 2 := by simp
    have ZW := Lib.hid ZW
    go_enter Tryz.func32, Tryz.ntmps32
    have c0 := S0.out.c0
    have c1 := S0.out.c1
    go_wp2_with fail
    refine (CO.out _ S0.out.cs).mono ?_
    intro e W1 hR
    have hR0 := hR
    obtain ⟨a, rfl, hr⟩ := hR
    have hr1 := hr.2.2.2.2.2.2.2
    have GR := Lib.hid ((hr1.block (w.heap.size + 1) (by rw [ZW.out]; omega) (fun e => by have := Option.some.inj e; have := CB.out; omega)).trans S0.out.rs)
    have hD1 := pkC_size P a
    have hD2 := pkC_one P a
    obtain ⟨D, hD⟩ : ∃ D, pkC P a = D := ⟨_, rfl⟩
    rw [hD] at hD1 hD2 hR0 ⊢
    have RT := Lib.hid (hR0.out (B := w.heap.size + 1) CB.out (by omega) (by rw [ZW.out]; omega) S0.out.g D)
    have HD1 := Lib.hid hD1
    have HD2 := Lib.hid hD2
    clear hD1 hD2 hD hR0 hr hr1 c0 c1
    go_wp2_with (first
      | (refine wpList_store_row rfl _ _ _ rfl (w.heap.size + 1) D rfl rfl 32 _ GR.out (by rw [HD1.out]; exact info_pk) (by rw [HZ.out, HD1.out]) HD2.out ?_))
    exact ret_row (cs := D) rfl rfl rfl Tryz.underlying32 rfl (by rw [HD1.out]; exact info_pk) (setRow_heap _ _ _ _ _ _ GR.out) RT.out
  · rw [if_neg (by decide)]
    generalize backC v x = z at *
    obtain ⟨P, y⟩ := z
    have AC := Lib.hid AC
    clear CO h
    have ZW : ((w.alloc (.cells #[.pointer (some ⟨cb, 0, none⟩), .int .i64 v] 58)).alloc (.cells pkZ 32)).heap.size = w.heap.size + 2 := by simp
    have ZW := Lib.hid ZW
    go_enter Tryz.func32, Tryz.ntmps32
    have c0 := S0.out.c0
    have c1 := S0.out.c1
    go_wp2_with fail
    refine (AC.out _ S0.out.cs).mono ?_
    intro e W1 hR
    have hR0 := hR
    obtain ⟨a, rfl, hr⟩ := hR
    have hr1 := hr.2.2.2.2.2.2.2
    have GR := Lib.hid ((hr1.block (w.heap.size + 1) (by rw [ZW.out]; omega) (fun e => by have := Option.some.inj e; have := CB.out; omega)).trans S0.out.rs)
    have hD1 := pkC_size P a
    have hD2 := pkC_one P a
    obtain ⟨D, hD⟩ : ∃ D, pkC P a = D := ⟨_, rfl⟩
    rw [hD] at hD1 hD2 hR0 ⊢
    have RT := Lib.hid (hR0.out (B := w.heap.size + 1) CB.out (by omega) (by rw [ZW.out]; omega) S0.out.g D)
    have HD1 := Lib.hid hD1
    have HD2 := Lib.hid hD2
    clear hD1 hD2 hD hR0 hr hr1 c0 c1
    go_wp2_with (first
      | (refine wpList_store_row rfl _ _ _ rfl (w.heap.size + 1) D rfl rfl 32 _ GR.out (by rw [HD1.out]; exact info_pk) (by rw [HZ.out, HD1.out]) HD2.out ?_))
    exact ret_row (cs := D) rfl rfl rfl Tryz.underlying32 rfl (by rw [HD1.out]; exact info_pk) (setRow_heap _ _ _ _ _ _ GR.out) RT.out
/-- What stands while connect.Read ends: the result, the reader's box, the packet in its block, the cursor. -/
structure RrS (w : World) (cb : Nat) (s : ByteArray) (v : Int) (B B2 : Nat) (P : Pk) (a : Ad) (y : Cs) (W : World) : Prop where
  low : Below w.heap.size w W
  rs : W.heap[w.heap.size]? = some (.cells pkZ 32 (0, 0))
  bx : W.heap[B]? = some (.cells #[.pointer (some ⟨cb, 0, none⟩), .int .i64 v] 58 (0, 0))
  pk : W.heap[B2]? = some (.cells (pkC P a) 32 (0, 0))
  cs : CsAt W cb s y
  ps : PL W a.ps P.props
  ws : PL W a.w P.wProps
  c1 : w.heap.size < cb
  c2 : B ≠ cb
  c3 : B2 ≠ cb
  pf : ∀ g i, a.ps = some ⟨g, i, none⟩ → g ≠ cb
  wf : ∀ g i, a.w = some ⟨g, i, none⟩ → g ≠ cb
  pg : ∀ g i, a.ps = some ⟨g, i, none⟩ → g ≠ w.heap.size
  wg : ∀ g i, a.w = some ⟨g, i, none⟩ → g ≠ w.heap.size
section
variable {B B2 : Nat} {a : Ad} {y' : Cs}
theorem RrS.call (h : RrS w cb s v B B2 P a y W) (hc : CsAt W' cb s y') (hg : W.grownBy W' (some cb)) : RrS w cb s v B B2 P a y' W' :=
  ⟨h.low.grown hg h.low.size (fun k e => by have := Option.some.inj e; have := h.c1; omega), (hg.block _ (lt_of_block h.rs) (fun e => by have := Option.some.inj e; have := h.c1; omega)).trans h.rs, (hg.block _ (lt_of_block h.bx) (fun e => h.c2 (Option.some.inj e))).trans h.bx, (hg.block _ (lt_of_block h.pk) (fun e => h.c3 (Option.some.inj e))).trans h.pk, hc, h.ps.grown hg h.pf, h.ws.grown hg h.wf, h.c1, h.c2, h.c3, h.pf, h.wf, h.pg, h.wg⟩
theorem RrS.below (h : RrS w cb s v B B2 P a y W) (hb : Below W.heap.size W W') : RrS w cb s v B B2 P a y W' := h.call (h.cs.below hb) (grown_of_below hb _)
theorem RrS.drew (h : RrS w cb s v B B2 P a y W) : RrS w cb s v B B2 P a y W.drew := ⟨h.low.drew, h.rs, h.bx, h.pk, h.cs, h.ps, h.ws, h.c1, h.c2, h.c3, h.pf, h.wf, h.pg, h.wg⟩
theorem RrS.c0' (h : RrS w cb s v B B2 P a y W) : W.cell? ⟨B, 0, none⟩ = some (.pointer (some ⟨cb, 0, none⟩)) := cell_of_row _ _ 0 _ _ _ h.bx
theorem RrS.c1' (h : RrS w cb s v B B2 P a y W) : W.cell? ⟨B, 1, none⟩ = some (.int .i64 v) := cell_of_row _ _ 1 _ _ _ h.bx
end
/-- What connect.Read returns: a packet whose lists lie where it says, or nothing. -/
def RdRet (w : World) (R : Pk × Nat) (e : Ending) (W : World) : Prop :=
  ∃ a : Ad, e = .returned (.tuple #[.agg (pkC R.1 a), .int .i64 (R.2 : Nat)]) ∧ PkAt W R.1 a ∧ PkCap R.1 a ∧ FitP R.1 ∧ Below w.heap.size w W ∧ (R.2 ≠ 0 → a = adZ)
theorem zero_at (W : World) : PkAt W Pk.zero adZ := ⟨fun e => absurd rfl e, fun e => absurd rfl e, fun e => absurd rfl e, fun e => absurd rfl e⟩
theorem zero_cap : PkCap Pk.zero adZ := ⟨Nat.zero_le _, Nat.zero_le _, by decide⟩
set_option maxRecDepth 100000 in
set_option maxHeartbeats 4000000 in
theorem con_read (v k : Int) (s : ByteArray) (w : World) (hm : s.size ≤ 9223372036854775807) :
    Calls Tryz.prog 10 #[.int .i64 v, .int .i64 k, .string s] w (RdRet w (readC v k s.data.toList)) := by
  have KN := con_known v k
  have HZ := Lib.hid pkZ_size
  have hzv := zero_pk
  have hne : ¬ pkZ = #[] := by intro h; have := pkZ_size; rw [h] at this; cases this
  by_cases hk : (versC v && (k == 1 || k == 2)) = false
  · have e : readC v k s.data.toList = (Pk.zero, 2) := by unfold readC; rw [if_pos hk]
    rw [e]
    rw [hk] at KN
    have KN := Lib.hid KN
    have RT := Lib.hid (show RdRet w (Pk.zero, 2) (.returned (.tuple #[.agg pkZ, .int .i64 2])) ((w.alloc (.cells pkZ 32)).setRow w.heap.size pkZ) from ⟨adZ, rfl, zero_at _, zero_cap, fit_zero, belowRow (below_box _) (Nat.le_refl _) _, fun _ => rfl⟩)
    clear e hk
    go_enter Tryz.func10, Tryz.ntmps10
    go_wp2_with fail
    refine (KN.out _).mono ?_
    rintro e W ⟨rfl, rfl⟩
    go_wp2_with (first
      | (refine wpList_buildTo rfl 32 _ rfl (some 15) rfl pkZ (by kernel_rfl) ?_)
      | (refine wpList_store_row rfl _ _ _ rfl w.heap.size pkZ rfl rfl 32 _ (heap_alloc_new w _) (by rw [HZ.out]; exact info_pk) rfl (show pkZ.all (·.oneCell') = true from pkC_one Pk.zero adZ) ?_))
    refine ret_row2 (cs := pkZ) rfl rfl rfl rfl Tryz.underlying32 rfl (by rw [HZ.out]; exact info_pk) (setRow_heap _ _ _ _ _ _ (heap_alloc_new w _)) ?_
    exact RT.out
  · rw [Bool.not_eq_false] at hk
    have hk12 : k = 1 ∨ k = 2 := by simp only [Bool.and_eq_true, Bool.or_eq_true, beq_iff_eq] at hk; exact hk.2
    rw [hk] at KN
    have KN := Lib.hid KN
    have PA := fun cb x W (h : CsAt W cb s x) => rd_packet (v := v) k hk12 hm h
    have FI : FitP (if k = 1 then partsC v ⟨s.data.toList, 0⟩ else backC v ⟨s.data.toList, 0⟩).1 := by split; exact fit_parts v _; exact fit_back v _
    have e : readC v k s.data.toList = (let x := if k = 1 then partsC v ⟨s.data.toList, 0⟩ else backC v ⟨s.data.toList, 0⟩
      let z := (if (x.2.r.length : Int) == 0 then x.2 else x.2.fail 5).fail (validC v x.1)
      if z.e ≠ 0 then (Pk.zero, z.e) else (x.1, 0)) := by
      unfold readC
      rw [if_neg (by rw [hk]; decide)]
      simp only [fail_if]
      have h0 : ∀ l : List UInt8, (((l.length : Int) == 0) = false) = (l ≠ []) := fun l => by cases l <;> simp; omega
      simp only [h0]
    rw [e]
    have PA := fun cb W h => PA cb ⟨s.data.toList, 0⟩ W h
    generalize (if k = 1 then partsC v ⟨s.data.toList, 0⟩ else backC v ⟨s.data.toList, 0⟩) = z at *
    obtain ⟨P, y⟩ := z
    simp only at FI PA ⊢
    have RQ := fun (cb : Nat) W (h : CsAt W cb s y) => rd_require (v := v) ((y.r.length : Int) == 0) 5 h
    obtain ⟨b, hb⟩ : ∃ b, ((y.r.length : Int) == 0) = b := ⟨_, rfl⟩
    rw [hb] at RQ ⊢
    obtain ⟨y2, hy2⟩ : ∃ z, (if b = true then y else y.fail 5) = z := ⟨_, rfl⟩
    rw [hy2] at RQ ⊢
    obtain ⟨R, hR⟩ : ∃ R, (if (y2.fail (validC v P)).e ≠ 0 then (Pk.zero, (y2.fail (validC v P)).e) else (P, 0)) = R := ⟨_, rfl⟩
    rw [hR]
    have HR := Lib.hid hR
    have hyr : y2.r = y.r := by
      rw [← hy2]
      cases b
      · rw [if_neg (by decide)]; unfold Cs.fail; split <;> rfl
      · rfl
    have HYR := Lib.hid hyr
    have VA := fun (a : Ad) W (h : PkAt W P a) (hc : PkCap P a) => con_valid v P a W h FI.2.1 FI.1 hc
    have HFI := Lib.hid FI
    have HB := Lib.hid hb
    have PA := Lib.hid PA
    have RQ := Lib.hid RQ
    have VA := Lib.hid VA
    have ER := Lib.hid (fun (cb : Nat) W (h : CsAt W cb s y2) => cs_err h)
    have LF := Lib.hid (fun (cb : Nat) W (h : CsAt W cb s y) => cs_left hm h)
    have HM := Lib.hid hm
    unfold rdrV at *
    clear hk e hb hy2 hR FI hm hyr
    have ZW : (w.alloc (.cells pkZ 32)).heap.size = w.heap.size + 1 := by simp
    have ZW := Lib.hid ZW
    have RS0 := Lib.hid (heap_alloc_new w (.cells pkZ 32))
    have L0 := Lib.hid (below_box (w := w) (.cells pkZ 32))
    go_enter Tryz.func10, Tryz.ntmps10
    go_wp2_with fail
    refine (KN.out _).mono ?_
    rintro e W ⟨rfl, rfl⟩
    generalize w.alloc (.cells pkZ 32) = W0 at *
    go_wp2_with fail
    refine (new_any s _).mono ?_
    rintro e W1 ⟨rfl, hc, hb1, hz1⟩
    have C1 := (show CsAt W1 W0.heap.size s ⟨s.data.toList, 0⟩ from ⟨0, Nat.zero_le _, hc, by simp⟩)
    rw [ZW.out] at C1
    have C1 := Lib.hid C1
    have L1 := Lib.hid (below_then L0.out hb1)
    have R1 := Lib.hid ((hb1.block _ (lt_of_block RS0.out)).trans RS0.out)
    have Z1 := Lib.hid (show W1.heap.size = w.heap.size + 2 by rw [hz1, ZW.out])
    clear hc hb1 hz1
    have CX := Lib.hid (C1.out.alloc (.cells #[.pointer (some ⟨w.heap.size + 1, 0, none⟩), .int .i64 v] 58))
    have BX := Lib.hid (heap_alloc_new W1 (.cells #[.pointer (some ⟨w.heap.size + 1, 0, none⟩), .int .i64 v] 58))
    have LX := Lib.hid (below_then L1.out (below_box (.cells #[.pointer (some ⟨w.heap.size + 1, 0, none⟩), .int .i64 v] 58)))
    have RX := Lib.hid ((heap_alloc_old W1 (.cells #[.pointer (some ⟨w.heap.size + 1, 0, none⟩), .int .i64 v] 58) (lt_of_block R1.out)).trans R1.out)
    have ZX := Lib.hid (World.size_alloc W1 (.cells #[.pointer (some ⟨w.heap.size + 1, 0, none⟩), .int .i64 v] 58))
    go_wp2_with fail
    refine (PA.out _ _ CX.out).mono ?_
    rintro e W2 ⟨a, rfl, p1, p2, p3, p4, p5, p6, hc, hg⟩
    have L2 := LX.out.grown hg LX.out.size (fun k e => by have := Option.some.inj e; omega)
    have R2 := (hg.block _ (lt_of_block RX.out) (fun e => by have := Option.some.inj e; omega)).trans RX.out
    have B2 := (hg.block _ (lt_of_block BX.out) (fun e => by have := Option.some.inj e; have := Z1.out; omega)).trans BX.out
    have hD1 := pkC_size P a
    have hD2 := pkC_one P a
    have Z2 : w.heap.size + 3 ≤ W2.heap.size := by have := hg.size; have := ZX.out; have := Z1.out; omega
    have hbx := below_box (w := W2) (.cells pkZ 32)
    have hR3 : ∀ g, g < W2.heap.size → ((W2.alloc (.cells pkZ 32)).setRow W2.heap.size (pkC P a)).heap[g]? = W2.heap[g]? := fun g hg => (setRow_other _ _ _ _ (by omega)).trans (heap_alloc_old _ _ hg)
    have S3 : RrS w (w.heap.size + 1) s v W1.heap.size W2.heap.size P a y ((W2.alloc (.cells pkZ 32)).setRow W2.heap.size (pkC P a)) :=
      ⟨belowRow (L2.trans (hbx.mono L2.size)) (by omega) _, (hR3 _ (by omega)).trans R2, (hR3 _ (by have := Z1.out; omega)).trans B2, setRow_heap _ _ _ _ _ _ (heap_alloc_new W2 _), hc.of_block (hR3 _ hc.lt),
        p1.kept (by simp [World.setRow]) (fun g i e h => hR3 g h), p3.kept (by simp [World.setRow]) (fun g i e h => hR3 g h), by omega, by have := Z1.out; omega, by omega, fun g i e => by have := p5 g i e; have := ZX.out; have := Z1.out; omega, fun g i e => by have := p6 g i e; have := ZX.out; have := Z1.out; omega,
        fun g i e => by have := p5 g i e; have := ZX.out; have := Z1.out; omega, fun g i e => by have := p6 g i e; have := ZX.out; have := Z1.out; omega⟩
    have S3 := Lib.hid S3
    have CP := Lib.hid (PkCap.mk (p := P) (a := a) p2 p4 HFI.out.2.2.1)
    obtain ⟨D, hD⟩ : ∃ D, pkC P a = D := ⟨_, rfl⟩
    rw [hD] at hD1 hD2 S3 ⊢
    have HD := Lib.hid hD
    have HD1 := Lib.hid hD1
    have HD2 := Lib.hid hD2
    have PT : ∀ (y' : Cs) W, RrS w (w.heap.size + 1) s v W1.heap.size W2.heap.size P a y' W → PkAt W P a := fun y' W h => ⟨h.ws, by rw [HFI.out.2.2.2.1]; exact fun e => absurd rfl e, by rw [HFI.out.2.2.2.2]; exact fun e => absurd rfl e, h.ps⟩
    have PT := Lib.hid PT
    clear hc hg p1 p2 p3 p4 p5 p6 L2 R2 B2 hD hD1 hD2 Z2 hbx hR3
    go_upto_region 5 with (refine wpList_store_row rfl _ _ _ rfl W2.heap.size D rfl rfl 32 _ (heap_alloc_new W2 _) (by rw [HD1.out]; exact info_pk) (by rw [HZ.out, HD1.out]) HD2.out ?_)
    refine rleft_way (S := fun u W => RrS w (w.heap.size + 1) s v W1.heap.size W2.heap.size P a (if u = true then y2 else y) W) (B := W1.heap.size) (n := (y.r.length : Int)) (b := b) S3.out.drew (fun u W h => h.c0') (fun u W h => h.c1') HB.out (fun u W h => by
        cases u
        · exact (LF.out _ W h.cs).mono fun e w' ⟨he, n, hn⟩ => ⟨he, hn ▸ h.below (below_draws (Below.refl _ _) n)⟩
        · have hl := h.cs
          have := cs_left (s := s) (by have := S3.out.cs; exact HM.out) hl
          rw [if_pos rfl, HYR.out] at this
          exact this.mono fun e w' ⟨he, n, hn⟩ => ⟨he, hn ▸ h.below (below_draws (Below.refl _ _) n)⟩) (fun u W h hu => by
        subst hu
        exact (RQ.out _ W h.cs).mono fun e w' ⟨he, hc, hg⟩ => ⟨he, h.call hc hg⟩) ?_
    intro W5 hS
    have S5 := Lib.hid (show RrS w (w.heap.size + 1) s v W1.heap.size W2.heap.size P a y2 W5 from hS)
    clear hS S3
    have c0 := S5.out.c0'
    have c1 := S5.out.c1'
    go_wp2_with fail
    refine (ER.out _ _ S5.out.cs).mono ?_
    rintro e W6 ⟨rfl, rfl⟩
    have P5 := S5.out.pk
    rw [HD.out] at P5
    have P5 := Lib.hid P5
    clear c0 c1
    by_cases he : y2.e = 0
    · have hr := HR.out
      have hr2 : R = if validC v P ≠ 0 then (Pk.zero, validC v P) else (P, 0) := by
        rw [← hr]
        have : (y2.fail (validC v P)).e = validC v P := by unfold Cs.fail; rw [if_neg (by simpa using he)]
        rw [this]
      rw [he]
      have HRb := Lib.hid hr2
      generalize validC v P = V at *
      clear hr hr2 HR he
      go_wp2_with (refine wpList_load_row rfl _ _ rfl W2.heap.size rfl 32 D (0, 0) _ P5.out Tryz.underlying32 rfl (by rw [HD1.out]; exact info_pk) ?_)
      have VX := VA.out a W5 (PT.out _ _ S5.out) CP.out
      unfold pkV at VX
      rw [HD.out] at VX
      refine VX.mono ?_
      rintro e W7 ⟨rfl, hb7⟩
      have S7 := Lib.hid (S5.out.below hb7)
      have P7 := S7.out.pk
      rw [HD.out] at P7
      have P7 := Lib.hid P7
      clear VX hb7
      by_cases hV : V = 0
      · have HRa := Lib.hid (show R = (P, 0) by rw [HRb.out, if_neg (by simpa using hV)])
        subst hV
        clear HRb
        go_wp2_with (first
          | (refine wpList_load_row rfl _ _ rfl W2.heap.size rfl 32 D (0, 0) _ P7.out Tryz.underlying32 rfl (by rw [HD1.out]; exact info_pk) ?_)
          | (refine wpList_store_row rfl _ _ _ rfl w.heap.size D rfl rfl 32 _ S7.out.rs (by rw [HD1.out]; exact info_pk) (by rw [HZ.out, HD1.out]) HD2.out ?_))
        refine ret_row2 (cs := D) rfl rfl rfl rfl Tryz.underlying32 rfl (by rw [HD1.out]; exact info_pk) (setRow_heap _ _ _ _ _ _ S7.out.rs) ?_
        rw [HRa.out]
        have hr := row_kept W7 w.heap.size D
        have hA := PT.out _ _ S7.out
        exact ⟨a, by rw [HD.out]; rfl, ⟨hA.w.grown hr S7.out.wg, by rw [HFI.out.2.2.2.1]; exact fun e => absurd rfl e, by rw [HFI.out.2.2.2.2]; exact fun e => absurd rfl e, hA.ps.grown hr S7.out.pg⟩, CP.out, HFI.out, belowRow S7.out.low (Nat.le_refl _) _, fun h => absurd rfl h⟩
      · have HRa := Lib.hid (show R = (Pk.zero, V) by rw [HRb.out, if_pos hV])
        have hv1 : ((V : Int) == 0) = false := by simp; omega
        have hv2 : ((V : Int) != 0) = true := by simp; omega
        clear HRb hV
        go_wp2_with (first
          | (refine wpList_buildTo rfl 32 _ rfl (some 39) rfl pkZ (by kernel_rfl) ?_)
          | (refine wpList_store_row rfl _ _ _ rfl w.heap.size pkZ rfl rfl 32 _ S7.out.rs (by rw [HZ.out]; exact info_pk) rfl (show pkZ.all (·.oneCell') = true from pkC_one Pk.zero adZ) ?_))
        refine ret_row2 (cs := pkZ) rfl rfl rfl rfl Tryz.underlying32 rfl (by rw [HZ.out]; exact info_pk) (setRow_heap _ _ _ _ _ _ S7.out.rs) ?_
        rw [HRa.out]
        exact ⟨adZ, rfl, zero_at _, zero_cap, fit_zero, belowRow S7.out.low (Nat.le_refl _) _, fun _ => rfl⟩
    · have hr := HR.out
      have hr2 : R = (Pk.zero, y2.e) := by
        rw [← hr]
        have : (y2.fail (validC v P)).e = y2.e := by unfold Cs.fail; rw [if_pos he]
        rw [this, if_pos he]
      have HRa := Lib.hid hr2
      have hv1 : ((y2.e : Int) == 0) = false := by simp; omega
      have hv2 : ((y2.e : Int) != 0) = true := by simp; omega
      clear hr hr2 HR he
      go_wp2_with (first
        | (refine wpList_buildTo rfl 32 _ rfl (some 39) rfl pkZ (by kernel_rfl) ?_)
        | (refine wpList_store_row rfl _ _ _ rfl w.heap.size pkZ rfl rfl 32 _ S5.out.rs (by rw [HZ.out]; exact info_pk) rfl (show pkZ.all (·.oneCell') = true from pkC_one Pk.zero adZ) ?_))
      refine ret_row2 (cs := pkZ) rfl rfl rfl rfl Tryz.underlying32 rfl (by rw [HZ.out]; exact info_pk) (setRow_heap _ _ _ _ _ _ S5.out.rs) ?_
      rw [HRa.out]
      exact ⟨adZ, rfl, zero_at _, zero_cap, fit_zero, belowRow S5.out.low (Nat.le_refl _) _, fun _ => rfl⟩
end
end Go.Proofs.YtbgpcmbaodjibaaGreat
namespace Go.Proofs.YtbgpcmbaodjibaaGreat
open Go.RowKit

set_option maxRecDepth 100000 in
/-- polyglotkit.None at the packet that is nothing. -/
theorem none_zero (w : World) : Calls Tryz.prog 21 #[.agg pkZ] w fun e w' => e = .returned (.bool true) ∧ Below w.heap.size w w' := by
  have B0 := Lib.hid (below_box (w := w) (.cells pkZ 32))
  have SM := fun W => ksame_pk Pk.zero adZ adZ W (zero_at W) (zero_at W) (by decide) (by decide) (by decide) (by decide)
  unfold pkV at SM
  rw [pkC_zero] at SM
  have SM := Lib.hid SM
  have HZ := Lib.hid pkZ_size
  have hzv := zero_pk
  have hne : ¬ pkZ = #[] := by intro h; have := pkZ_size; rw [h] at this; cases this
  go_enter Tryz.func21, Tryz.ntmps21
  go_wp2_with (first
    | (refine wpList_load_row rfl _ _ rfl w.heap.size rfl 32 pkZ (0, 0) _ (heap_alloc_new w _) Tryz.underlying32 rfl (by rw [HZ.out]; exact info_pk) ?_)
    | (refine wpList_buildTo rfl 32 _ rfl (some 4) rfl pkZ (by kernel_rfl) ?_))
  refine (SM.out _).mono ?_
  rintro e W ⟨rfl, hb⟩
  have LO := Lib.hid (below_then B0.out hb)
  clear hb
  go_wp2_with fail
  go_ret
  exact ⟨rfl, LO.out⟩
end Go.Proofs.YtbgpcmbaodjibaaGreat
