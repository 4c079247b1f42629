/-
  The contract of connect.reader's flags. Condition: the bytes are no more than an int says.
  The contract of connect.reader's connack. Condition: the bytes are no more than an int says.
  The contract of connect.reader's connect. Condition: the bytes are no more than an int says.
-/
import Derived.Deep.DeepCutAuto
import Derived.Test.YtbgpcmbaodjibaaGreatK39
import Derived.Test.YtbgpcmbaodjibaaGreatK40
namespace Go.Proofs.YtbgpcmbaodjibaaGreat
open Go.RowKit

section
variable {w W W' : World} {cb : Nat} {s : ByteArray} {x : Cs} {v : Int}
theorem num_one_lt (x : Cs) : (x.num 1).1 < 256 := by
  unfold Cs.num
  have h1 := num_lt (x.take 1).1
  have hl : (x.take 1).1.length ≤ 1 := by
    unfold Cs.take
    split
    · simp
    · split
      · simp
      · simp; omega
  have : 256 ^ (x.take 1).1.length ≤ 256 ^ 1 := Nat.pow_le_pow_right (by decide) hl
  omega
theorem flags_fit_wrong : ∀ f < 256, ∀ b4 : Bool, (f % 2 == 0 && (decide ((0 : Int) ≤ (f / 8 % 4 : Nat)) && decide (((f / 8 % 4 : Nat) : Int) ≤ 2) && ((f / 4 % 2 == 1) || (((f / 8 % 4 : Nat) : Int) == 0 && !(f / 32 % 2 == 1))) && !(b4 && (f / 64 % 2 == 1) && !(f / 128 % 2 == 1)))) =
    !(f % 2 == 1 || f / 8 % 4 == 3 || (f / 4 % 2 == 0 && f / 8 % 8 != 0) || (b4 && f / 64 == 1)) := by decide +kernel
theorem fit_wrong (v : Int) {f : Nat} (hf : f < 256) : (f % 2 == 0 && fitC v (f / 4 % 2 == 1) (f / 64 % 2 == 1) (f / 128 % 2 == 1) (f / 32 % 2 == 1) (f / 8 % 4 : Nat)) = !wrongC v f := flags_fit_wrong f hf (v == 4)
theorem fail_if (y : Cs) (b : Bool) (f : Nat) : (if b then y else y.fail f) = if y.e = 0 ∧ b = false then y.fail f else y := by
  cases b
  · by_cases h : y.e = 0
    · simp [h]
    · simp [h, Cs.fail]
  · simp
/-- What stands while a reader's method runs: its box and its result's in front, the cursor where y says. -/
structure RkS (w : World) (cb : Nat) (s : ByteArray) (v : Int) (y : Cs) (W : World) : Prop where
  lt : cb < w.heap.size
  g : w.grownBy W (some cb)
  bx : W.heap[w.heap.size]? = some (.cells #[.pointer (some ⟨cb, 0, none⟩), .int .i64 v] 58 (0, 0))
  rs : W.heap[w.heap.size + 1]? = some (.cells pkZ 32 (0, 0))
  cs : CsAt W cb s y
theorem RkS.made (h : CsAt w cb s x) : RkS w cb s v x ((w.alloc (.cells #[.pointer (some ⟨cb, 0, none⟩), .int .i64 v] 58)).alloc (.cells pkZ 32)) :=
  ⟨h.lt, grown_then (World.grownBy_alloc _ _ _) (World.grownBy_alloc _ _ _), heap_alloc2_old _ _ _, heap_alloc2_new _ _ _, (h.alloc _).alloc _⟩
theorem RkS.call {y y' : Cs} (h : RkS w cb s v y W) (hc : CsAt W' cb s y') (hg : W.grownBy W' (some cb)) : RkS w cb s v y' W' :=
  ⟨h.lt, grown_then h.g hg, (hg.block _ (lt_of_block h.bx) (fun e => by have := Option.some.inj e; have := h.lt; omega)).trans h.bx, (hg.block _ (lt_of_block h.rs) (fun e => by have := Option.some.inj e; have := h.lt; omega)).trans h.rs, hc⟩
theorem RkS.below {y : Cs} (h : RkS w cb s v y W) (hb : Below W.heap.size W W') : RkS w cb s v y W' := h.call (h.cs.below hb) (grown_of_below hb _)
theorem RkS.drew {y : Cs} (h : RkS w cb s v y W) : RkS w cb s v y W.drew := ⟨h.lt, grown_draws h.g 1, h.bx, h.rs, h.cs⟩
theorem RkS.c0 {y : Cs} (h : RkS w cb s v y W) : W.cell? ⟨w.heap.size, 0, none⟩ = some (.pointer (some ⟨cb, 0, none⟩)) := cell_of_row _ _ 0 _ _ _ h.bx
theorem RkS.c1 {y : Cs} (h : RkS w cb s v y W) : W.cell? ⟨w.heap.size, 1, none⟩ = some (.int .i64 v) := cell_of_row _ _ 1 _ _ _ h.bx
/-- Another block changes, behind the two. -/
theorem RkS.other {y : Cs} (h : RkS w cb s v y W) {B : Nat} (hB : w.heap.size + 2 ≤ B) (hg : W.grownBy W' (some B)) : RkS w cb s v y W' :=
  ⟨h.lt, ⟨hg.os.trans h.g.os, hg.tape.trans h.g.tape, hg.output.trans h.g.output, Nat.le_trans h.g.size hg.size, fun k hk hne => (hg.block k (Nat.lt_of_lt_of_le hk h.g.size) (fun e => by have := Option.some.inj e; omega)).trans (h.g.block k hk hne)⟩,
   (hg.block _ (lt_of_block h.bx) (fun e => by have := Option.some.inj e; omega)).trans h.bx, (hg.block _ (lt_of_block h.rs) (fun e => by have := Option.some.inj e; omega)).trans h.rs,
   h.cs.of_block (hg.block _ h.cs.lt (fun e => by have := Option.some.inj e; have := h.lt; omega))⟩
theorem grown_row {B : Nat} {r : Option Nat} (h : w.grownBy W r) (hB : w.heap.size ≤ B) (D : Array Value) : w.grownBy (W.setRow B D) r :=
  ⟨h.os, h.tape, h.output, by have := h.size; simpa [World.setRow] using this, fun k hk hne => (setRow_other _ _ _ _ (by omega)).trans (h.block k hk hne)⟩
theorem row_kept (W : World) (B : Nat) (D : Array Value) : W.grownBy (W.setRow B D) (some B) :=
  ⟨rfl, rfl, rfl, by simp [World.setRow], fun k _ hne => setRow_other _ _ _ _ (fun e => hne (congrArg some e))⟩
set_option maxRecDepth 100000 in
set_option maxHeartbeats 2000000 in
theorem rd_flags (hm : s.size ≤ 9223372036854775807) (h : CsAt w cb s x) :
    Calls Tryz.prog 106 #[rdrV cb v] w fun e w' => e = .returned (.agg (pkC (descP (x.flags v).1) adZ)) ∧ CsAt w' cb s (x.flags v).2 ∧ w.grownBy w' (some cb) := by
  have S0 := Lib.hid (RkS.made (v := v) h)
  have OC := Lib.hid (fun W (h : CsAt W cb s x) => rd_octet (v := v) hm h)
  have hf := num_one_lt x
  unfold Cs.flags
  rw [show (if (x.num 1).2.e = 0 ∧ wrongC v (x.num 1).1 = true then (x.num 1).2.fail 7 else (x.num 1).2) = (if (!wrongC v (x.num 1).1) then (x.num 1).2 else (x.num 1).2.fail 7) by rw [fail_if]; simp]
  generalize x.num 1 = z at *
  obtain ⟨f, y⟩ := z
  have hw := fit_wrong v hf
  obtain ⟨_, _, _, _, _, _, hb1⟩ := desc_bits f hf
  have DE := Lib.hid (con_described f hf)
  have RQ := Lib.hid (fun (b : Bool) W (h : CsAt W cb s y) => rd_require (v := v) b 7 h)
  have FF := fun W => con_flags_fit v (c := pkC (descP f) adZ) W (show (pkC (descP f) adZ)[10]? = some (.bool (f / 128 % 2 == 1)) from rfl) (show (pkC (descP f) adZ)[12]? = some (.bool (f / 64 % 2 == 1)) from rfl) (show (pkC (descP f) adZ)[14]? = some (.bool (f / 4 % 2 == 1)) from rfl) (show (pkC (descP f) adZ)[17]? = some (.int .i64 (f / 8 % 4 : Nat)) from rfl) (show (pkC (descP f) adZ)[18]? = some (.bool (f / 32 % 2 == 1)) from rfl)
  simp only at hf hw ⊢
  rw [← hw]
  generalize fitC v (f / 4 % 2 == 1) (f / 64 % 2 == 1) (f / 128 % 2 == 1) (f / 32 % 2 == 1) (f / 8 % 4 : Nat) = b at *
  obtain ⟨g, hgb⟩ : ∃ g, (f % 2 == 0 && b) = g := ⟨_, rfl⟩
  rw [hgb]
  have HGB := Lib.hid hgb
  obtain ⟨yf, hyf⟩ : ∃ z, (if g = true then y else y.fail 7) = z := ⟨_, rfl⟩
  rw [hyf]
  have HY := Lib.hid hyf
  clear hgb hyf
  have hD1 := pkC_size (descP f) adZ
  have hD2 := pkC_one (descP f) adZ
  generalize pkC (descP f) adZ = D at *
  have FF := Lib.hid FF
  have HD1 := Lib.hid hD1
  have HD2 := Lib.hid hD2
  have HZ := Lib.hid pkZ_size
  have hzv := zero_pk
  have hne : ¬ pkZ = #[] := by intro h; have := pkZ_size; rw [h] at this; cases this
  obtain ⟨m, hm1⟩ : ∃ m, bits .and .i64 (f : Int) 1 = m := ⟨_, rfl⟩
  rw [hm1] at hb1
  have HM := Lib.hid hm1
  unfold rdrV at *
  clear hD1 hD2 hf hw h
  go_enter Tryz.func106, Tryz.ntmps106
  have c0 := S0.out.c0
  have c1 := S0.out.c1
  go_wp2_with fail
  refine (OC.out _ S0.out.cs).mono ?_
  rintro e W1 ⟨rfl, hc, hg⟩
  have S1 := Lib.hid (S0.out.call hc hg)
  clear hc hg c0 c1
  have c0 := S1.out.c0
  have c1 := S1.out.c1
  go_wp2_with fail
  refine (DE.out _).mono ?_
  rintro e W2 ⟨rfl, hb⟩
  have S2 := Lib.hid (S1.out.below hb)
  clear hb c0 c1
  have Z2 := Lib.hid (show w.heap.size + 2 ≤ W2.heap.size from lt_of_block S2.out.rs)
  have SP := Lib.hid ((S2.out.below (below_box (.cells pkZ 32))).other Z2.out (W' := (W2.alloc (.cells pkZ 32)).setRow W2.heap.size D) (row_kept _ _ _))
  have GP := Lib.hid (setRow_heap _ _ _ D _ _ (heap_alloc_new W2 (.cells pkZ 32)))
  have CB := Lib.hid S2.out.lt
  cases hz : (f % 2 == 0) with
  | true =>
      rw [hz] at hb1
      have hgb := HGB.out
      rw [hz, Bool.true_and] at hgb
      have HGB2 := Lib.hid hgb
      clear HGB hgb
      have HB := Lib.hid hb1
      clear hz hb1
      go_upto_region 3 with (first
        | (refine wpList_store_row rfl _ _ _ rfl W2.heap.size D rfl rfl 32 _ (heap_alloc_new W2 _) (by rw [HD1.out]; exact info_pk) (by rw [HZ.out, HD1.out]) HD2.out ?_))
      refine rflags_way1 (S := fun u W => RkS w cb s v (if u = true then (if b = true then y else y.fail 7) else y) W ∧ W.heap[W2.heap.size]? = some (.cells D 32 (0, 0))) (B := w.heap.size) (P := W2.heap.size) ⟨SP.out.drew, GP.out⟩ (fun u W h => h.1.c0) (fun u W h => h.1.c1) HM.out HB.out HD1.out (fun u W h => h.2) (fun u W h => (FF.out W).mono fun e w' ⟨he, hb⟩ => ⟨he, h.1.below hb, (hb.block _ (lt_of_block h.2)).trans h.2⟩) (fun u W h hu => by
        subst hu
        exact (RQ.out b W h.1.cs).mono fun e w' ⟨he, hc, hg⟩ => ⟨he, h.1.call hc hg, (hg.block _ (lt_of_block h.2) (fun e => by have := Option.some.inj e; have := CB.out; have := Z2.out; omega)).trans h.2⟩) ?_
      intro W3 hS
      have hS1 := hS.1
      rw [if_pos rfl, HGB2.out, HY.out] at hS1
      have S3 := Lib.hid hS1
      have G3 := Lib.hid hS.2
      clear hS hS1
      go_wp2_with (first
        | (refine wpList_load_row rfl _ _ rfl W2.heap.size rfl 32 D (0, 0) _ G3.out Tryz.underlying32 rfl (by rw [HD1.out]; exact info_pk) ?_)
        | (refine wpList_store_row rfl _ _ _ rfl (w.heap.size + 1) D rfl rfl 32 _ S3.out.rs (by rw [HD1.out]; exact info_pk) (by rw [HZ.out, HD1.out]) HD2.out ?_))
      refine ret_row (cs := D) rfl rfl rfl Tryz.underlying32 rfl (by rw [HD1.out]; exact info_pk) (setRow_heap _ _ _ _ _ _ S3.out.rs) ⟨rfl, ?_, ?_⟩
      · exact S3.out.cs.of_block (setRow_other W3 (w.heap.size + 1) cb D (Nat.ne_of_lt (Nat.lt_succ_of_lt S3.out.lt)))
      · exact grown_row S3.out.g (by omega) _
  | false =>
      rw [hz] at hb1
      have hgb := HGB.out
      rw [hz, Bool.false_and] at hgb
      have HGB2 := Lib.hid hgb
      clear HGB hgb
      have HB := Lib.hid hb1
      clear hz hb1
      go_upto_region 3 with (first
        | (refine wpList_store_row rfl _ _ _ rfl W2.heap.size D rfl rfl 32 _ (heap_alloc_new W2 _) (by rw [HD1.out]; exact info_pk) (by rw [HZ.out, HD1.out]) HD2.out ?_))
      refine rflags_way0 (S := fun u W => RkS w cb s v (if u = true then (if false = true then y else y.fail 7) else y) W ∧ W.heap[W2.heap.size]? = some (.cells D 32 (0, 0))) (B := w.heap.size) (P := W2.heap.size) ⟨SP.out.drew, GP.out⟩ (fun u W h => h.1.c0) (fun u W h => h.1.c1) HM.out HB.out (fun u W h hu => by
        subst hu
        exact (RQ.out false W h.1.cs).mono fun e w' ⟨he, hc, hg⟩ => ⟨he, h.1.call hc hg, (hg.block _ (lt_of_block h.2) (fun e => by have := Option.some.inj e; have := CB.out; have := Z2.out; omega)).trans h.2⟩) ?_
      intro W3 hS
      have hS1 := hS.1
      rw [if_pos rfl, HGB2.out, HY.out] at hS1
      have S3 := Lib.hid hS1
      have G3 := Lib.hid hS.2
      clear hS hS1
      go_wp2_with (first
        | (refine wpList_load_row rfl _ _ rfl W2.heap.size rfl 32 D (0, 0) _ G3.out Tryz.underlying32 rfl (by rw [HD1.out]; exact info_pk) ?_)
        | (refine wpList_store_row rfl _ _ _ rfl (w.heap.size + 1) D rfl rfl 32 _ S3.out.rs (by rw [HD1.out]; exact info_pk) (by rw [HZ.out, HD1.out]) HD2.out ?_))
      refine ret_row (cs := D) rfl rfl rfl Tryz.underlying32 rfl (by rw [HD1.out]; exact info_pk) (setRow_heap _ _ _ _ _ _ S3.out.rs) ⟨rfl, ?_, ?_⟩
      · exact S3.out.cs.of_block (setRow_other W3 (w.heap.size + 1) cb D (Nat.ne_of_lt (Nat.lt_succ_of_lt S3.out.lt)))
      · exact grown_row S3.out.g (by omega) _
end
end Go.Proofs.YtbgpcmbaodjibaaGreat
namespace Go.Proofs.YtbgpcmbaodjibaaGreat
open Go.RowKit

/-- What stands while a packet is read: the reader's box, the result, the packet in block B, its lists behind it. -/
structure ReS (w : World) (cb : Nat) (s : ByteArray) (v : Int) (B : Nat) (y : Cs) (P : Pk) (a : Ad) (W : World) : Prop where
  rk : RkS w cb s v y W
  hB : w.heap.size + 2 ≤ B
  pk : W.heap[B]? = some (.cells (pkC P a) 32 (0, 0))
  ps : PL W a.ps P.props
  pc : P.props.length ≤ a.pc
  pf : ∀ g i, a.ps = some ⟨g, i, none⟩ → B < g
  ws : PL W a.w P.wProps
  wc : P.wProps.length ≤ a.wc
  wf : ∀ g i, a.w = some ⟨g, i, none⟩ → B < g
section
variable {w W W' : World} {cb : Nat} {s : ByteArray} {x y y' : Cs} {v : Int} {B : Nat} {P P' : Pk} {a a' : Ad}
theorem ReS.ne (h : ReS w cb s v B y P a W) : B ≠ cb := by have := h.rk.lt; have := h.hB; omega
theorem ReS.call (h : ReS w cb s v B y P a W) (hc : CsAt W' cb s y') (hg : W.grownBy W' (some cb)) : ReS w cb s v B y' P a W' :=
  ⟨h.rk.call hc hg, h.hB, (hg.block _ (lt_of_block h.pk) (fun e => h.ne (Option.some.inj e))).trans h.pk, h.ps.grown hg (fun g i e => by have := h.pf g i e; have := h.rk.lt; have := h.hB; omega), h.pc, h.pf, h.ws.grown hg (fun g i e => by have := h.wf g i e; have := h.rk.lt; have := h.hB; omega), h.wc, h.wf⟩
theorem ReS.cell (h : ReS w cb s v B y P a W) (j : Nat) : W.cell? ⟨B, j, none⟩ = (pkC P a)[j]? := cell_of_row _ _ j _ _ _ h.pk
theorem ReS.fr (h : ReS w cb s v B y P a W) (j : Nat) : W.frozen? ⟨B, j, none⟩ = false := frozen_of_row _ _ _ _ _ h.pk
theorem ReS.put (h : ReS w cb s v B y P a W) (j : Nat) (u : Value) (he : (pkC P a).setIfInBounds j u = pkC P' a) (hp : P'.props = P.props) (hw : P'.wProps = P.wProps) : ReS w cb s v B y P' a (W.setCell ⟨B, j, none⟩ u) := by
  have hg := block_kept W B j u
  refine ⟨h.rk.other h.hB hg, h.hB, by have := setCell_block h.pk j u; rw [he] at this; exact this, ?_, by rw [hp]; exact h.pc, h.pf, ?_, by rw [hw]; exact h.wc, h.wf⟩
  · rw [hp]; exact h.ps.grown hg (fun g i e => by have := h.pf g i e; omega)
  · rw [hw]; exact h.ws.grown hg (fun g i e => by have := h.wf g i e; omega)
theorem ReS.putPs (h : ReS w cb s v B y P a W) {A : Option Addr} {c : Nat} {L : List Pr} (hL : PL W A L) (hc : L.length ≤ c) (hf : ∀ g i, A = some ⟨g, i, none⟩ → B < g) : ReS w cb s v B y { P with props := L } { a with ps := A, pc := c } (W.setCell ⟨B, 24, none⟩ (.slice A L.length c)) := by
  have hg := block_kept W B 24 (.slice A L.length c)
  exact ⟨h.rk.other h.hB hg, h.hB, setCell_block h.pk 24 (.slice A L.length c), hL.grown hg (fun g i e => by have := hf g i e; omega), hc, hf, h.ws.grown hg (fun g i e => by have := h.wf g i e; omega), h.wc, h.wf⟩
theorem ReS.putWs (h : ReS w cb s v B y P a W) {A : Option Addr} {c : Nat} {L : List Pr} (hL : PL W A L) (hc : L.length ≤ c) (hf : ∀ g i, A = some ⟨g, i, none⟩ → B < g) : ReS w cb s v B y { P with wProps := L } { a with w := A, wc := c } (W.setCell ⟨B, 19, none⟩ (.slice A L.length c)) := by
  have hg := block_kept W B 19 (.slice A L.length c)
  exact ⟨h.rk.other h.hB hg, h.hB, setCell_block h.pk 19 (.slice A L.length c), h.ps.grown hg (fun g i e => by have := h.pf g i e; omega), h.pc, h.pf, hL.grown hg (fun g i e => by have := hf g i e; omega), hc, hf⟩
/-- A packet has just been laid. -/
theorem ReS.laid (h : RkS w cb s v y W) {D : Array Value} (hD : pkC P adZ = D) (hp : P.props = []) (hw : P.wProps = []) : ReS w cb s v W.heap.size y P adZ ((W.alloc (.cells pkZ 32)).setRow W.heap.size D) := by
  have Z := lt_of_block h.rs
  refine ⟨(h.below (below_box (.cells pkZ 32))).other Z (row_kept _ _ _), Z, by rw [hD]; exact setRow_heap _ _ _ D _ _ (heap_alloc_new W _), ?_, by rw [hp]; exact Nat.zero_le _, fun g i e => (by cases e), ?_, by rw [hw]; exact Nat.zero_le _, fun g i e => (by cases e)⟩
  · rw [hp]; exact PL.nil
  · rw [hw]; exact PL.nil
/-- What a method that reads a packet returns. -/
def PkRet (w : World) (cb : Nat) (s : ByteArray) (y : Cs) (P : Pk) (e : Ending) (W : World) : Prop :=
  ∃ a : Ad, e = .returned (.agg (pkC P a)) ∧ PL W a.ps P.props ∧ P.props.length ≤ a.pc ∧ PL W a.w P.wProps ∧ P.wProps.length ≤ a.wc ∧ (∀ g i, a.ps = some ⟨g, i, none⟩ → w.heap.size ≤ g) ∧ (∀ g i, a.w = some ⟨g, i, none⟩ → w.heap.size ≤ g) ∧ CsAt W cb s y ∧ w.grownBy W (some cb)
theorem ReS.ret (h : ReS w cb s v B y P a W) (D : Array Value) : PkRet w cb s y P (.returned (.agg (pkC P a))) (W.setRow (w.heap.size + 1) D) := by
  have hg := row_kept W (w.heap.size + 1) D
  have hb := h.hB
  refine ⟨a, rfl, h.ps.grown hg (fun g i e => by have := h.pf g i e; omega), h.pc, h.ws.grown hg (fun g i e => by have := h.wf g i e; omega), h.wc, fun g i e => by have := h.pf g i e; omega, fun g i e => by have := h.wf g i e; omega, ?_, grown_row h.rk.g (by omega) _⟩
  exact h.rk.cs.of_block (setRow_other W (w.heap.size + 1) cb D (Nat.ne_of_lt (Nat.lt_succ_of_lt h.rk.lt)))
theorem not_one : ∀ f : Nat, f < 256 → (bits .andNot .i64 (f : Int) 1 == 0) = decide (f ≤ 1) := by decide +kernel
set_option maxRecDepth 100000 in
set_option maxHeartbeats 2000000 in
theorem rd_connack (hm : s.size ≤ 9223372036854775807) (h : CsAt w cb s x) :
    Calls Tryz.prog 66 #[rdrV cb v] w (PkRet w cb s (backC v x).2 (backC v x).1) := by
  have S0 := Lib.hid (RkS.made (v := v) h)
  have hf := num_one_lt x
  obtain ⟨z, hz⟩ : ∃ z, x.num 1 = z := ⟨_, rfl⟩
  obtain ⟨f, y1⟩ := z
  rw [hz] at hf
  obtain ⟨y2, hy2⟩ : ∃ z, (if f > 1 then y1.fail 7 else y1) = z := ⟨_, rfl⟩
  obtain ⟨z, hz3⟩ : ∃ z, y2.num 1 = z := ⟨_, rfl⟩
  obtain ⟨c, y3⟩ := z
  obtain ⟨z, hz4⟩ : ∃ z, y3.props v 2 = z := ⟨_, rfl⟩
  obtain ⟨L, y4⟩ := z
  have e : backC v x = ({ Pk.zero with kind := 2, session := f == 1, code := (c : Int), props := L }, y4) := by
    unfold backC
    simp only [hz, hy2, hz3, hz4]
  rw [e]
  have O1 := fun W (h : CsAt W cb s x) => rd_octet (v := v) hm h
  have O2 := fun W (h : CsAt W cb s y2) => rd_octet (v := v) hm h
  have PR := fun W (h : CsAt W cb s y3) => rd_props (v := v) 2 (by decide) (by decide) hm h
  have RQ := fun W (h : CsAt W cb s y1) => rd_require (v := v) (decide (f ≤ 1)) 7 h
  have ey2 : (if decide (f ≤ 1) then y1 else y1.fail 7) = y2 := by
    rw [← hy2]
    by_cases h1 : f ≤ 1
    · rw [decide_eq_true h1, if_pos rfl, if_neg (by omega)]
    · rw [decide_eq_false h1, if_neg (by decide), if_pos (by omega)]
  have hb1 := not_one f hf
  rw [hz] at O1
  rw [hz3] at O2
  rw [hz4] at PR
  rw [ey2] at RQ
  generalize decide (f ≤ 1) = b at *
  have hc0 : (f : Int) < 256 := by have : f < 256 := hf; omega
  have hs1 : ((f : Int) == 1) = (f == 1) := by
    by_cases h1 : f = 1
    · subst h1; rfl
    · rw [beq_eq_false_iff_ne.2 h1, beq_eq_false_iff_ne.2 (by omega)]
  generalize (f == 1) = se at *
  obtain ⟨D, hD⟩ : ∃ D, pkC { Pk.zero with kind := 2, session := se } adZ = D := ⟨_, rfl⟩
  have hD1 := pkC_size { Pk.zero with kind := 2, session := se } adZ
  have hD2 := pkC_one { Pk.zero with kind := 2, session := se } adZ
  rw [hD] at hD1 hD2
  have HD := Lib.hid hD
  have HD1 := Lib.hid hD1
  have HD2 := Lib.hid hD2
  have HZ := Lib.hid pkZ_size
  have hzv := zero_pk
  have hne : ¬ pkZ = #[] := by intro h; have := pkZ_size; rw [h] at this; cases this
  have O1 := Lib.hid O1
  have O2 := Lib.hid O2
  have PR := Lib.hid PR
  have RQ := Lib.hid RQ
  unfold rdrV at *
  clear hf hz hy2 hz3 hz4 e ey2 h hD hD1 hD2
  go_enter Tryz.func66, Tryz.ntmps66
  have c0 := S0.out.c0
  have c1 := S0.out.c1
  go_wp2_with fail
  refine (O1.out _ S0.out.cs).mono ?_
  rintro e W1 ⟨rfl, hc, hg⟩
  have S1 := Lib.hid (S0.out.call hc hg)
  clear hc hg c0 c1
  have c0 := S1.out.c0
  have c1 := S1.out.c1
  go_wp2_with fail
  refine (RQ.out _ S1.out.cs).mono ?_
  rintro e W2 ⟨rfl, hc, hg⟩
  have S2 := Lib.hid (S1.out.call hc hg)
  clear hc hg c0 c1
  have SP := Lib.hid (ReS.laid S2.out HD.out rfl rfl)
  have c0 := SP.out.rk.c0
  have c1 := SP.out.rk.c1
  go_wp2_with (first
    | (refine wpList_buildTo rfl 32 _ rfl (some 14) rfl D (by rw [← HD.out]; kernel_rfl) ?_)
    | (refine wpList_store_row rfl _ _ _ rfl W2.heap.size D rfl rfl 32 _ (heap_alloc_new W2 _) (by rw [HD1.out]; exact info_pk) (by rw [HZ.out, HD1.out]) HD2.out ?_))
  refine (O2.out _ SP.out.rk.cs).mono ?_
  rintro e W3 ⟨rfl, hc, hg⟩
  have S3 := Lib.hid (SP.out.call hc hg)
  clear hc hg c0 c1
  generalize W2.heap.size = B at *
  have S4 := Lib.hid (S3.out.put 21 (.int .i64 (c : Int)) (P' := { Pk.zero with kind := 2, session := se, code := (c : Int) }) rfl rfl rfl)
  have n21 : W3.cell? ⟨B, 21, none⟩ = some (.int .i64 0) := S3.out.cell 21
  have f21 := S3.out.fr 21
  have c0 := S4.out.rk.c0
  have c1 := S4.out.rk.c1
  go_wp2_with fail
  clear n21 f21
  refine (PR.out _ S4.out.rk.cs).mono ?_
  rintro e W5 ⟨⟨A, cc, rfl, hl, hP, hA⟩, ok, h1000, hc, hg⟩
  have hBW := lt_of_block S4.out.pk
  have S5 := Lib.hid (S4.out.call hc hg)
  have S6 := Lib.hid (S5.out.putPs hP hl (fun g i e => Nat.lt_trans hBW (hA g i e)))
  clear hc hg c0 c1 hP hl hA hBW ok h1000
  have n24 : W5.cell? ⟨B, 24, none⟩ = some (.slice none 0 0) := S5.out.cell 24
  have f24 := S5.out.fr 24
  have G6 := S6.out.pk
  have hE1 := pkC_size { Pk.zero with kind := 2, session := se, code := (c : Int), props := L } { adZ with ps := A, pc := cc }
  have hE2 := pkC_one { Pk.zero with kind := 2, session := se, code := (c : Int), props := L } { adZ with ps := A, pc := cc }
  have GR := Lib.hid S6.out.rk.rs
  have RT := S6.out.ret (pkC { Pk.zero with kind := 2, session := se, code := (c : Int), props := L } { adZ with ps := A, pc := cc })
  obtain ⟨E, hE⟩ : ∃ E, pkC { Pk.zero with kind := 2, session := se, code := (c : Int), props := L } { adZ with ps := A, pc := cc } = E := ⟨_, rfl⟩
  change PkRet w cb s y4 _ (.returned (.agg (pkC { Pk.zero with kind := 2, session := se, code := (c : Int), props := L } { adZ with ps := A, pc := cc }))) _ at RT
  change _ = some (Obj.cells (pkC { Pk.zero with kind := 2, session := se, code := (c : Int), props := L } { adZ with ps := A, pc := cc }) _ _) at G6
  rw [hE] at hE1 hE2 G6 RT
  have HE1 := Lib.hid hE1
  have HE2 := Lib.hid hE2
  have G6 := Lib.hid G6
  have RT := Lib.hid RT
  clear hE1 hE2 hE
  go_wp2_with (first
    | (refine wpList_load_row rfl _ _ rfl B rfl 32 E (0, 0) _ G6.out Tryz.underlying32 rfl (by rw [HE1.out]; exact info_pk) ?_)
    | (refine wpList_store_row rfl _ _ _ rfl (w.heap.size + 1) E rfl rfl 32 _ GR.out (by rw [HE1.out]; exact info_pk) (by rw [HZ.out, HE1.out]) HE2.out ?_))
  exact ret_row (cs := E) rfl rfl rfl Tryz.underlying32 rfl (by rw [HE1.out]; exact info_pk) (setRow_heap _ _ _ _ _ _ GR.out) RT.out
end
end Go.Proofs.YtbgpcmbaodjibaaGreat
namespace Go.Proofs.YtbgpcmbaodjibaaGreat
open Go.RowKit

section
variable {w W W' : World} {cb : Nat} {s : ByteArray} {x : Cs} {v : Int}
theorem name_if (x : Cs) : (if ((bs (x.take 6).1).toList == [0, 4, 77, 81, 84, 84]) then (x.take 6).2 else (x.take 6).2.fail 5) = x.name := by
  rw [fail_if, bs_toList]
  unfold Cs.name
  have e6 : enc2 mqttL = [0, 4, 77, 81, 84, 84] := by decide
  rw [e6]
  simp only [beq_eq_false_iff_ne]
theorem vers_if (x : Cs) (v : Int) : (if (((x.num 1).1 : Nat) : Int) == v then (x.num 1).2 else (x.num 1).2.fail 5) = x.vers v := by
  rw [fail_if]
  unfold Cs.vers
  simp only [beq_eq_false_iff_ne]
set_option maxRecDepth 100000 in
set_option maxHeartbeats 4000000 in
theorem rd_connect (hm : s.size ≤ 9223372036854775807) (h : CsAt w cb s x) :
    Calls Tryz.prog 67 #[rdrV cb v] w (PkRet w cb s (partsC v x).2 (partsC v x).1) := by
  have S0 := Lib.hid (RkS.made (v := v) h)
  obtain ⟨z, hz5⟩ : ∃ z, (x.name.vers v).flags v = z := ⟨_, rfl⟩
  have hf : z.1 < 256 := by rw [← hz5]; exact num_one_lt _
  obtain ⟨f, x5⟩ := z
  obtain ⟨z, hz6⟩ : ∃ z, x5.num 2 = z := ⟨_, rfl⟩
  have hk : z.1 < 65536 := by rw [← hz6]; exact num_lt8 _ 2 (by decide)
  obtain ⟨k, x6⟩ := z
  obtain ⟨z, hz7⟩ : ∃ z, x6.props v 1 = z := ⟨_, rfl⟩
  obtain ⟨L, x7⟩ := z
  obtain ⟨z, hz8⟩ : ∃ z, x7.text = z := ⟨_, rfl⟩
  obtain ⟨ct, x8⟩ := z
  obtain ⟨z, hz9⟩ : ∃ z, x8.optP (f / 4 % 2 == 1) v 16 = z := ⟨_, rfl⟩
  obtain ⟨Lw, x9⟩ := z
  obtain ⟨z, hz10⟩ : ∃ z, x9.optT (f / 4 % 2 == 1) = z := ⟨_, rfl⟩
  obtain ⟨wt, x10⟩ := z
  obtain ⟨z, hz11⟩ : ∃ z, x10.optB (f / 4 % 2 == 1) = z := ⟨_, rfl⟩
  obtain ⟨wd, x11⟩ := z
  obtain ⟨z, hz12⟩ : ∃ z, x11.optT (f / 128 % 2 == 1) = z := ⟨_, rfl⟩
  obtain ⟨us, x12⟩ := z
  obtain ⟨z, hz13⟩ : ∃ z, x12.optB (f / 64 % 2 == 1) = z := ⟨_, rfl⟩
  obtain ⟨pa, x13⟩ := z
  rw [parts_eq v x hz5 hz6 hz7 hz8 hz9 hz10 hz11 hz12 hz13]
  have TK := fun W (h : CsAt W cb s x) => cs_take 6 hm h
  have R1 := fun W (h : CsAt W cb s (x.take 6).2) => rd_require (v := v) ((bs (x.take 6).1).toList == [0, 4, 77, 81, 84, 84]) 5 h
  rw [name_if] at R1
  obtain ⟨b1, hb1⟩ : ∃ b, ((bs (x.take 6).1).toList == [0, 4, 77, 81, 84, 84]) = b := ⟨_, rfl⟩
  rw [hb1] at R1
  generalize x.name = x2 at *
  generalize x.take 6 = t6 at *
  obtain ⟨T, x1⟩ := t6
  have OC := fun W (h : CsAt W cb s x2) => rd_octet (v := v) hm h
  have R2 := fun W (h : CsAt W cb s (x2.num 1).2) => rd_require (v := v) ((((x2.num 1).1 : Nat) : Int) == v) 5 h
  rw [vers_if] at R2
  obtain ⟨b2, hb2⟩ : ∃ b, ((((x2.num 1).1 : Nat) : Int) == v) = b := ⟨_, rfl⟩
  rw [hb2] at R2
  generalize x2.vers v = x4 at *
  generalize x2.num 1 = n1 at *
  obtain ⟨nv, x3⟩ := n1
  have FL := fun W (h : CsAt W cb s x4) => rd_flags (v := v) hm h
  have NM := fun W (h : CsAt W cb s x5) => cs_num 2 (by decide) hm h
  have PR := fun W (h : CsAt W cb s x6) => rd_props (v := v) 1 (by decide) (by decide) hm h
  have TX := fun W (h : CsAt W cb s x7) => rd_text (v := v) hm h
  rw [hz5] at FL
  rw [hz6] at NM
  rw [hz7] at PR
  rw [hz8] at TX
  have WP := fun W (h : CsAt W cb s x8) => rd_props (v := v) 16 (by decide) (by decide) hm h
  have WT := fun W (h : CsAt W cb s x9) => rd_text (v := v) hm h
  have WD := fun W (h : CsAt W cb s x10) => rd_data (v := v) hm h
  have UT := fun W (h : CsAt W cb s x11) => rd_text (v := v) hm h
  have PD := fun W (h : CsAt W cb s x12) => rd_data (v := v) hm h
  unfold descP at FL
  simp only at hf hk ⊢ FL NM PR TX
  generalize (f / 2 % 2 == 1) = cl at *
  generalize (f / 128 % 2 == 1) = hu at *
  generalize (f / 64 % 2 == 1) = ha at *
  generalize (f / 4 % 2 == 1) = hw at *
  generalize (f / 32 % 2 == 1) = re at *
  generalize ((f / 8 % 4 : Nat) : Int) = q at *
  have hk0 : (0 : Int) ≤ k := by omega
  have hk1 : (k : Int) < 65536 := by omega
  obtain ⟨D, hD⟩ : ∃ D, pkC (descL cl hu ha hw re q) adZ = D := ⟨_, rfl⟩
  have hD1 := pkC_size (descL cl hu ha hw re q) adZ
  have hD2 := pkC_one (descL cl hu ha hw re q) adZ
  rw [hD] at hD1 hD2 FL
  have HD := Lib.hid hD
  have HD1 := Lib.hid hD1
  have HD2 := Lib.hid hD2
  have HZ := Lib.hid pkZ_size
  have hzv := zero_pk
  have hne : ¬ pkZ = #[] := by intro h; have := pkZ_size; rw [h] at this; cases this
  have TK := Lib.hid TK
  have R1 := Lib.hid R1
  have OC := Lib.hid OC
  have R2 := Lib.hid R2
  have FL := Lib.hid FL
  have NM := Lib.hid NM
  have PR := Lib.hid PR
  have TX := Lib.hid TX
  have WP := Lib.hid WP
  have WT := Lib.hid WT
  have WD := Lib.hid WD
  have UT := Lib.hid UT
  have PD := Lib.hid PD
  have Z9 := Lib.hid hz9
  have Z10 := Lib.hid hz10
  have Z11 := Lib.hid hz11
  have Z12 := Lib.hid hz12
  have Z13 := Lib.hid hz13
  have B1 := Lib.hid hb1
  have B2 := Lib.hid hb2
  unfold rdrV at *
  clear hf hk h hD hD1 hD2 hz5 hz6 hz7 hz8 hz9 hz10 hz11 hz12 hz13 hb1 hb2
  go_enter Tryz.func67, Tryz.ntmps67
  go_upto_region 1 with fail
  refine rname_way (S := fun u W => match u with
    | (false, false) => RkS w cb s v x W
    | (true, false) => RkS w cb s v x1 W
    | (true, true) => RkS w cb s v x2 W
    | (false, true) => False) (B := w.heap.size) (t := bs T) (b := b1) S0.out.drew (fun u W h => by obtain ⟨u1, u2⟩ := u; cases u1 <;> cases u2 <;> first | exact h.c0 | exact h.elim) (fun u W h => by obtain ⟨u1, u2⟩ := u; cases u1 <;> cases u2 <;> first | exact h.c1 | exact h.elim) B1.out
    (fun u W h hu => by
      obtain ⟨u1, u2⟩ := u
      cases hu
      cases u2
      · exact (TK.out W h.cs).mono fun e w' ⟨he, hc, hg⟩ => ⟨he, h.call hc hg⟩
      · exact h.elim)
    (fun u W h hu1 hu2 => by
      obtain ⟨u1, u2⟩ := u
      cases hu1
      cases hu2
      exact (R1.out W h.cs).mono fun e w' ⟨he, hc, hg⟩ => ⟨he, h.call hc hg⟩) ?_
  intro W1 hS
  have S1 := Lib.hid (show RkS w cb s v x2 W1 from hS)
  clear hS
  go_upto_region 2 with fail
  refine rvers_way (S := fun u W => match u with
    | (false, false) => RkS w cb s v x2 W
    | (true, false) => RkS w cb s v x3 W
    | (true, true) => RkS w cb s v x4 W
    | (false, true) => False) (B := w.heap.size) (n := (nv : Int)) (b := b2) S1.out.drew (fun u W h => by obtain ⟨u1, u2⟩ := u; cases u1 <;> cases u2 <;> first | exact h.c0 | exact h.elim) (fun u W h => by obtain ⟨u1, u2⟩ := u; cases u1 <;> cases u2 <;> first | exact h.c1 | exact h.elim) B2.out
    (fun u W h hu => by
      obtain ⟨u1, u2⟩ := u
      cases hu
      cases u2
      · exact (OC.out W h.cs).mono fun e w' ⟨he, hc, hg⟩ => ⟨he, h.call hc hg⟩
      · exact h.elim)
    (fun u W h hu1 hu2 => by
      obtain ⟨u1, u2⟩ := u
      cases hu1
      cases hu2
      exact (R2.out W h.cs).mono fun e w' ⟨he, hc, hg⟩ => ⟨he, h.call hc hg⟩) ?_
  intro W2 hS
  have S2 := Lib.hid (show RkS w cb s v x4 W2 from hS)
  clear hS
  have c0 := S2.out.c0
  have c1 := S2.out.c1
  go_wp2_with fail
  refine (FL.out _ S2.out.cs).mono ?_
  rintro e W3 ⟨rfl, hc, hg⟩
  have S3 := Lib.hid (S2.out.call hc hg)
  clear hc hg c0 c1
  have SP := Lib.hid (ReS.laid S3.out HD.out rfl rfl)
  have c0 := SP.out.rk.c0
  have c1 := SP.out.rk.c1
  go_wp2_with (first
    | (refine wpList_store_row rfl _ _ _ rfl W3.heap.size D rfl rfl 32 _ (heap_alloc_new W3 _) (by rw [HD1.out]; exact info_pk) (by rw [HZ.out, HD1.out]) HD2.out ?_))
  refine (NM.out _ SP.out.rk.cs).mono ?_
  rintro e W4 ⟨rfl, hc, hg⟩
  have S4 := Lib.hid (SP.out.call hc hg)
  clear hc hg c0 c1
  generalize W3.heap.size = B at *
  have S5 := Lib.hid (S4.out.put 8 (.int .i64 (k : Int)) (P' := { (descL cl hu ha hw re q) with keep := (k : Int) }) rfl rfl rfl)
  have n8 : W4.cell? ⟨B, 8, none⟩ = some (.int .i64 0) := S4.out.cell 8
  have f8 := S4.out.fr 8
  have c0 := S5.out.rk.c0
  have c1 := S5.out.rk.c1
  go_wp2_with fail
  clear n8 f8
  refine (PR.out _ S5.out.rk.cs).mono ?_
  rintro e W6 ⟨⟨A, cc, rfl, hl, hP, hA⟩, ok, h1000, hc, hg⟩
  have hBW := lt_of_block S5.out.pk
  have S6 := Lib.hid (S5.out.call hc hg)
  have S7 := Lib.hid (S6.out.putPs hP hl (fun g i e => Nat.lt_trans hBW (hA g i e)))
  clear hc hg c0 c1 hP hl hA hBW ok h1000
  have n24 : W6.cell? ⟨B, 24, none⟩ = some (.slice none 0 0) := S6.out.cell 24
  have f24 := S6.out.fr 24
  have c0 := S7.out.rk.c0
  have c1 := S7.out.rk.c1
  go_wp2_with fail
  clear n24 f24
  refine (TX.out _ S7.out.rk.cs).mono ?_
  rintro e W8 ⟨rfl, hc, hg⟩
  have S8 := Lib.hid (show ReS w cb s v B x8 { (descL cl hu ha hw re q) with keep := (k : Int), props := L } { adZ with ps := A, pc := cc } W8 from S7.out.call hc hg)
  clear hc hg c0 c1
  have S9 := Lib.hid (S8.out.put 9 (.string (bs ct)) (P' := { (descL cl hu ha hw re q) with keep := (k : Int), props := L, client := ct }) rfl rfl rfl)
  have n9 : W8.cell? ⟨B, 9, none⟩ = some (.string ⟨#[]⟩) := S8.out.cell 9
  have f9 := S8.out.fr 9
  have k14 : (W8.setCell ⟨B, 9, none⟩ (.string (bs ct))).cell? ⟨B, 14, none⟩ = some (.bool hw) := S9.out.cell 14
  go_upto_if 31 with fail
  clear n9 f9
  generalize W8.setCell ⟨B, 9, none⟩ (.string (bs ct)) = W9 at *
  go_cut [] (fun wx => ∃ a2, ReS w cb s v B x11 { (descL cl hu ha hw re q) with keep := (k : Int), props := L, client := ct, wProps := Lw, wTopic := wt, wPayload := wd } a2 wx)
  case first =>
    cases hw with
    | false =>
      have z9 : x8.optP false v 16 = (Lw, x9) := Z9.out
      have z10 : x9.optT false = (wt, x10) := Z10.out
      have z11 : x10.optB false = (wd, x11) := Z11.out
      obtain ⟨rfl, rfl⟩ := Prod.mk.inj z9
      obtain ⟨rfl, rfl⟩ := Prod.mk.inj z10
      obtain ⟨rfl, rfl⟩ := Prod.mk.inj z11
      have SF := Lib.hid S9.out
      go_wp2_with fail
      go_meet
      exact ⟨{ adZ with ps := A, pc := cc }, SF.out⟩
    | true =>
      have WPx := fun W h => WP.out W h
      have WTx := fun W h => WT.out W h
      have WDx := fun W h => WD.out W h
      rw [show x8.props v 16 = (Lw, x9) from Z9.out] at WPx
      rw [show x9.text = (wt, x10) from Z10.out] at WTx
      rw [show x10.bin = (wd, x11) from Z11.out] at WDx
      have WPx := Lib.hid WPx
      have WTx := Lib.hid WTx
      have WDx := Lib.hid WDx
      have c0 := S9.out.rk.c0
      have c1 := S9.out.rk.c1
      go_wp2_with fail
      refine (WPx.out _ S9.out.rk.cs).mono ?_
      rintro e W10 ⟨⟨A2, cc2, rfl, hl, hP, hA⟩, ok, h1000, hc, hg⟩
      have hBW := lt_of_block S9.out.pk
      have S10 := Lib.hid (S9.out.call hc hg)
      have S11 := Lib.hid (S10.out.putWs hP hl (fun g i e => Nat.lt_trans hBW (hA g i e)))
      clear hc hg c0 c1 hP hl hA hBW ok h1000 k14
      have n19 : W10.cell? ⟨B, 19, none⟩ = some (.slice none 0 0) := S10.out.cell 19
      have f19 := S10.out.fr 19
      have c0 := S11.out.rk.c0
      have c1 := S11.out.rk.c1
      go_wp2_with fail
      clear n19 f19
      refine (WTx.out _ S11.out.rk.cs).mono ?_
      rintro e W12 ⟨rfl, hc, hg⟩
      have S12 := Lib.hid (show ReS w cb s v B x10 { (descL cl hu ha true re q) with keep := (k : Int), props := L, client := ct, wProps := Lw } { adZ with ps := A, pc := cc, w := A2, wc := cc2 } W12 from S11.out.call hc hg)
      clear hc hg c0 c1
      have S13 := Lib.hid (S12.out.put 15 (.string (bs wt)) (P' := { (descL cl hu ha true re q) with keep := (k : Int), props := L, client := ct, wProps := Lw, wTopic := wt }) rfl rfl rfl)
      have n15 : W12.cell? ⟨B, 15, none⟩ = some (.string ⟨#[]⟩) := S12.out.cell 15
      have f15 := S12.out.fr 15
      have c0 := S13.out.rk.c0
      have c1 := S13.out.rk.c1
      go_wp2_with fail
      clear n15 f15
      refine (WDx.out _ S13.out.rk.cs).mono ?_
      rintro e W14 ⟨rfl, hc, hg⟩
      have S14 := Lib.hid (S13.out.call hc hg)
      clear hc hg c0 c1
      have S15 := Lib.hid (S14.out.put 16 (.string (bs wd)) (P' := { (descL cl hu ha true re q) with keep := (k : Int), props := L, client := ct, wProps := Lw, wTopic := wt, wPayload := wd }) rfl rfl rfl)
      have n16 : W14.cell? ⟨B, 16, none⟩ = some (.string ⟨#[]⟩) := S14.out.cell 16
      have f16 := S14.out.fr 16
      go_wp2_with fail
      go_meet
      exact ⟨{ adZ with ps := A, pc := cc, w := A2, wc := cc2 }, S15.out⟩
  case rest =>
    obtain ⟨a2, hS⟩ := hcut
    have S16 := Lib.hid hS
    clear hS k14
    have k10 : wc.cell? ⟨B, 10, none⟩ = some (.bool hu) := S16.out.cell 10
    go_upto_if 45 with fail
    go_cut [] (fun wx => ReS w cb s v B x12 { (descL cl hu ha hw re q) with keep := (k : Int), props := L, client := ct, wProps := Lw, wTopic := wt, wPayload := wd, user := us } a2 wx)
    case first =>
      cases hu with
      | false =>
        have z12 : x11.optT false = (us, x12) := Z12.out
        obtain ⟨rfl, rfl⟩ := Prod.mk.inj z12
        have SF := Lib.hid S16.out
        go_wp2_with fail
        go_meet
        exact SF.out
      | true =>
        have UTx := fun W h => UT.out W h
        rw [show x11.text = (us, x12) from Z12.out] at UTx
        have UTx := Lib.hid UTx
        have c0 := S16.out.rk.c0
        have c1 := S16.out.rk.c1
        go_wp2_with fail
        refine (UTx.out _ S16.out.rk.cs).mono ?_
        rintro e W12 ⟨rfl, hc, hg⟩
        have S17 := Lib.hid (S16.out.call hc hg)
        clear hc hg c0 c1 k10
        have S18 := Lib.hid (S17.out.put 11 (.string (bs us)) (P' := { (descL cl true ha hw re q) with keep := (k : Int), props := L, client := ct, wProps := Lw, wTopic := wt, wPayload := wd, user := us }) rfl rfl rfl)
        have n11 : W12.cell? ⟨B, 11, none⟩ = some (.string ⟨#[]⟩) := S17.out.cell 11
        have f11 := S17.out.fr 11
        go_wp2_with fail
        go_meet
        exact S18.out
    case rest =>
      clear k10 S16
      have S16 := Lib.hid hcut
      clear hcut
      have k12 : wc.cell? ⟨B, 12, none⟩ = some (.bool ha) := S16.out.cell 12
      go_upto_if 50 with fail
      go_cut [] (fun wx => ReS w cb s v B x13 { (descL cl hu ha hw re q) with keep := (k : Int), props := L, client := ct, wProps := Lw, wTopic := wt, wPayload := wd, user := us, pass := pa } a2 wx)
      case first =>
        cases ha with
        | false =>
          have z13 : x12.optB false = (pa, x13) := Z13.out
          obtain ⟨rfl, rfl⟩ := Prod.mk.inj z13
          have SF := Lib.hid S16.out
          go_wp2_with fail
          go_meet
          exact SF.out
        | true =>
          have PDx := fun W h => PD.out W h
          rw [show x12.bin = (pa, x13) from Z13.out] at PDx
          have PDx := Lib.hid PDx
          have c0 := S16.out.rk.c0
          have c1 := S16.out.rk.c1
          go_wp2_with fail
          refine (PDx.out _ S16.out.rk.cs).mono ?_
          rintro e W12 ⟨rfl, hc, hg⟩
          have S17 := Lib.hid (S16.out.call hc hg)
          clear hc hg c0 c1 k12
          have S18 := Lib.hid (S17.out.put 13 (.string (bs pa)) (P' := { (descL cl hu true hw re q) with keep := (k : Int), props := L, client := ct, wProps := Lw, wTopic := wt, wPayload := wd, user := us, pass := pa }) rfl rfl rfl)
          have n13 : W12.cell? ⟨B, 13, none⟩ = some (.string ⟨#[]⟩) := S17.out.cell 13
          have f13 := S17.out.fr 13
          go_wp2_with fail
          go_meet
          exact S18.out
      case rest =>
        clear k12 S16
        have SX := Lib.hid hcut
        clear hcut
        have G6 := SX.out.pk
        have hE1 := pkC_size { (descL cl hu ha hw re q) with keep := (k : Int), props := L, client := ct, wProps := Lw, wTopic := wt, wPayload := wd, user := us, pass := pa } a2
        have hE2 := pkC_one { (descL cl hu ha hw re q) with keep := (k : Int), props := L, client := ct, wProps := Lw, wTopic := wt, wPayload := wd, user := us, pass := pa } a2
        have GR := Lib.hid SX.out.rk.rs
        have RT := SX.out.ret (pkC { (descL cl hu ha hw re q) with keep := (k : Int), props := L, client := ct, wProps := Lw, wTopic := wt, wPayload := wd, user := us, pass := pa } a2)
        obtain ⟨E, hE⟩ : ∃ E, pkC { (descL cl hu ha hw re q) with keep := (k : Int), props := L, client := ct, wProps := Lw, wTopic := wt, wPayload := wd, user := us, pass := pa } a2 = E := ⟨_, rfl⟩
        change PkRet w cb s _ _ (.returned (.agg (pkC { (descL cl hu ha hw re q) with keep := (k : Int), props := L, client := ct, wProps := Lw, wTopic := wt, wPayload := wd, user := us, pass := pa } a2))) _ at RT
        change _ = some (Obj.cells (pkC { (descL cl hu ha hw re q) with keep := (k : Int), props := L, client := ct, wProps := Lw, wTopic := wt, wPayload := wd, user := us, pass := pa } a2) _ _) at G6
        rw [hE] at hE1 hE2 G6 RT
        have HE1 := Lib.hid hE1
        have HE2 := Lib.hid hE2
        have G6 := Lib.hid G6
        have RT := Lib.hid RT
        clear hE1 hE2 hE
        go_wp2_with (first
          | (refine wpList_load_row rfl _ _ rfl B rfl 32 E (0, 0) _ G6.out Tryz.underlying32 rfl (by rw [HE1.out]; exact info_pk) ?_)
          | (refine wpList_store_row rfl _ _ _ rfl (w.heap.size + 1) E rfl rfl 32 _ GR.out (by rw [HE1.out]; exact info_pk) (by rw [HZ.out, HE1.out]) HE2.out ?_))
        exact ret_row (cs := E) rfl rfl rfl Tryz.underlying32 rfl (by rw [HE1.out]; exact info_pk) (setRow_heap _ _ _ _ _ _ GR.out) RT.out
end
end Go.Proofs.YtbgpcmbaodjibaaGreat
