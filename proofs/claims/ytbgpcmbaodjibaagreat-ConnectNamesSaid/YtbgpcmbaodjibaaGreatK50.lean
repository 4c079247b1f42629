/-
  Plain facts: what is read of a body holds no more than its fields may. No program but for the types. No condition.
  The contracts of connect.reader's props and flags, and of connect.described. Condition: the bytes are no more than an int says.
  The contract of connect.reader's flags. Condition: the bytes are no more than an int says.
  The contract of connect.reader's connack. Condition: the bytes are no more than an int says.
-/
import Derived.Great.BuildSlice
import Derived.Test.YtbgpcmbaodjibaaGreatK46
import Derived.Test.YtbgpcmbaodjibaaGreatK49
import Derived.Test.YtbgpcmbaodjibaaGreatK11
import Derived.Test.YtbgpcmbaodjibaaGreatK28
import Derived.Test.YtbgpcmbaodjibaaGreatK21
import Derived.Test.YtbgpcmbaodjibaaGreatK02
import Derived.Test.YtbgpcmbaodjibaaGreatK18
namespace Go.Proofs.YtbgpcmbaodjibaaGreat

theorem check_ok {kind : Int} {p : Pr} (h : checkP kind p = 0) : PrOk p ∧ p.text.length ≤ 65535 ∧ p.value.length ≤ 65535 := by
  obtain ⟨hm, h4, h5⟩ := check_parts h
  obtain ⟨_, h1, h2, _⟩ := size_one h
  obtain ⟨r1, r2⟩ := may_range hm
  obtain ⟨f0, f7, f1, f2, f3, f4, _⟩ := row_fits hm
  have hn : p.n < 4294967296 := by
    by_cases hs : shapeP p.id ≤ 4
    · have h6 := (h4 hs).2.2.2
      have hs4 : shapeP p.id = 1 ∨ shapeP p.id = 2 ∨ shapeP p.id = 3 ∨ shapeP p.id = 4 := by omega
      rcases hs4 with e | e | e | e
      · have := f1 e; omega
      · have := f2 e; omega
      · have := f3 e; omega
      · have := f4 e; omega
    · have := (h5 (by omega)).1; omega
  exact ⟨⟨by omega, by omega, hn, by omega, by omega⟩, h1, h2⟩
theorem read_ok (kind : Int) (s : List UInt8) : (∀ p ∈ (readP kind s).1, PrOk p ∧ p.text.length ≤ 65535 ∧ p.value.length ≤ 65535) ∧ (readP kind s).1.length ≤ 1000 := by
  by_cases h : (readP kind s).2.2 = 0
  · have hv := (read_back (show readP kind s = ((readP kind s).1, (readP kind s).2.1, 0) by rw [← h])).1
    obtain ⟨h1, h2, _⟩ := (valid_good _ _).1 hv
    exact ⟨fun p hp => check_ok (h2.1 p hp), h1⟩
  · rw [read_err h]
    exact ⟨fun p hp => (nomatch hp), Nat.zero_le _⟩
theorem props_fit (x : Cs) (v kind : Int) : (∀ p ∈ (x.props v kind).1, PrOk p ∧ p.text.length ≤ 65535 ∧ p.value.length ≤ 65535) ∧ (x.props v kind).1.length ≤ 1000 := by
  unfold Cs.props
  split
  · exact ⟨fun p hp => (nomatch hp), Nat.zero_le _⟩
  · exact read_ok _ _
theorem text_fit (x : Cs) : x.text.1.length ≤ 65535 := by
  unfold Cs.text
  split
  · exact Nat.zero_le _
  · exact (rdT_le _).2
theorem bin_fit (x : Cs) : x.bin.1.length ≤ 65535 := by
  unfold Cs.bin
  split
  · exact Nat.zero_le _
  · exact (rdB_le _).2
theorem optT_fit (x : Cs) (b : Bool) : (x.optT b).1.length ≤ 65535 := by
  cases b
  · exact Nat.zero_le _
  · exact text_fit x
theorem optB_fit (x : Cs) (b : Bool) : (x.optB b).1.length ≤ 65535 := by
  cases b
  · exact Nat.zero_le _
  · exact bin_fit x
theorem optP_fit (x : Cs) (b : Bool) (v kind : Int) : (∀ p ∈ (x.optP b v kind).1, PrOk p ∧ p.text.length ≤ 65535 ∧ p.value.length ≤ 65535) ∧ (x.optP b v kind).1.length ≤ 1000 := by
  cases b
  · exact ⟨fun p hp => (nomatch hp), Nat.zero_le _⟩
  · exact props_fit x v kind
/-- A packet whose fields are what their types hold. -/
def FitP (p : Pk) : Prop := PkOk p ∧ Short p ∧ (-9223372036854775808 ≤ p.wQos ∧ p.wQos ≤ 9223372036854775807) ∧ p.codes = [] ∧ p.filters = []
theorem fit_zero : FitP Pk.zero := by
  refine ⟨⟨by decide, by decide, fun t ht => ?_, fun x hx => (nomatch hx), fun x hx => (nomatch hx), fun x hx => (nomatch hx)⟩, ⟨by decide, by decide, by decide, by decide⟩, by decide, rfl, rfl⟩
  have : t = [] := by simpa [Pk.texts, Pk.zero] using ht
  rw [this]; decide
theorem fit_parts (v : Int) (x : Cs) : FitP (partsC v x).1 := by
  obtain ⟨c, hc⟩ : ∃ c, (x.name.vers v).flags v = c := ⟨_, rfl⟩
  obtain ⟨d, hd⟩ : ∃ d, c.2.num 2 = d := ⟨_, rfl⟩
  obtain ⟨p, hp⟩ : ∃ p, d.2.props v 1 = p := ⟨_, rfl⟩
  obtain ⟨q, hq⟩ : ∃ q, p.2.text = q := ⟨_, rfl⟩
  obtain ⟨wp, hwp⟩ : ∃ x, q.2.optP (c.1 / 4 % 2 == 1) v 16 = x := ⟨_, rfl⟩
  obtain ⟨wt, hwt⟩ : ∃ x, wp.2.optT (c.1 / 4 % 2 == 1) = x := ⟨_, rfl⟩
  obtain ⟨wd, hwd⟩ : ∃ x, wt.2.optB (c.1 / 4 % 2 == 1) = x := ⟨_, rfl⟩
  obtain ⟨us, hus⟩ : ∃ x, wd.2.optT (c.1 / 128 % 2 == 1) = x := ⟨_, rfl⟩
  obtain ⟨ps, hps⟩ : ∃ x, us.2.optB (c.1 / 64 % 2 == 1) = x := ⟨_, rfl⟩
  rw [parts_eq v x hc hd hp hq hwp hwt hwd hus hps]
  have f1 := props_fit d.2 v 1
  have f2 := text_fit p.2
  have f3 := optP_fit q.2 (c.1 / 4 % 2 == 1) v 16
  have f4 := optT_fit wp.2 (c.1 / 4 % 2 == 1)
  have f5 := optB_fit wt.2 (c.1 / 4 % 2 == 1)
  have f6 := optT_fit wd.2 (c.1 / 128 % 2 == 1)
  have f7 := optB_fit us.2 (c.1 / 64 % 2 == 1)
  rw [hp] at f1
  rw [hq] at f2
  rw [hwp] at f3
  rw [hwt] at f4
  rw [hwd] at f5
  rw [hus] at f6
  rw [hps] at f7
  refine ⟨⟨⟨by simp, by simp⟩, ⟨by simp [Pk.zero], by simp [Pk.zero]⟩, fun t ht => ?_, fun y hy => ?_, fun y hy => ?_, fun y hy => (nomatch hy)⟩, ⟨by simp [Pk.zero], by simp [Pk.zero], by simp; omega, by simp; omega⟩, ⟨by simp; omega, by simp; omega⟩, rfl, rfl⟩
  · simp only [Pk.texts, List.mem_cons, List.not_mem_nil, or_false] at ht
    rcases ht with rfl | rfl | rfl | rfl | rfl | rfl | rfl
    · exact Nat.zero_le _
    · exact Nat.zero_le _
    · exact Nat.le_trans f2 (by decide)
    · exact Nat.le_trans f6 (by decide)
    · exact Nat.le_trans f7 (by decide)
    · exact Nat.le_trans f4 (by decide)
    · exact Nat.le_trans f5 (by decide)
  · obtain ⟨a, b, c⟩ := f3.1 y hy
    exact ⟨a, by omega, by omega⟩
  · obtain ⟨a, b, c⟩ := f1.1 y hy
    exact ⟨a, by omega, by omega⟩
theorem fit_back (v : Int) (x : Cs) : FitP (backC v x).1 := by
  obtain ⟨a, ha⟩ : ∃ a, x.num 1 = a := ⟨_, rfl⟩
  obtain ⟨b, hb⟩ : ∃ b, (if a.1 > 1 then a.2.fail 7 else a.2).num 1 = b := ⟨_, rfl⟩
  obtain ⟨p, hp⟩ : ∃ p, b.2.props v 2 = p := ⟨_, rfl⟩
  have e : backC v x = ({ Pk.zero with kind := 2, session := a.1 == 1, code := b.1, props := p.1 }, p.2) := by subst ha hb hp; rfl
  rw [e]
  have f1 := props_fit b.2 v 2
  rw [hp] at f1
  refine ⟨⟨⟨by simp, by simp⟩, ⟨by simp [Pk.zero], by simp [Pk.zero]⟩, fun t ht => ?_, fun y hy => (nomatch hy), fun y hy => ?_, fun y hy => (nomatch hy)⟩, ⟨by simp [Pk.zero], by simp [Pk.zero], by simp; omega, by simp [Pk.zero]⟩, ⟨by simp [Pk.zero], by simp [Pk.zero]⟩, rfl, rfl⟩
  · have : t = [] := by simpa [Pk.texts, Pk.zero] using ht
    rw [this]; decide
  · obtain ⟨a, b, c⟩ := f1.1 y hy
    exact ⟨a, by omega, by omega⟩
end Go.Proofs.YtbgpcmbaodjibaaGreat
namespace Go.Proofs.YtbgpcmbaodjibaaGreat
open Go.RowKit

theorem readP_nil (kind : Int) : readP kind [] = ([], 0, 3) := rfl
section
variable {w W W' : World} {cb : Nat} {s : ByteArray} {x : Cs} {v : Int}
theorem prop_read_far (kind : Int) (s : ByteArray) (L : List Pr) (k F : Nat) (hk0 : -9223372036854775808 ≤ kind) (hk1 : kind ≤ 9223372036854775807) (hm : s.size ≤ 9223372036854775807) (hq : readP kind s.data.toList = (L, k, F)) (W : World) :
    Calls Tryz.prog 150 #[.int .i64 kind, .string s] W fun e W' => Below W.heap.size W W' ∧ ∃ A c, e = .returned (.tuple #[.slice A L.length c, .int .i64 (k : Nat), .int .i64 (F : Nat)]) ∧ L.length ≤ c ∧ PL W' A L ∧ (∀ p ∈ L, PrOk p) ∧ L.length ≤ 1000 ∧ ∀ g i, A = some ⟨g, i, none⟩ → W.heap.size ≤ g := by
  have := prop_read_any kind s W hk0 hk1 hm
  rw [hq] at this
  refine this.mono fun e W' ⟨hb, ok, hl, v, he, ho⟩ => ⟨hb, ?_⟩
  obtain ⟨A, c, rfl, hc, hP, hg⟩ := PL.owned ho rfl
  exact ⟨A, c, he, hc, hP, ok, hl, hg⟩
set_option maxRecDepth 100000 in
theorem rd_props (kind : Int) (hk0 : -9223372036854775808 ≤ kind) (hk1 : kind ≤ 9223372036854775807) (hm : s.size ≤ 9223372036854775807) (h : CsAt w cb s x) :
    Calls Tryz.prog 104 #[rdrV cb v, .int .i64 kind] w fun e w' => (∃ A c, e = .returned (.slice A (x.props v kind).1.length c) ∧ (x.props v kind).1.length ≤ c ∧ PL w' A (x.props v kind).1 ∧ ∀ g i, A = some ⟨g, i, none⟩ → w.heap.size < g) ∧ (∀ p ∈ (x.props v kind).1, PrOk p) ∧ (x.props v kind).1.length ≤ 1000 ∧ CsAt w' cb s (x.props v kind).2 ∧ w.grownBy w' (some cb) := by
  have G0 := Lib.hid (World.grownBy_alloc w (.cells #[.pointer (some ⟨cb, 0, none⟩), .int .i64 v] 58) (some cb))
  have h0 := h.alloc (.cells #[.pointer (some ⟨cb, 0, none⟩), .int .i64 v] 58)
  have H0 := Lib.hid h0
  by_cases h5 : v = 5
  · subst h5
    have AH := Lib.hid (rd_ahead (v := 5) hm h0)
    have hle : x.ahead.length ≤ x.r.length := by unfold Cs.ahead; split; exact Nat.le_refl _; exact Nat.zero_le _
    obtain ⟨L, k, F, hq⟩ : ∃ L k F, readP kind x.ahead = (L, k, F) := ⟨_, _, _, rfl⟩
    have RD := fun W => prop_read_far kind (bs x.ahead) L k F hk0 hk1 (by rw [bs_size]; have := h.len; omega) hq W
    have hk2 : k ≤ x.r.length := by
      by_cases hF : F = 0
      · subst hF
        have := (read_back hq).2.1
        omega
      · have := read_err (kind := kind) (s := x.ahead) (by rw [hq]; exact hF)
        rw [hq] at this
        have : k = 0 := congrArg (fun z => z.2.1) this
        omega
    have e1 : x.props 5 kind = (L, if x.e = 0 then ⟨x.r.drop k, F⟩ else x) := by
      unfold Cs.props
      by_cases he : x.e = 0
      · unfold Cs.ahead at hq
        rw [if_pos he] at hq
        simp [he, hq]
      · unfold Cs.ahead at hq
        rw [if_neg he, readP_nil] at hq
        simp [he, ← (Prod.mk.inj hq).1]
    rw [e1]
    have RD := Lib.hid RD
    have PS := fun W (h : CsAt W cb s x) => rd_pass (v := 5) k F hk2 hm h
    generalize (if x.e = 0 then (⟨x.r.drop k, F⟩ : Cs) else x) = y at *
    have PS := Lib.hid PS
    have BX := Lib.hid (box_cells w cb 5)
    have CB := Lib.hid h.lt
    unfold rdrV at *
    clear h h0 hle hk2 e1 hq
    go_enter Tryz.func104, Tryz.ntmps104
    go_wp2_with fail
    refine (AH.out).mono ?_
    rintro e w2 ⟨rfl, hb⟩
    have Z2 := Lib.hid (show w.heap.size < w2.heap.size from Nat.lt_of_lt_of_le (lt_of_block BX.out) hb.size)
    have H2 := Lib.hid (H0.out.below hb)
    have G2 := Lib.hid (grown_then G0.out (grown_of_below hb (some cb)))
    have X2 := Lib.hid ((hb.block _ (lt_of_block BX.out)).trans BX.out)
    clear hb
    go_wp2_with fail
    refine (RD.out _).mono ?_
    rintro e w3 ⟨hb, A, c, rfl, hc, hP, hO, hL, hA⟩
    have H3 := Lib.hid (H2.out.below hb)
    have G3 := Lib.hid (grown_then G2.out (grown_of_below hb (some cb)))
    have P3 := Lib.hid hP
    have Q3 := Lib.hid (And.intro hc (And.intro hO hL))
    have A3 := Lib.hid (fun g i (e : A = some ⟨g, i, none⟩) => Nat.lt_of_lt_of_le Z2.out (hA g i e))
    have X3 := (hb.block _ (lt_of_block X2.out)).trans X2.out
    have c0 : w3.cell? ⟨w.heap.size, 0, none⟩ = some (.pointer (some ⟨cb, 0, none⟩)) := cell_of_row _ _ 0 _ _ _ X3
    have c1 : w3.cell? ⟨w.heap.size, 1, none⟩ = some (.int .i64 5) := cell_of_row _ _ 1 _ _ _ X3
    clear hb X3 hc hP hO hL hA
    go_wp2_with fail
    refine (PS.out _ H3.out).mono ?_
    rintro e w4 ⟨rfl, hc, hg⟩
    have H4 := Lib.hid hc
    have G4 := Lib.hid (grown_then G3.out hg)
    have P4 := Lib.hid (P3.out.grown hg (fun g i e => by have := A3.out g i e; have := CB.out; omega))
    clear hc hg c0 c1
    go_wp2_with fail
    go_ret
    exact ⟨⟨A, c, rfl, Q3.out.1, P4.out, A3.out⟩, Q3.out.2.1, Q3.out.2.2, H4.out, G4.out⟩
  · have e1 : x.props v kind = ([], x) := by unfold Cs.props; rw [if_pos (.inr h5)]
    rw [e1]
    have h5' : (v == 5) = false := beq_eq_false_iff_ne.2 h5
    have h5n : (v != 5) = true := by rw [show (v != 5) = !(v == 5) from rfl, h5']; rfl
    unfold rdrV
    clear h5 h5' h h0 e1
    go_enter Tryz.func104, Tryz.ntmps104
    go_wp2_with fail
    go_ret
    exact ⟨⟨none, 0, rfl, Nat.zero_le _, fun e => absurd rfl e, fun g i e => by cases e⟩, fun p hp => (nomatch hp), Nat.zero_le _, H0.out, G0.out⟩
/-- As much of a CONNECT as its flags tell. -/
def descL (c u a h r : Bool) (q : Int) : Pk := { Pk.zero with kind := 1, clean := c, hasUser := u, hasPass := a, hasWill := h, wQos := q, wRetain := r }
def descP (f : Nat) : Pk := descL (f / 2 % 2 == 1) (f / 128 % 2 == 1) (f / 64 % 2 == 1) (f / 4 % 2 == 1) (f / 32 % 2 == 1) (f / 8 % 4 : Nat)
theorem desc_bits : ∀ f : Nat, f < 256 → (bits .and .i64 (f : Int) 2 != 0) = (f / 2 % 2 == 1) ∧ (bits .and .i64 (f : Int) 128 != 0) = (f / 128 % 2 == 1) ∧ (bits .and .i64 (f : Int) 64 != 0) = (f / 64 % 2 == 1) ∧ (bits .and .i64 (f : Int) 4 != 0) = (f / 4 % 2 == 1) ∧ (bits .and .i64 (f : Int) 32 != 0) = (f / 32 % 2 == 1) ∧
    bits .and .i64 ((f : Int) / 8) 3 = ((f / 8 % 4 : Nat) : Int) ∧ (bits .and .i64 (f : Int) 1 == 0) = (f % 2 == 0) := by decide +kernel
set_option maxRecDepth 100000 in
theorem con_described (f : Nat) (hf : f < 256) (w : World) :
    Calls Tryz.prog 153 #[.int .i64 (f : Nat)] w fun e w' => e = .returned (.agg (pkC (descP f) adZ)) ∧ Below w.heap.size w w' := by
  obtain ⟨b2, b128, b64, b4, b32, bq, _⟩ := desc_bits f hf
  have f0 : (0 : Int) ≤ f := by omega
  have f1 : (f : Int) < 256 := by omega
  unfold descP
  generalize (f / 2 % 2 == 1) = c at *
  generalize (f / 128 % 2 == 1) = u at *
  generalize (f / 64 % 2 == 1) = a at *
  generalize (f / 4 % 2 == 1) = h at *
  generalize (f / 32 % 2 == 1) = r at *
  generalize ((f / 8 % 4 : Nat) : Int) = q at *
  obtain ⟨D, hD⟩ : ∃ D, pkC (descL c u a h r q) adZ = D := ⟨_, rfl⟩
  have hD1 := pkC_size (descL c u a h r q) adZ
  have hD2 := pkC_one (descL c u a h r q) adZ
  rw [hD] at hD1 hD2 ⊢
  have HD := Lib.hid hD
  have HD1 := Lib.hid hD1
  have HD2 := Lib.hid hD2
  have HZ := Lib.hid pkZ_size
  have hzv := zero_pk
  have hne : ¬ pkZ = #[] := by intro h; have := pkZ_size; rw [h] at this; cases this
  have LO := Lib.hid (belowRow (B := w.heap.size) (k := w.heap.size) (below_box (w := w) (.cells pkZ 32)) (Nat.le_refl _) D)
  clear hD hD1 hD2 hf
  go_enter Tryz.func153, Tryz.ntmps153
  go_wp2_with (first
    | (refine wpList_buildTo rfl 32 _ rfl (some 22) rfl D (by rw [← HD.out]; kernel_rfl) ?_)
    | (refine wpList_store_row rfl _ _ _ rfl w.heap.size D rfl rfl 32 _ (heap_alloc_new w _) (by rw [HD1.out]; exact info_pk) (by rw [HZ.out, HD1.out]) HD2.out ?_))
  exact ret_row (cs := D) rfl rfl rfl Tryz.underlying32 rfl (by rw [HD1.out]; exact info_pk) (setRow_heap _ _ _ _ _ _ (heap_alloc_new w _)) ⟨rfl, LO.out⟩
end
end Go.Proofs.YtbgpcmbaodjibaaGreat
namespace Go.Proofs.YtbgpcmbaodjibaaGreat
open Go.RowKit

section
variable {w W W' : World} {cb : Nat} {s : ByteArray} {x : Cs} {v : Int}
theorem num_one_lt (x : Cs) : (x.num 1).1 < 256 := by
  unfold Cs.num
  have h1 := num_lt (x.take 1).1
  have hl : (x.take 1).1.length ≤ 1 := by
    unfold Cs.take
    split
    · simp
    · split
      · simp
      · simp; omega
  have : 256 ^ (x.take 1).1.length ≤ 256 ^ 1 := Nat.pow_le_pow_right (by decide) hl
  omega
theorem flags_fit_wrong : ∀ f < 256, ∀ b4 : Bool, (f % 2 == 0 && (decide ((0 : Int) ≤ (f / 8 % 4 : Nat)) && decide (((f / 8 % 4 : Nat) : Int) ≤ 2) && ((f / 4 % 2 == 1) || (((f / 8 % 4 : Nat) : Int) == 0 && !(f / 32 % 2 == 1))) && !(b4 && (f / 64 % 2 == 1) && !(f / 128 % 2 == 1)))) =
    !(f % 2 == 1 || f / 8 % 4 == 3 || (f / 4 % 2 == 0 && f / 8 % 8 != 0) || (b4 && f / 64 == 1)) := by decide +kernel
theorem fit_wrong (v : Int) {f : Nat} (hf : f < 256) : (f % 2 == 0 && fitC v (f / 4 % 2 == 1) (f / 64 % 2 == 1) (f / 128 % 2 == 1) (f / 32 % 2 == 1) (f / 8 % 4 : Nat)) = !wrongC v f := flags_fit_wrong f hf (v == 4)
theorem fail_if (y : Cs) (b : Bool) (f : Nat) : (if b then y else y.fail f) = if y.e = 0 ∧ b = false then y.fail f else y := by
  cases b
  · by_cases h : y.e = 0
    · simp [h]
    · simp [h, Cs.fail]
  · simp
/-- What stands while a reader's method runs: its box and its result's in front, the cursor where y says. -/
structure RkS (w : World) (cb : Nat) (s : ByteArray) (v : Int) (y : Cs) (W : World) : Prop where
  lt : cb < w.heap.size
  g : w.grownBy W (some cb)
  bx : W.heap[w.heap.size]? = some (.cells #[.pointer (some ⟨cb, 0, none⟩), .int .i64 v] 58 (0, 0))
  rs : W.heap[w.heap.size + 1]? = some (.cells pkZ 32 (0, 0))
  cs : CsAt W cb s y
theorem RkS.made (h : CsAt w cb s x) : RkS w cb s v x ((w.alloc (.cells #[.pointer (some ⟨cb, 0, none⟩), .int .i64 v] 58)).alloc (.cells pkZ 32)) :=
  ⟨h.lt, grown_then (World.grownBy_alloc _ _ _) (World.grownBy_alloc _ _ _), heap_alloc2_old _ _ _, heap_alloc2_new _ _ _, (h.alloc _).alloc _⟩
theorem RkS.call {y y' : Cs} (h : RkS w cb s v y W) (hc : CsAt W' cb s y') (hg : W.grownBy W' (some cb)) : RkS w cb s v y' W' :=
  ⟨h.lt, grown_then h.g hg, (hg.block _ (lt_of_block h.bx) (fun e => by have := Option.some.inj e; have := h.lt; omega)).trans h.bx, (hg.block _ (lt_of_block h.rs) (fun e => by have := Option.some.inj e; have := h.lt; omega)).trans h.rs, hc⟩
theorem RkS.below {y : Cs} (h : RkS w cb s v y W) (hb : Below W.heap.size W W') : RkS w cb s v y W' := h.call (h.cs.below hb) (grown_of_below hb _)
theorem RkS.drew {y : Cs} (h : RkS w cb s v y W) : RkS w cb s v y W.drew := ⟨h.lt, grown_draws h.g 1, h.bx, h.rs, h.cs⟩
theorem RkS.c0 {y : Cs} (h : RkS w cb s v y W) : W.cell? ⟨w.heap.size, 0, none⟩ = some (.pointer (some ⟨cb, 0, none⟩)) := cell_of_row _ _ 0 _ _ _ h.bx
theorem RkS.c1 {y : Cs} (h : RkS w cb s v y W) : W.cell? ⟨w.heap.size, 1, none⟩ = some (.int .i64 v) := cell_of_row _ _ 1 _ _ _ h.bx
/-- Another block changes, behind the two. -/
theorem RkS.other {y : Cs} (h : RkS w cb s v y W) {B : Nat} (hB : w.heap.size + 2 ≤ B) (hg : W.grownBy W' (some B)) : RkS w cb s v y W' :=
  ⟨h.lt, ⟨hg.os.trans h.g.os, hg.tape.trans h.g.tape, hg.output.trans h.g.output, Nat.le_trans h.g.size hg.size, fun k hk hne => (hg.block k (Nat.lt_of_lt_of_le hk h.g.size) (fun e => by have := Option.some.inj e; omega)).trans (h.g.block k hk hne)⟩,
   (hg.block _ (lt_of_block h.bx) (fun e => by have := Option.some.inj e; omega)).trans h.bx, (hg.block _ (lt_of_block h.rs) (fun e => by have := Option.some.inj e; omega)).trans h.rs,
   h.cs.of_block (hg.block _ h.cs.lt (fun e => by have := Option.some.inj e; have := h.lt; omega))⟩
theorem grown_row {B : Nat} {r : Option Nat} (h : w.grownBy W r) (hB : w.heap.size ≤ B) (D : Array Value) : w.grownBy (W.setRow B D) r :=
  ⟨h.os, h.tape, h.output, by have := h.size; simpa [World.setRow] using this, fun k hk hne => (setRow_other _ _ _ _ (by omega)).trans (h.block k hk hne)⟩
theorem row_kept (W : World) (B : Nat) (D : Array Value) : W.grownBy (W.setRow B D) (some B) :=
  ⟨rfl, rfl, rfl, by simp [World.setRow], fun k _ hne => setRow_other _ _ _ _ (fun e => hne (congrArg some e))⟩
set_option maxRecDepth 100000 in
set_option maxHeartbeats 2000000 in
theorem rd_flags (hm : s.size ≤ 9223372036854775807) (h : CsAt w cb s x) :
    Calls Tryz.prog 106 #[rdrV cb v] w fun e w' => e = .returned (.agg (pkC (descP (x.flags v).1) adZ)) ∧ CsAt w' cb s (x.flags v).2 ∧ w.grownBy w' (some cb) := by
  have S0 := Lib.hid (RkS.made (v := v) h)
  have OC := Lib.hid (fun W (h : CsAt W cb s x) => rd_octet (v := v) hm h)
  have hf := num_one_lt x
  unfold Cs.flags
  rw [show (if (x.num 1).2.e = 0 ∧ wrongC v (x.num 1).1 = true then (x.num 1).2.fail 7 else (x.num 1).2) = (if (!wrongC v (x.num 1).1) then (x.num 1).2 else (x.num 1).2.fail 7) by rw [fail_if]; simp]
  generalize x.num 1 = z at *
  obtain ⟨f, y⟩ := z
  have hw := fit_wrong v hf
  obtain ⟨_, _, _, _, _, _, hb1⟩ := desc_bits f hf
  have DE := Lib.hid (con_described f hf)
  have RQ := Lib.hid (fun (b : Bool) W (h : CsAt W cb s y) => rd_require (v := v) b 7 h)
  have FF := fun W => con_flags_fit v (c := pkC (descP f) adZ) W (show (pkC (descP f) adZ)[10]? = some (.bool (f / 128 % 2 == 1)) from rfl) (show (pkC (descP f) adZ)[12]? = some (.bool (f / 64 % 2 == 1)) from rfl) (show (pkC (descP f) adZ)[14]? = some (.bool (f / 4 % 2 == 1)) from rfl) (show (pkC (descP f) adZ)[17]? = some (.int .i64 (f / 8 % 4 : Nat)) from rfl) (show (pkC (descP f) adZ)[18]? = some (.bool (f / 32 % 2 == 1)) from rfl)
  simp only at hf hw ⊢
  rw [← hw]
  generalize fitC v (f / 4 % 2 == 1) (f / 64 % 2 == 1) (f / 128 % 2 == 1) (f / 32 % 2 == 1) (f / 8 % 4 : Nat) = b at *
  obtain ⟨g, hgb⟩ : ∃ g, (f % 2 == 0 && b) = g := ⟨_, rfl⟩
  rw [hgb]
  have HGB := Lib.hid hgb
  obtain ⟨yf, hyf⟩ : ∃ z, (if g = true then y else y.fail 7) = z := ⟨_, rfl⟩
  rw [hyf]
  have HY := Lib.hid hyf
  clear hgb hyf
  have hD1 := pkC_size (descP f) adZ
  have hD2 := pkC_one (descP f) adZ
  generalize pkC (descP f) adZ = D at *
  have FF := Lib.hid FF
  have HD1 := Lib.hid hD1
  have HD2 := Lib.hid hD2
  have HZ := Lib.hid pkZ_size
  have hzv := zero_pk
  have hne : ¬ pkZ = #[] := by intro h; have := pkZ_size; rw [h] at this; cases this
  obtain ⟨m, hm1⟩ : ∃ m, bits .and .i64 (f : Int) 1 = m := ⟨_, rfl⟩
  rw [hm1] at hb1
  have HM := Lib.hid hm1
  unfold rdrV at *
  clear hD1 hD2 hf hw h
  go_enter Tryz.func106, Tryz.ntmps106
  have c0 := S0.out.c0
  have c1 := S0.out.c1
  go_wp2_with fail
  refine (OC.out _ S0.out.cs).mono ?_
  rintro e W1 ⟨rfl, hc, hg⟩
  have S1 := Lib.hid (S0.out.call hc hg)
  clear hc hg c0 c1
  have c0 := S1.out.c0
  have c1 := S1.out.c1
  go_wp2_with fail
  refine (DE.out _).mono ?_
  rintro e W2 ⟨rfl, hb⟩
  have S2 := Lib.hid (S1.out.below hb)
  clear hb c0 c1
  have Z2 := Lib.hid (show w.heap.size + 2 ≤ W2.heap.size from lt_of_block S2.out.rs)
  have SP := Lib.hid ((S2.out.below (below_box (.cells pkZ 32))).other Z2.out (W' := (W2.alloc (.cells pkZ 32)).setRow W2.heap.size D) (row_kept _ _ _))
  have GP := Lib.hid (setRow_heap _ _ _ D _ _ (heap_alloc_new W2 (.cells pkZ 32)))
  have CB := Lib.hid S2.out.lt
  cases hz : (f % 2 == 0) with
  | true =>
      rw [hz] at hb1
      have hgb := HGB.out
      rw [hz, Bool.true_and] at hgb
      have HGB2 := Lib.hid hgb
      clear HGB hgb
      have HB := Lib.hid hb1
      clear hz hb1
      go_upto_region 3 with (first
        | (refine wpList_store_row rfl _ _ _ rfl W2.heap.size D rfl rfl 32 _ (heap_alloc_new W2 _) (by rw [HD1.out]; exact info_pk) (by rw [HZ.out, HD1.out]) HD2.out ?_))
      refine rflags_way1 (S := fun u W => RkS w cb s v (if u = true then (if b = true then y else y.fail 7) else y) W ∧ W.heap[W2.heap.size]? = some (.cells D 32 (0, 0))) (B := w.heap.size) (P := W2.heap.size) ⟨SP.out.drew, GP.out⟩ (fun u W h => h.1.c0) (fun u W h => h.1.c1) HM.out HB.out HD1.out (fun u W h => h.2) (fun u W h => (FF.out W).mono fun e w' ⟨he, hb⟩ => ⟨he, h.1.below hb, (hb.block _ (lt_of_block h.2)).trans h.2⟩) (fun u W h hu => by
        subst hu
        exact (RQ.out b W h.1.cs).mono fun e w' ⟨he, hc, hg⟩ => ⟨he, h.1.call hc hg, (hg.block _ (lt_of_block h.2) (fun e => by have := Option.some.inj e; have := CB.out; have := Z2.out; omega)).trans h.2⟩) ?_
      intro W3 hS
      have hS1 := hS.1
      rw [if_pos rfl, HGB2.out, HY.out] at hS1
      have S3 := Lib.hid hS1
      have G3 := Lib.hid hS.2
      clear hS hS1
      go_wp2_with (first
        | (refine wpList_load_row rfl _ _ rfl W2.heap.size rfl 32 D (0, 0) _ G3.out Tryz.underlying32 rfl (by rw [HD1.out]; exact info_pk) ?_)
        | (refine wpList_store_row rfl _ _ _ rfl (w.heap.size + 1) D rfl rfl 32 _ S3.out.rs (by rw [HD1.out]; exact info_pk) (by rw [HZ.out, HD1.out]) HD2.out ?_))
      refine ret_row (cs := D) rfl rfl rfl Tryz.underlying32 rfl (by rw [HD1.out]; exact info_pk) (setRow_heap _ _ _ _ _ _ S3.out.rs) ⟨rfl, ?_, ?_⟩
      · exact S3.out.cs.of_block (setRow_other W3 (w.heap.size + 1) cb D (Nat.ne_of_lt (Nat.lt_succ_of_lt S3.out.lt)))
      · exact grown_row S3.out.g (by omega) _
  | false =>
      rw [hz] at hb1
      have hgb := HGB.out
      rw [hz, Bool.false_and] at hgb
      have HGB2 := Lib.hid hgb
      clear HGB hgb
      have HB := Lib.hid hb1
      clear hz hb1
      go_upto_region 3 with (first
        | (refine wpList_store_row rfl _ _ _ rfl W2.heap.size D rfl rfl 32 _ (heap_alloc_new W2 _) (by rw [HD1.out]; exact info_pk) (by rw [HZ.out, HD1.out]) HD2.out ?_))
      refine rflags_way0 (S := fun u W => RkS w cb s v (if u = true then (if false = true then y else y.fail 7) else y) W ∧ W.heap[W2.heap.size]? = some (.cells D 32 (0, 0))) (B := w.heap.size) (P := W2.heap.size) ⟨SP.out.drew, GP.out⟩ (fun u W h => h.1.c0) (fun u W h => h.1.c1) HM.out HB.out (fun u W h hu => by
        subst hu
        exact (RQ.out false W h.1.cs).mono fun e w' ⟨he, hc, hg⟩ => ⟨he, h.1.call hc hg, (hg.block _ (lt_of_block h.2) (fun e => by have := Option.some.inj e; have := CB.out; have := Z2.out; omega)).trans h.2⟩) ?_
      intro W3 hS
      have hS1 := hS.1
      rw [if_pos rfl, HGB2.out, HY.out] at hS1
      have S3 := Lib.hid hS1
      have G3 := Lib.hid hS.2
      clear hS hS1
      go_wp2_with (first
        | (refine wpList_load_row rfl _ _ rfl W2.heap.size rfl 32 D (0, 0) _ G3.out Tryz.underlying32 rfl (by rw [HD1.out]; exact info_pk) ?_)
        | (refine wpList_store_row rfl _ _ _ rfl (w.heap.size + 1) D rfl rfl 32 _ S3.out.rs (by rw [HD1.out]; exact info_pk) (by rw [HZ.out, HD1.out]) HD2.out ?_))
      refine ret_row (cs := D) rfl rfl rfl Tryz.underlying32 rfl (by rw [HD1.out]; exact info_pk) (setRow_heap _ _ _ _ _ _ S3.out.rs) ⟨rfl, ?_, ?_⟩
      · exact S3.out.cs.of_block (setRow_other W3 (w.heap.size + 1) cb D (Nat.ne_of_lt (Nat.lt_succ_of_lt S3.out.lt)))
      · exact grown_row S3.out.g (by omega) _
end
end Go.Proofs.YtbgpcmbaodjibaaGreat
namespace Go.Proofs.YtbgpcmbaodjibaaGreat
open Go.RowKit

/-- What stands while a packet is read: the reader's box, the result, the packet in block B, its lists behind it. -/
structure ReS (w : World) (cb : Nat) (s : ByteArray) (v : Int) (B : Nat) (y : Cs) (P : Pk) (a : Ad) (W : World) : Prop where
  rk : RkS w cb s v y W
  hB : w.heap.size + 2 ≤ B
  pk : W.heap[B]? = some (.cells (pkC P a) 32 (0, 0))
  ps : PL W a.ps P.props
  pc : P.props.length ≤ a.pc
  pf : ∀ g i, a.ps = some ⟨g, i, none⟩ → B < g
  ws : PL W a.w P.wProps
  wc : P.wProps.length ≤ a.wc
  wf : ∀ g i, a.w = some ⟨g, i, none⟩ → B < g
section
variable {w W W' : World} {cb : Nat} {s : ByteArray} {x y y' : Cs} {v : Int} {B : Nat} {P P' : Pk} {a a' : Ad}
theorem ReS.ne (h : ReS w cb s v B y P a W) : B ≠ cb := by have := h.rk.lt; have := h.hB; omega
theorem ReS.call (h : ReS w cb s v B y P a W) (hc : CsAt W' cb s y') (hg : W.grownBy W' (some cb)) : ReS w cb s v B y' P a W' :=
  ⟨h.rk.call hc hg, h.hB, (hg.block _ (lt_of_block h.pk) (fun e => h.ne (Option.some.inj e))).trans h.pk, h.ps.grown hg (fun g i e => by have := h.pf g i e; have := h.rk.lt; have := h.hB; omega), h.pc, h.pf, h.ws.grown hg (fun g i e => by have := h.wf g i e; have := h.rk.lt; have := h.hB; omega), h.wc, h.wf⟩
theorem ReS.cell (h : ReS w cb s v B y P a W) (j : Nat) : W.cell? ⟨B, j, none⟩ = (pkC P a)[j]? := cell_of_row _ _ j _ _ _ h.pk
theorem ReS.fr (h : ReS w cb s v B y P a W) (j : Nat) : W.frozen? ⟨B, j, none⟩ = false := frozen_of_row _ _ _ _ _ h.pk
theorem ReS.put (h : ReS w cb s v B y P a W) (j : Nat) (u : Value) (he : (pkC P a).setIfInBounds j u = pkC P' a) (hp : P'.props = P.props) (hw : P'.wProps = P.wProps) : ReS w cb s v B y P' a (W.setCell ⟨B, j, none⟩ u) := by
  have hg := block_kept W B j u
  refine ⟨h.rk.other h.hB hg, h.hB, by have := setCell_block h.pk j u; rw [he] at this; exact this, ?_, by rw [hp]; exact h.pc, h.pf, ?_, by rw [hw]; exact h.wc, h.wf⟩
  · rw [hp]; exact h.ps.grown hg (fun g i e => by have := h.pf g i e; omega)
  · rw [hw]; exact h.ws.grown hg (fun g i e => by have := h.wf g i e; omega)
theorem ReS.putPs (h : ReS w cb s v B y P a W) {A : Option Addr} {c : Nat} {L : List Pr} (hL : PL W A L) (hc : L.length ≤ c) (hf : ∀ g i, A = some ⟨g, i, none⟩ → B < g) : ReS w cb s v B y { P with props := L } { a with ps := A, pc := c } (W.setCell ⟨B, 24, none⟩ (.slice A L.length c)) := by
  have hg := block_kept W B 24 (.slice A L.length c)
  exact ⟨h.rk.other h.hB hg, h.hB, setCell_block h.pk 24 (.slice A L.length c), hL.grown hg (fun g i e => by have := hf g i e; omega), hc, hf, h.ws.grown hg (fun g i e => by have := h.wf g i e; omega), h.wc, h.wf⟩
theorem ReS.putWs (h : ReS w cb s v B y P a W) {A : Option Addr} {c : Nat} {L : List Pr} (hL : PL W A L) (hc : L.length ≤ c) (hf : ∀ g i, A = some ⟨g, i, none⟩ → B < g) : ReS w cb s v B y { P with wProps := L } { a with w := A, wc := c } (W.setCell ⟨B, 19, none⟩ (.slice A L.length c)) := by
  have hg := block_kept W B 19 (.slice A L.length c)
  exact ⟨h.rk.other h.hB hg, h.hB, setCell_block h.pk 19 (.slice A L.length c), h.ps.grown hg (fun g i e => by have := h.pf g i e; omega), h.pc, h.pf, hL.grown hg (fun g i e => by have := hf g i e; omega), hc, hf⟩
/-- A packet has just been laid. -/
theorem ReS.laid (h : RkS w cb s v y W) {D : Array Value} (hD : pkC P adZ = D) (hp : P.props = []) (hw : P.wProps = []) : ReS w cb s v W.heap.size y P adZ ((W.alloc (.cells pkZ 32)).setRow W.heap.size D) := by
  have Z := lt_of_block h.rs
  refine ⟨(h.below (below_box (.cells pkZ 32))).other Z (row_kept _ _ _), Z, by rw [hD]; exact setRow_heap _ _ _ D _ _ (heap_alloc_new W _), ?_, by rw [hp]; exact Nat.zero_le _, fun g i e => (by cases e), ?_, by rw [hw]; exact Nat.zero_le _, fun g i e => (by cases e)⟩
  · rw [hp]; exact PL.nil
  · rw [hw]; exact PL.nil
/-- What a method that reads a packet returns. -/
def PkRet (w : World) (cb : Nat) (s : ByteArray) (y : Cs) (P : Pk) (e : Ending) (W : World) : Prop :=
  ∃ a : Ad, e = .returned (.agg (pkC P a)) ∧ PL W a.ps P.props ∧ P.props.length ≤ a.pc ∧ PL W a.w P.wProps ∧ P.wProps.length ≤ a.wc ∧ (∀ g i, a.ps = some ⟨g, i, none⟩ → w.heap.size ≤ g) ∧ (∀ g i, a.w = some ⟨g, i, none⟩ → w.heap.size ≤ g) ∧ CsAt W cb s y ∧ w.grownBy W (some cb)
theorem ReS.ret (h : ReS w cb s v B y P a W) (D : Array Value) : PkRet w cb s y P (.returned (.agg (pkC P a))) (W.setRow (w.heap.size + 1) D) := by
  have hg := row_kept W (w.heap.size + 1) D
  have hb := h.hB
  refine ⟨a, rfl, h.ps.grown hg (fun g i e => by have := h.pf g i e; omega), h.pc, h.ws.grown hg (fun g i e => by have := h.wf g i e; omega), h.wc, fun g i e => by have := h.pf g i e; omega, fun g i e => by have := h.wf g i e; omega, ?_, grown_row h.rk.g (by omega) _⟩
  exact h.rk.cs.of_block (setRow_other W (w.heap.size + 1) cb D (Nat.ne_of_lt (Nat.lt_succ_of_lt h.rk.lt)))
theorem not_one : ∀ f : Nat, f < 256 → (bits .andNot .i64 (f : Int) 1 == 0) = decide (f ≤ 1) := by decide +kernel
set_option maxRecDepth 100000 in
set_option maxHeartbeats 2000000 in
theorem rd_connack (hm : s.size ≤ 9223372036854775807) (h : CsAt w cb s x) :
    Calls Tryz.prog 66 #[rdrV cb v] w (PkRet w cb s (backC v x).2 (backC v x).1) := by
  have S0 := Lib.hid (RkS.made (v := v) h)
  have hf := num_one_lt x
  obtain ⟨z, hz⟩ : ∃ z, x.num 1 = z := ⟨_, rfl⟩
  obtain ⟨f, y1⟩ := z
  rw [hz] at hf
  obtain ⟨y2, hy2⟩ : ∃ z, (if f > 1 then y1.fail 7 else y1) = z := ⟨_, rfl⟩
  obtain ⟨z, hz3⟩ : ∃ z, y2.num 1 = z := ⟨_, rfl⟩
  obtain ⟨c, y3⟩ := z
  obtain ⟨z, hz4⟩ : ∃ z, y3.props v 2 = z := ⟨_, rfl⟩
  obtain ⟨L, y4⟩ := z
  have e : backC v x = ({ Pk.zero with kind := 2, session := f == 1, code := (c : Int), props := L }, y4) := by
    unfold backC
    simp only [hz, hy2, hz3, hz4]
  rw [e]
  have O1 := fun W (h : CsAt W cb s x) => rd_octet (v := v) hm h
  have O2 := fun W (h : CsAt W cb s y2) => rd_octet (v := v) hm h
  have PR := fun W (h : CsAt W cb s y3) => rd_props (v := v) 2 (by decide) (by decide) hm h
  have RQ := fun W (h : CsAt W cb s y1) => rd_require (v := v) (decide (f ≤ 1)) 7 h
  have ey2 : (if decide (f ≤ 1) then y1 else y1.fail 7) = y2 := by
    rw [← hy2]
    by_cases h1 : f ≤ 1
    · rw [decide_eq_true h1, if_pos rfl, if_neg (by omega)]
    · rw [decide_eq_false h1, if_neg (by decide), if_pos (by omega)]
  have hb1 := not_one f hf
  rw [hz] at O1
  rw [hz3] at O2
  rw [hz4] at PR
  rw [ey2] at RQ
  generalize decide (f ≤ 1) = b at *
  have hc0 : (f : Int) < 256 := by have : f < 256 := hf; omega
  have hs1 : ((f : Int) == 1) = (f == 1) := by
    by_cases h1 : f = 1
    · subst h1; rfl
    · rw [beq_eq_false_iff_ne.2 h1, beq_eq_false_iff_ne.2 (by omega)]
  generalize (f == 1) = se at *
  obtain ⟨D, hD⟩ : ∃ D, pkC { Pk.zero with kind := 2, session := se } adZ = D := ⟨_, rfl⟩
  have hD1 := pkC_size { Pk.zero with kind := 2, session := se } adZ
  have hD2 := pkC_one { Pk.zero with kind := 2, session := se } adZ
  rw [hD] at hD1 hD2
  have HD := Lib.hid hD
  have HD1 := Lib.hid hD1
  have HD2 := Lib.hid hD2
  have HZ := Lib.hid pkZ_size
  have hzv := zero_pk
  have hne : ¬ pkZ = #[] := by intro h; have := pkZ_size; rw [h] at this; cases this
  have O1 := Lib.hid O1
  have O2 := Lib.hid O2
  have PR := Lib.hid PR
  have RQ := Lib.hid RQ
  unfold rdrV at *
  clear hf hz hy2 hz3 hz4 e ey2 h hD hD1 hD2
  go_enter Tryz.func66, Tryz.ntmps66
  have c0 := S0.out.c0
  have c1 := S0.out.c1
  go_wp2_with fail
  refine (O1.out _ S0.out.cs).mono ?_
  rintro e W1 ⟨rfl, hc, hg⟩
  have S1 := Lib.hid (S0.out.call hc hg)
  clear hc hg c0 c1
  have c0 := S1.out.c0
  have c1 := S1.out.c1
  go_wp2_with fail
  refine (RQ.out _ S1.out.cs).mono ?_
  rintro e W2 ⟨rfl, hc, hg⟩
  have S2 := Lib.hid (S1.out.call hc hg)
  clear hc hg c0 c1
  have SP := Lib.hid (ReS.laid S2.out HD.out rfl rfl)
  have c0 := SP.out.rk.c0
  have c1 := SP.out.rk.c1
  go_wp2_with (first
    | (refine wpList_buildTo rfl 32 _ rfl (some 14) rfl D (by rw [← HD.out]; kernel_rfl) ?_)
    | (refine wpList_store_row rfl _ _ _ rfl W2.heap.size D rfl rfl 32 _ (heap_alloc_new W2 _) (by rw [HD1.out]; exact info_pk) (by rw [HZ.out, HD1.out]) HD2.out ?_))
  refine (O2.out _ SP.out.rk.cs).mono ?_
  rintro e W3 ⟨rfl, hc, hg⟩
  have S3 := Lib.hid (SP.out.call hc hg)
  clear hc hg c0 c1
  generalize W2.heap.size = B at *
  have S4 := Lib.hid (S3.out.put 21 (.int .i64 (c : Int)) (P' := { Pk.zero with kind := 2, session := se, code := (c : Int) }) rfl rfl rfl)
  have n21 : W3.cell? ⟨B, 21, none⟩ = some (.int .i64 0) := S3.out.cell 21
  have f21 := S3.out.fr 21
  have c0 := S4.out.rk.c0
  have c1 := S4.out.rk.c1
  go_wp2_with fail
  clear n21 f21
  refine (PR.out _ S4.out.rk.cs).mono ?_
  rintro e W5 ⟨⟨A, cc, rfl, hl, hP, hA⟩, ok, h1000, hc, hg⟩
  have hBW := lt_of_block S4.out.pk
  have S5 := Lib.hid (S4.out.call hc hg)
  have S6 := Lib.hid (S5.out.putPs hP hl (fun g i e => Nat.lt_trans hBW (hA g i e)))
  clear hc hg c0 c1 hP hl hA hBW ok h1000
  have n24 : W5.cell? ⟨B, 24, none⟩ = some (.slice none 0 0) := S5.out.cell 24
  have f24 := S5.out.fr 24
  have G6 := S6.out.pk
  have hE1 := pkC_size { Pk.zero with kind := 2, session := se, code := (c : Int), props := L } { adZ with ps := A, pc := cc }
  have hE2 := pkC_one { Pk.zero with kind := 2, session := se, code := (c : Int), props := L } { adZ with ps := A, pc := cc }
  have GR := Lib.hid S6.out.rk.rs
  have RT := S6.out.ret (pkC { Pk.zero with kind := 2, session := se, code := (c : Int), props := L } { adZ with ps := A, pc := cc })
  obtain ⟨E, hE⟩ : ∃ E, pkC { Pk.zero with kind := 2, session := se, code := (c : Int), props := L } { adZ with ps := A, pc := cc } = E := ⟨_, rfl⟩
  change PkRet w cb s y4 _ (.returned (.agg (pkC { Pk.zero with kind := 2, session := se, code := (c : Int), props := L } { adZ with ps := A, pc := cc }))) _ at RT
  change _ = some (Obj.cells (pkC { Pk.zero with kind := 2, session := se, code := (c : Int), props := L } { adZ with ps := A, pc := cc }) _ _) at G6
  rw [hE] at hE1 hE2 G6 RT
  have HE1 := Lib.hid hE1
  have HE2 := Lib.hid hE2
  have G6 := Lib.hid G6
  have RT := Lib.hid RT
  clear hE1 hE2 hE
  go_wp2_with (first
    | (refine wpList_load_row rfl _ _ rfl B rfl 32 E (0, 0) _ G6.out Tryz.underlying32 rfl (by rw [HE1.out]; exact info_pk) ?_)
    | (refine wpList_store_row rfl _ _ _ rfl (w.heap.size + 1) E rfl rfl 32 _ GR.out (by rw [HE1.out]; exact info_pk) (by rw [HZ.out, HE1.out]) HE2.out ?_))
  exact ret_row (cs := E) rfl rfl rfl Tryz.underlying32 rfl (by rw [HE1.out]; exact info_pk) (setRow_heap _ _ _ _ _ _ GR.out) RT.out
end
end Go.Proofs.YtbgpcmbaodjibaaGreat
