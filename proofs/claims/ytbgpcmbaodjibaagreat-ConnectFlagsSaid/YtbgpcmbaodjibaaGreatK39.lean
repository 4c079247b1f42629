/-
  The contracts of connect.reader's props and flags, and of connect.described. Condition: the bytes are no more than an int says.
-/
import Derived.Great.BuildSlice
import Derived.Test.YtbgpcmbaodjibaaGreatK38
import Derived.Test.YtbgpcmbaodjibaaGreatK20
import Derived.Test.YtbgpcmbaodjibaaGreatK02
namespace Go.Proofs.YtbgpcmbaodjibaaGreat
open Go.RowKit

theorem readP_nil (kind : Int) : readP kind [] = ([], 0, 3) := rfl
section
variable {w W W' : World} {cb : Nat} {s : ByteArray} {x : Cs} {v : Int}
theorem prop_read_far (kind : Int) (s : ByteArray) (L : List Pr) (k F : Nat) (hk0 : -9223372036854775808 ≤ kind) (hk1 : kind ≤ 9223372036854775807) (hm : s.size ≤ 9223372036854775807) (hq : readP kind s.data.toList = (L, k, F)) (W : World) :
    Calls Tryz.prog 150 #[.int .i64 kind, .string s] W fun e W' => Below W.heap.size W W' ∧ ∃ A c, e = .returned (.tuple #[.slice A L.length c, .int .i64 (k : Nat), .int .i64 (F : Nat)]) ∧ L.length ≤ c ∧ PL W' A L ∧ (∀ p ∈ L, PrOk p) ∧ L.length ≤ 1000 ∧ ∀ g i, A = some ⟨g, i, none⟩ → W.heap.size ≤ g := by
  have := prop_read_any kind s W hk0 hk1 hm
  rw [hq] at this
  refine this.mono fun e W' ⟨hb, ok, hl, v, he, ho⟩ => ⟨hb, ?_⟩
  obtain ⟨A, c, rfl, hc, hP, hg⟩ := PL.owned ho rfl
  exact ⟨A, c, he, hc, hP, ok, hl, hg⟩
set_option maxRecDepth 100000 in
theorem rd_props (kind : Int) (hk0 : -9223372036854775808 ≤ kind) (hk1 : kind ≤ 9223372036854775807) (hm : s.size ≤ 9223372036854775807) (h : CsAt w cb s x) :
    Calls Tryz.prog 104 #[rdrV cb v, .int .i64 kind] w fun e w' => (∃ A c, e = .returned (.slice A (x.props v kind).1.length c) ∧ (x.props v kind).1.length ≤ c ∧ PL w' A (x.props v kind).1 ∧ ∀ g i, A = some ⟨g, i, none⟩ → w.heap.size < g) ∧ (∀ p ∈ (x.props v kind).1, PrOk p) ∧ (x.props v kind).1.length ≤ 1000 ∧ CsAt w' cb s (x.props v kind).2 ∧ w.grownBy w' (some cb) := by
  have G0 := Lib.hid (World.grownBy_alloc w (.cells #[.pointer (some ⟨cb, 0, none⟩), .int .i64 v] 58) (some cb))
  have h0 := h.alloc (.cells #[.pointer (some ⟨cb, 0, none⟩), .int .i64 v] 58)
  have H0 := Lib.hid h0
  by_cases h5 : v = 5
  · subst h5
    have AH := Lib.hid (rd_ahead (v := 5) hm h0)
    have hle : x.ahead.length ≤ x.r.length := by unfold Cs.ahead; split; exact Nat.le_refl _; exact Nat.zero_le _
    obtain ⟨L, k, F, hq⟩ : ∃ L k F, readP kind x.ahead = (L, k, F) := ⟨_, _, _, rfl⟩
    have RD := fun W => prop_read_far kind (bs x.ahead) L k F hk0 hk1 (by rw [bs_size]; have := h.len; omega) hq W
    have hk2 : k ≤ x.r.length := by
      by_cases hF : F = 0
      · subst hF
        have := (read_back hq).2.1
        omega
      · have := read_err (kind := kind) (s := x.ahead) (by rw [hq]; exact hF)
        rw [hq] at this
        have : k = 0 := congrArg (fun z => z.2.1) this
        omega
    have e1 : x.props 5 kind = (L, if x.e = 0 then ⟨x.r.drop k, F⟩ else x) := by
      unfold Cs.props
      by_cases he : x.e = 0
      · unfold Cs.ahead at hq
        rw [if_pos he] at hq
        simp [he, hq]
      · unfold Cs.ahead at hq
        rw [if_neg he, readP_nil] at hq
        simp [he, ← (Prod.mk.inj hq).1]
    rw [e1]
    have RD := Lib.hid RD
    have PS := fun W (h : CsAt W cb s x) => rd_pass (v := 5) k F hk2 hm h
    generalize (if x.e = 0 then (⟨x.r.drop k, F⟩ : Cs) else x) = y at *
    have PS := Lib.hid PS
    have BX := Lib.hid (box_cells w cb 5)
    have CB := Lib.hid h.lt
    unfold rdrV at *
    clear h h0 hle hk2 e1 hq
    go_enter Tryz.func104, Tryz.ntmps104
    go_wp2_with fail
    refine (AH.out).mono ?_
    rintro e w2 ⟨rfl, hb⟩
    have Z2 := Lib.hid (show w.heap.size < w2.heap.size from Nat.lt_of_lt_of_le (lt_of_block BX.out) hb.size)
    have H2 := Lib.hid (H0.out.below hb)
    have G2 := Lib.hid (grown_then G0.out (grown_of_below hb (some cb)))
    have X2 := Lib.hid ((hb.block _ (lt_of_block BX.out)).trans BX.out)
    clear hb
    go_wp2_with fail
    refine (RD.out _).mono ?_
    rintro e w3 ⟨hb, A, c, rfl, hc, hP, hO, hL, hA⟩
    have H3 := Lib.hid (H2.out.below hb)
    have G3 := Lib.hid (grown_then G2.out (grown_of_below hb (some cb)))
    have P3 := Lib.hid hP
    have Q3 := Lib.hid (And.intro hc (And.intro hO hL))
    have A3 := Lib.hid (fun g i (e : A = some ⟨g, i, none⟩) => Nat.lt_of_lt_of_le Z2.out (hA g i e))
    have X3 := (hb.block _ (lt_of_block X2.out)).trans X2.out
    have c0 : w3.cell? ⟨w.heap.size, 0, none⟩ = some (.pointer (some ⟨cb, 0, none⟩)) := cell_of_row _ _ 0 _ _ _ X3
    have c1 : w3.cell? ⟨w.heap.size, 1, none⟩ = some (.int .i64 5) := cell_of_row _ _ 1 _ _ _ X3
    clear hb X3 hc hP hO hL hA
    go_wp2_with fail
    refine (PS.out _ H3.out).mono ?_
    rintro e w4 ⟨rfl, hc, hg⟩
    have H4 := Lib.hid hc
    have G4 := Lib.hid (grown_then G3.out hg)
    have P4 := Lib.hid (P3.out.grown hg (fun g i e => by have := A3.out g i e; have := CB.out; omega))
    clear hc hg c0 c1
    go_wp2_with fail
    go_ret
    exact ⟨⟨A, c, rfl, Q3.out.1, P4.out, A3.out⟩, Q3.out.2.1, Q3.out.2.2, H4.out, G4.out⟩
  · have e1 : x.props v kind = ([], x) := by unfold Cs.props; rw [if_pos (.inr h5)]
    rw [e1]
    have h5' : (v == 5) = false := beq_eq_false_iff_ne.2 h5
    have h5n : (v != 5) = true := by rw [show (v != 5) = !(v == 5) from rfl, h5']; rfl
    unfold rdrV
    clear h5 h5' h h0 e1
    go_enter Tryz.func104, Tryz.ntmps104
    go_wp2_with fail
    go_ret
    exact ⟨⟨none, 0, rfl, Nat.zero_le _, fun e => absurd rfl e, fun g i e => by cases e⟩, fun p hp => (nomatch hp), Nat.zero_le _, H0.out, G0.out⟩
/-- As much of a CONNECT as its flags tell. -/
def descL (c u a h r : Bool) (q : Int) : Pk := { Pk.zero with kind := 1, clean := c, hasUser := u, hasPass := a, hasWill := h, wQos := q, wRetain := r }
def descP (f : Nat) : Pk := descL (f / 2 % 2 == 1) (f / 128 % 2 == 1) (f / 64 % 2 == 1) (f / 4 % 2 == 1) (f / 32 % 2 == 1) (f / 8 % 4 : Nat)
theorem desc_bits : ∀ f : Nat, f < 256 → (bits .and .i64 (f : Int) 2 != 0) = (f / 2 % 2 == 1) ∧ (bits .and .i64 (f : Int) 128 != 0) = (f / 128 % 2 == 1) ∧ (bits .and .i64 (f : Int) 64 != 0) = (f / 64 % 2 == 1) ∧ (bits .and .i64 (f : Int) 4 != 0) = (f / 4 % 2 == 1) ∧ (bits .and .i64 (f : Int) 32 != 0) = (f / 32 % 2 == 1) ∧
    bits .and .i64 ((f : Int) / 8) 3 = ((f / 8 % 4 : Nat) : Int) ∧ (bits .and .i64 (f : Int) 1 == 0) = (f % 2 == 0) := by decide +kernel
set_option maxRecDepth 100000 in
theorem con_described (f : Nat) (hf : f < 256) (w : World) :
    Calls Tryz.prog 153 #[.int .i64 (f : Nat)] w fun e w' => e = .returned (.agg (pkC (descP f) adZ)) ∧ Below w.heap.size w w' := by
  obtain ⟨b2, b128, b64, b4, b32, bq, _⟩ := desc_bits f hf
  have f0 : (0 : Int) ≤ f := by omega
  have f1 : (f : Int) < 256 := by omega
  unfold descP
  generalize (f / 2 % 2 == 1) = c at *
  generalize (f / 128 % 2 == 1) = u at *
  generalize (f / 64 % 2 == 1) = a at *
  generalize (f / 4 % 2 == 1) = h at *
  generalize (f / 32 % 2 == 1) = r at *
  generalize ((f / 8 % 4 : Nat) : Int) = q at *
  obtain ⟨D, hD⟩ : ∃ D, pkC (descL c u a h r q) adZ = D := ⟨_, rfl⟩
  have hD1 := pkC_size (descL c u a h r q) adZ
  have hD2 := pkC_one (descL c u a h r q) adZ
  rw [hD] at hD1 hD2 ⊢
  have HD := Lib.hid hD
  have HD1 := Lib.hid hD1
  have HD2 := Lib.hid hD2
  have HZ := Lib.hid pkZ_size
  have hzv := zero_pk
  have hne : ¬ pkZ = #[] := by intro h; have := pkZ_size; rw [h] at this; cases this
  have LO := Lib.hid (belowRow (B := w.heap.size) (k := w.heap.size) (below_box (w := w) (.cells pkZ 32)) (Nat.le_refl _) D)
  clear hD hD1 hD2 hf
  go_enter Tryz.func153, Tryz.ntmps153
  go_wp2_with (first
    | (refine wpList_buildTo rfl 32 _ rfl (some 22) rfl D (by rw [← HD.out]; kernel_rfl) ?_)
    | (refine wpList_store_row rfl _ _ _ rfl w.heap.size D rfl rfl 32 _ (heap_alloc_new w _) (by rw [HD1.out]; exact info_pk) (by rw [HZ.out, HD1.out]) HD2.out ?_))
  exact ret_row (cs := D) rfl rfl rfl Tryz.underlying32 rfl (by rw [HD1.out]; exact info_pk) (setRow_heap _ _ _ _ _ _ (heap_alloc_new w _)) ⟨rfl, LO.out⟩
end
end Go.Proofs.YtbgpcmbaodjibaaGreat
