/-
  The contracts of prop.measure at any list, and of prop.Valid. Condition: the fields of each property are what their types hold.
  The contracts of prop.data and prop.value: a value's bytes. Condition: the property passed its check.
-/
import Derived.Test.YtaahhbjnflimnaaGreatK37
import Derived.Test.YtaahhbjnflimnaaGreatK17
import Derived.Test.YtaahhbjnflimnaaGreatK23
namespace Go.Proofs.YtaahhbjnflimnaaGreat
open Go.RowKit

theorem below_grown_row {B b : Nat} {W W' : World} (hg : W.grownBy W' (some b)) (hB : B ≤ W.heap.size) (hr : B ≤ b) : Below B W W' :=
  ⟨hg.os, hg.tape, hg.output, hg.size, fun k hk => hg.block k (Nat.lt_of_lt_of_le hk hB) (fun e => by have := Option.some.inj e; omega)⟩
theorem validP_nil (kind : Int) : validP kind [] = 0 := rfl
theorem measure_nil {w : World} {b mb : Nat} {kind : Int} (A : Option Addr) (c : Nat) (h : TalL w b mb kind []) :
    Calls Tryz.prog 131 #[.pointer (some ⟨b, 0, none⟩), .slice A 0 c] w fun e w' => e = .returned (.tuple #[.int .i64 0, .int .i64 0]) ∧ w = w' := by
  have EN := end_any h
  change Calls _ _ _ _ (fun e w' => e = Ending.returned (.int .i64 0) ∧ _) at EN
  have EN := Lib.hid EN
  go_enter Tryz.func131, Tryz.ntmps131
  go_wp2_with fail
  refine wp_loop_rounds 1 ?_
  rw [rounds_succ]
  go_wp2_with fail
  refine (EN.out).mono ?_
  rintro e w2 ⟨rfl, rfl⟩
  go_wp2_with fail
  go_ret2
  exact ⟨rfl, rfl⟩
theorem measure_long {w : World} {b n : Nat} (A : Option Addr) (c : Nat) (hn : 1000 < n) :
    Calls Tryz.prog 131 #[.pointer (some ⟨b, 0, none⟩), .slice A n c] w fun e w' => e = .returned (.tuple #[.int .i64 0, .int .i64 4]) ∧ w = w' := by
  have h : (1000 : Int) < (n : Int) := by omega
  clear hn
  go_enter Tryz.func131, Tryz.ntmps131
  go_wp2_with fail
  go_ret2
  exact ⟨rfl, rfl⟩
theorem measure_any {w : World} {b mb : Nat} {kind : Int} (A : Option Addr) (n c : Nat) (l : List Pr) (h : TalL w b mb kind []) (hi : -9223372036854775808 ≤ kind) (hj : kind ≤ 9223372036854775807) (hl : PL w A l) (hgb : ∀ g i, A = some ⟨g, i, none⟩ → l ≠ [] → g ≠ b) (hn : l.length = n) (hc : n ≤ c) (ok : ∀ p ∈ l, PrOk p) :
    Calls Tryz.prog 131 #[.pointer (some ⟨b, 0, none⟩), .slice A n c] w fun e w' =>
      e = .returned (.tuple #[.int .i64 ((if validP kind l = 0 then (bodyP l).length else 0 : Nat) : Int), .int .i64 ((validP kind l : Nat) : Int)]) ∧ w.grownBy w' (some b) ∧ (validP kind l = 0 → TalL w' b mb kind l) := by
  subst hn
  by_cases h0 : l = []
  · subst h0
    exact (measure_nil A c h).mono fun e w' ⟨he, hw⟩ => ⟨he, hw ▸ World.grownBy.refl _ _, fun _ => hw ▸ h⟩
  by_cases h1 : 1000 < l.length
  · have hv : validP kind l = 4 := by unfold validP; rw [if_pos h1]
    rw [hv]
    exact (measure_long A c h1).mono fun e w' ⟨he, hw⟩ => ⟨he, hw ▸ World.grownBy.refl _ _, fun h => by cases h⟩
  · obtain ⟨g, i, rfl, hg⟩ := hl.addr h0
    exact measure_some g i c l h hi hj hl hg (hgb g i rfl h0) (by omega) hc ok

theorem valid_list (kind : Int) (A : Option Addr) (n c : Nat) (l : List Pr) (w : World) (hi : -9223372036854775808 ≤ kind) (hj : kind ≤ 9223372036854775807) (hl : PL w A l) (hn : l.length = n) (hc : n ≤ c) (ok : ∀ p ∈ l, PrOk p) :
    Calls Tryz.prog 69 #[.int .i64 kind, .slice A n c] w fun e w' => e = .returned (.int .i64 ((validP kind l : Nat) : Int)) ∧ Below w.heap.size w w' := by
  have MS := Lib.hid (fun W b mb (h : TalL W b mb kind []) hP hg => measure_any (w := W) (b := b) (mb := mb) A n c l h hi hj hP hg hn hc ok)
  have HL := Lib.hid hl
  generalize validP kind l = V at *
  generalize hT : (if V = 0 then (bodyP l).length else 0 : Nat) = T at *
  clear hT hn hc ok hl
  go_enter Tryz.func69, Tryz.ntmps69
  go_wp2_with fail
  refine (begin_any kind w).mono ?_
  rintro e w1 ⟨b, mb, rfl, ht, hb, hb2, hm2⟩
  have M1 := Lib.hid (MS.out w1 b mb ⟨0, ht, SeenOK.nil⟩ (HL.out.below hb) (fun g i e hne => by
    obtain ⟨g', i', e', hg'⟩ := HL.out.addr hne
    rw [e] at e'
    cases e'
    omega))
  have HB := Lib.hid hb
  have B2 := Lib.hid hb2
  clear ht hb hm2 hb2 MS HL
  go_wp2_with fail
  refine (M1.out).mono ?_
  rintro e w2 ⟨rfl, hg, _⟩
  have HG := Lib.hid (HB.out.trans (below_grown_row hg HB.out.size B2.out))
  clear hg
  go_wp2_with fail
  go_ret
  exact ⟨rfl, HG.out⟩
end Go.Proofs.YtaahhbjnflimnaaGreat
namespace Go.Proofs.YtaahhbjnflimnaaGreat
open Go.RowKit

theorem data_any (l : List UInt8) (w : World) (h : l.length ≤ 65535) :
    Calls Tryz.prog 203 #[.string (bs l)] w fun e w' => e = .returned (.string (bs (enc2 l))) ∧ Below w.heap.size w w' := by
  have B := Lib.hid (show ∀ W, Calls Tryz.prog 111 #[.string (bs l)] W fun e w' => e = .returned (.tuple #[.string (bs (enc2 l)), .int .i64 0]) ∧ Below W.heap.size W w' from fun W => binary_yes (bs l) W (by rw [bs_size]; exact h))
  clear h
  go_enter Tryz.func203, Tryz.ntmps203
  go_wp2_with fail
  refine (B.out _).mono ?_
  rintro e w1 ⟨rfl, hb⟩
  go_wp2_with fail
  go_ret
  exact ⟨rfl, hb⟩

section
variable (p : Pr) (w : World)
theorem value_var (hn : p.n ≤ 268435455) : Calls Tryz.prog 165 #[.int .i64 4, propV p] w fun e w' => e = .returned (.string (bs (vb p.n (sz p.n)))) ∧ Below w.heap.size w w' := by
  have hB := Lib.hid (CkS.made w 0 0 0 p)
  have B := Lib.hid (fun W => bytes_some p.n W hn)
  have hw : IntKind.i64.wrap (p.n : Int) = (p.n : Int) := by simp only [IntKind.wrap_i64]; omega
  have h0 : Below w.heap.size w (w.alloc (.cells #[.int .i64 p.id, .int .u32 p.n, .string (bs p.text), .string (bs p.value)] 46)) := (Below.refl _ _).alloc (Nat.le_refl _) _
  have H0 := Lib.hid h0
  clear hn h0
  unfold propV
  go_enter Tryz.func165, Tryz.ntmps165
  go_wp2_with fail
  refine (B.out _).mono ?_
  rintro e w1 ⟨rfl, hb⟩
  have H1 := Lib.hid (H0.out.trans (hb.mono H0.out.size))
  clear hb
  go_wp2_with fail
  go_ret
  exact ⟨rfl, H1.out⟩
theorem value_text (s : Nat) (hs : s = 5 ∨ s = 6) (h : p.text.length ≤ 65535) : Calls Tryz.prog 165 #[.int .i64 s, propV p] w fun e w' => e = .returned (.string (bs (enc2 p.text))) ∧ Below w.heap.size w w' := by
  have B := Lib.hid (fun W => data_any p.text W h)
  have h0 : Below w.heap.size w (w.alloc (.cells #[.int .i64 p.id, .int .u32 p.n, .string (bs p.text), .string (bs p.value)] 46)) := (Below.refl _ _).alloc (Nat.le_refl _) _
  have H0 := Lib.hid h0
  clear h h0
  unfold propV
  rcases hs with rfl | rfl
  · go_enter Tryz.func165, Tryz.ntmps165
    go_wp2_with fail
    refine (B.out _).mono ?_
    rintro e w1 ⟨rfl, hb⟩
    have H1 := Lib.hid (H0.out.trans (hb.mono H0.out.size))
    clear hb
    go_wp2_with fail
    go_ret
    exact ⟨rfl, H1.out⟩
  · go_enter Tryz.func165, Tryz.ntmps165
    go_wp2_with fail
    refine (B.out _).mono ?_
    rintro e w1 ⟨rfl, hb⟩
    have H1 := Lib.hid (H0.out.trans (hb.mono H0.out.size))
    clear hb
    go_wp2_with fail
    go_ret
    exact ⟨rfl, H1.out⟩
set_option maxRecDepth 100000 in
theorem value_pair (h : p.text.length ≤ 65535) (h2 : p.value.length ≤ 65535) : Calls Tryz.prog 165 #[.int .i64 7, propV p] w fun e w' => e = .returned (.string (bs (enc2 p.text ++ enc2 p.value))) ∧ Below w.heap.size w w' := by
  have B := Lib.hid (fun W => data_any p.text W h)
  have B2 := Lib.hid (fun W => data_any p.value W h2)
  have h0 : Below w.heap.size w (w.alloc (.cells #[.int .i64 p.id, .int .u32 p.n, .string (bs p.text), .string (bs p.value)] 46)) := (Below.refl _ _).alloc (Nat.le_refl _) _
  have hS : PrS w w.heap.size p (w.alloc (.cells #[.int .i64 p.id, .int .u32 p.n, .string (bs p.text), .string (bs p.value)] 46)).drew := PrS.mk h0.drew (PropAt.made w p)
  have ea := bs_append (enc2 p.text) (enc2 p.value)
  have EA := Lib.hid ea
  have hnl : ¬ 9223372036854775807 < (bs (enc2 p.text)).size + (bs (enc2 p.value)).size := by rw [bs_size, bs_size, enc2_length, enc2_length]; omega
  clear h h0 h2 ea
  unfold propV
  go_enter Tryz.func165, Tryz.ntmps165
  go_wp2_with fail
  go_region_held3 (fun w' => w'.cell? ⟨w.heap.size, 0, none⟩ = some (.int .i64 p.id) ∧ w'.cell? ⟨w.heap.size, 1, none⟩ = some (.int .u32 p.n) ∧ w'.cell? ⟨w.heap.size, 2, none⟩ = some (.string (bs p.text)) ∧ w'.cell? ⟨w.heap.size, 3, none⟩ = some (.string (bs p.value)) ∧ (Below w.heap.size w w' ∧ PropAt w' w.heap.size p)) (exact hS)
    (first
      | (go_at_call 203; with_reducible refine (B.out _).mono ?_; rintro e w1 ⟨rfl, hb⟩; have hS := hS.call hb; clear hb)
      | (go_at_call 203; with_reducible refine (B2.out _).mono ?_; rintro e w1 ⟨rfl, hb⟩; have hS := hS.call hb; clear hb))
  all_goals
    have hB := Lib.hid hS.2.2.2.2.1
    clear hS
    go_wp2_with fail
    go_ret
    exact ⟨by rw [← EA.out]; rfl, hB.out⟩
set_option maxRecDepth 100000 in
theorem value_num (s c : Nat) (hs : (s = 1 ∧ c = 1) ∨ (s = 2 ∧ c = 2) ∨ (s = 3 ∧ c = 4)) (hn : p.n < 4294967296) : Calls Tryz.prog 165 #[.int .i64 s, propV p] w fun e w' => e = .returned (.string (bs (be p.n c))) ∧ Below w.heap.size w w' := by
  have FX := fun W => fixed_any s p.n W (by omega) hn
  have hf : fixedP s p.n = c := by unfold fixedP; rcases hs with ⟨rfl, rfl⟩ | ⟨rfl, rfl⟩ | ⟨rfl, rfl⟩ <;> rfl
  rw [hf] at FX
  have PU := fun W => put_any p.n (c : Int) W (by omega)
  rw [show (min (c : Int) 16).toNat = c by omega] at PU
  have FX1 := Lib.hid FX
  have PU1 := Lib.hid PU
  have g4 : ((s : Int) == 4) = false := by simp; omega
  have g5 : ((s : Int) == 5) = false := by simp; omega
  have g6 : ((s : Int) == 6) = false := by simp; omega
  have g7 : ((s : Int) == 7) = false := by simp; omega
  have hw : IntKind.u64.wrap (p.n : Int) = (p.n : Int) := by simp only [IntKind.wrap_u64]; omega
  have h0 : Below w.heap.size w (w.alloc (.cells #[.int .i64 p.id, .int .u32 p.n, .string (bs p.text), .string (bs p.value)] 46)) := (Below.refl _ _).alloc (Nat.le_refl _) _
  have hS : PrS w w.heap.size p (w.alloc (.cells #[.int .i64 p.id, .int .u32 p.n, .string (bs p.text), .string (bs p.value)] 46)).drew := PrS.mk h0.drew (PropAt.made w p)
  clear FX PU hs hf hn h0
  unfold propV
  go_enter Tryz.func165, Tryz.ntmps165
  go_wp2_with fail
  go_region_held3 (fun w' => w'.cell? ⟨w.heap.size, 0, none⟩ = some (.int .i64 p.id) ∧ w'.cell? ⟨w.heap.size, 1, none⟩ = some (.int .u32 p.n) ∧ w'.cell? ⟨w.heap.size, 2, none⟩ = some (.string (bs p.text)) ∧ w'.cell? ⟨w.heap.size, 3, none⟩ = some (.string (bs p.value)) ∧ (Below w.heap.size w w' ∧ PropAt w' w.heap.size p)) (exact hS)
    (first
      | (go_at_call 204; with_reducible refine (FX1.out _).mono ?_; rintro e w1 ⟨rfl, rfl⟩)
      | (go_at_call 39; with_reducible refine (PU1.out _).mono ?_; rintro e w1 ⟨rfl, hb⟩; have hS := hS.call hb; clear hb))
  have hB := Lib.hid hS.2.2.2.2.1
  clear hS
  go_wp2_with fail
  go_ret
  exact ⟨rfl, hB.out⟩
end
theorem value_any {kind : Int} (p : Pr) (w : World) (ok : PrOk p) (h : checkP kind p = 0) : Calls Tryz.prog 165 #[.int .i64 (shapeP p.id : Nat), propV p] w fun e w' => e = .returned (.string (bs (valueP p))) ∧ Below w.heap.size w w' := by
  obtain ⟨hm, h4, h5⟩ := check_parts h
  obtain ⟨r1, r2, f1, f2, f3, f4, _⟩ := row_fits hm
  unfold valueP
  have : shapeP p.id = 1 ∨ shapeP p.id = 2 ∨ shapeP p.id = 3 ∨ shapeP p.id = 4 ∨ shapeP p.id = 5 ∨ shapeP p.id = 6 ∨ shapeP p.id = 7 := by omega
  rcases this with e | e | e | e | e | e | e
  · rw [e]; exact value_num p w 1 1 (by omega) ok.n
  · rw [e]; exact value_num p w 2 2 (by omega) ok.n
  · rw [e]; exact value_num p w 3 4 (by omega) ok.n
  · have := f4 e
    have := (h4 (by omega)).2.2.2
    rw [e]; exact value_var p w (by omega)
  · have l1 := ((validOf_iff _).1 ((h5 (by omega)).2.2.2 (by omega)).1).1
    rw [e]; exact value_text p w 5 (by omega) l1
  · have l1 := (h5 (by omega)).2.2.1 e
    rw [e]; exact value_text p w 6 (by omega) l1
  · have l1 := ((validOf_iff _).1 ((h5 (by omega)).2.2.2 (by omega)).1).1
    have l2 := ((validOf_iff _).1 ((h5 (by omega)).2.2.2 (by omega)).2).1
    rw [e]; exact value_pair p w l1 l2
end Go.Proofs.YtaahhbjnflimnaaGreat
