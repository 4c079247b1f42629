/-
  The contract of prop's tally: add. Condition: a kind, an id and lengths are ints.
-/
import Derived.Test.YtgdaojihpjfjiaaPropTally
namespace Go.Proofs.Ytgdaojihpjfjiaa
open Go.RowKit

theorem shl_one (i : Nat) (hi : i ≤ 42) : Op.shift .shl .u64 1 .i64 (i : Int) = pure (.int .u64 ((2 ^ i : Nat) : Int)) := by
  have : ∀ n : Nat, n ≤ 42 → Op.shift .shl .u64 1 .i64 (n : Int) = pure (.int .u64 ((2 ^ n : Nat) : Int)) := by
    intro n hn
    match n, hn with
    | 0, _ | 1, _ | 2, _ | 3, _ | 4, _ | 5, _ | 6, _ | 7, _ | 8, _ | 9, _ | 10, _ | 11, _ | 12, _ | 13, _ | 14, _ | 15, _ | 16, _ | 17, _ | 18, _ | 19, _ | 20, _ | 21, _ | 22, _ | 23, _ | 24, _ | 25, _ | 26, _ | 27, _ | 28, _ | 29, _ | 30, _ | 31, _ | 32, _ | 33, _ | 34, _ | 35, _ | 36, _ | 37, _ | 38, _ | 39, _ | 40, _ | 41, _ | 42, _ => rfl
    | n + 43, h => exact absurd h (by omega)
  exact this i hi

set_option maxHeartbeats 2000000 in
set_option maxRecDepth 100000 in
theorem add_any {w : World} {b mb : Nat} {kind : Int} {pre : List Pr} (p : Pr) (h : TalL w b mb kind pre) (hi : -9223372036854775808 ≤ kind) (hj : kind ≤ 9223372036854775807) (ok : PrOk p) :
    Calls Try.prog 47 #[.pointer (some ⟨b, 0, none⟩), propV p] w fun e w' => e = .returned (.int .i64 ((tallyP kind pre p : Nat) : Int)) ∧ w.grownBy w' (some b) ∧ (tallyP kind pre p = 0 → TalL w' b mb kind (pre ++ [p])) := by
  obtain ⟨seen, h1, h2⟩ := h
  have CK := fun W => check_any (shapeP p.id) (maskP p.id) (prow p.id).least kind p W (shape_lt _) (Nat.lt_trans (mask_lt _) (by decide)) hi hj ok
  rw [check_row kind p (fun hm => (row_fits hm).2.1)] at CK
  have hbw := h1.lt
  have hmw := h1.mlt
  have hB : Below w.heap.size w (w.alloc (.cells #[.int .i64 p.id, .int .u32 p.n, .string (bs p.text), .string (bs p.value)] 25)) := (Below.refl _ _).alloc (Nat.le_refl _) _
  have hS : AdS w b mb kind seen p (w.alloc (.cells #[.int .i64 p.id, .int .u32 p.n, .string (bs p.text), .string (bs p.value)] 25)).drew :=
    AdS.mk ok hB.drew (PropAt.made w p) ((h1.below hB hbw hmw).draws 1)
  obtain ⟨C, hC⟩ : ∃ C, checkP kind p = C := ⟨_, rfl⟩
  obtain ⟨s, hs⟩ : ∃ s, shapeP p.id = s := ⟨_, rfl⟩
  obtain ⟨k, hk⟩ : ∃ k, maskP p.id = k := ⟨_, rfl⟩
  obtain ⟨l, hl⟩ : ∃ l, (prow p.id).least = l := ⟨_, rfl⟩
  have AC := Lib.hid (fun W W' h hb => AdS.call (w := w) (W := W) (W' := W') (b := b) (mb := mb) (kind := kind) (seen := seen) (p := p) ok h hb)
  have LK := Lib.hid (fun W (h : AdS w b mb kind seen p W) => h.2.2.2.2.2.2.1)
  rw [hC, hs, hk, hl] at CK
  rw [hs, hk, hl] at LK
  have T0 : tallyP kind pre p = (if C ≠ 0 then C else if twiceP kind pre p.id then 9 else 0) := by unfold tallyP; rw [hC]
  generalize tallyP kind pre p = tp at *
  have T := Lib.hid T0
  clear T0
  have HC := Lib.hid hC
  have H2 := Lib.hid h2
  have OK := Lib.hid ok
  unfold propV ruleV at *
  have CK := Lib.hid CK
  clear hC hs hk hl h1 h2 ok hB
  go_enter Try.func47, Try.ntmps47
  go_wp2_with fail
  go_region_held3 (fun w' => w'.cell? ⟨w.heap.size, 0, none⟩ = some (.int .i64 p.id) ∧ w'.cell? ⟨w.heap.size, 1, none⟩ = some (.int .u32 p.n) ∧ w'.cell? ⟨w.heap.size, 2, none⟩ = some (.string (bs p.text)) ∧ w'.cell? ⟨w.heap.size, 3, none⟩ = some (.string (bs p.value)) ∧ w'.cell? ⟨b, 0, none⟩ = some (.int .i64 kind) ∧ w'.cell? ⟨b, 1, none⟩ = some (.map (some mb)) ∧
      (Instr.lookup 51 (.map (some mb)) (.int .i64 p.id) false).run Try.prog w' = .ok (.agg #[.int .i64 s, .int .u32 k, .int .u32 l]) w' ∧ (Below w.heap.size w w' ∧ PropAt w' w.heap.size p ∧ TalAt w' b mb kind seen))
    (exact ⟨hS.1, hS.2.1, hS.2.2.1, hS.2.2.2.1, hS.2.2.2.2.1, hS.2.2.2.2.2.1, LK.out _ hS, hS.2.2.2.2.2.2.2⟩)
    (first
      | (go_at_call 27; with_reducible refine (CK.out _).mono ?_; rintro e w1 ⟨rfl, hb⟩; have hS := AC.out _ _ hS hb; clear hb))
  rename_i hHeld
  clear hHeld CK AC LK
  by_cases hC : C = 0
  · subst hC
    have ck := HC.out
    obtain ⟨i, hp⟩ : ∃ i : Nat, p.id = (i : Int) := Int.eq_ofNat_of_zero_le (by have := may_range (check_parts ck).1; omega)
    have hi42 : i ≤ 42 := by have := may_range (check_parts ck).1; omega
    have hm := (check_parts ck).1
    have e1 : twiceP kind pre p.id = (hasP pre p.id && !repeatsP kind p.id) := by
      unfold twiceP manyP
      rw [hm, Bool.true_and]; rfl
    have t := T.out
    rw [if_neg (by simp), e1] at t
    have HA := fun n => tal_has (hS.2.2.2.2.2.2.2.2.2.draws n) i H2.out.1 (by omega)
    rw [H2.out.2 i hi42, ← hp] at HA
    have RE := fun W => repeats_any kind p.id W
    generalize repeatsP kind p.id = r at *
    generalize hasP pre p.id = a at *
    have HS := Lib.hid hS
    have c0 := hS.1
    have t0 := hS.2.2.2.2.1
    have SH : Op.shift .shl .u64 1 .i64 p.id = pure (.int .u64 ((2 ^ i : Nat) : Int)) := by rw [hp]; exact shl_one i hi42
    have SO := H2.out.snoc hp hi42
    have OR : bits BinOp.or IntKind.u64 (seen : Int) ((2 ^ i : Nat) : Int) = ((seen ||| 2 ^ i : Nat) : Int) := bits_or_u64_nat _ _ H2.out.1 (Nat.lt_of_le_of_lt (Nat.pow_le_pow_right (by decide) hi42) (by decide))
    generalize seen ||| 2 ^ i = seen2 at *
    generalize 2 ^ i = q at *
    have SO := Lib.hid SO
    have HI := Lib.hid hi42
    clear hi42
    clear hS T ck hm e1 hp
    have QA0 : ∀ n, Calls Try.prog 65 #[.pointer (some ⟨b, 0, none⟩), .int .i64 p.id] (w1.drewN n) fun e w' => e = .returned (.bool a) ∧ ∃ m, w' = w1.drewN m := fun n => (HA n).mono fun _ _ h => ⟨h.1, n, h.2.symm⟩
    have QR0 : ∀ n, Calls Try.prog 33 #[.int .i64 kind, .int .i64 p.id] (w1.drewN n) fun e w' => e = .returned (.bool r) ∧ ∃ m, w' = w1.drewN m := fun n => (RE _).mono fun _ _ h => ⟨h.1, n, h.2.symm⟩
    have QA := Lib.hid QA0
    have QR := Lib.hid QR0
    have HB := Lib.hid (fun n => below_draws HS.out.2.2.2.2.2.2.2.1 n)
    clear HA RE QA0 QR0
    cases a with
    | true =>
      cases r with
      | false =>
        rw [if_pos (by decide)] at t
        subst t
        go_wp2_with fail
        go_quiet (first | (go_at_call 65; exact QA.out _) | (go_at_call 33; exact QR.out _))
        go_wp2_with fail
        go_ret
        exact ⟨rfl, grown_of_below (HB.out _) _, fun h => by cases h⟩
      | true =>
        rw [if_neg (by decide)] at t
        subst t
        go_wp2_with fail
        go_quiet (first | (go_at_call 65; exact QA.out _) | (go_at_call 33; exact QR.out _))
        go_wp2_with fail
        have HW := Lib.hid (AdS.draws OK.out HS.out nq)
        generalize w1.drewN nq = W at *
        clear c0 t0 HS QA QR HB
        have c0 := HW.out.1
        have t2 := HW.out.2.2.2.2.2.2.2.2.2.c2
        have f2 := HW.out.2.2.2.2.2.2.2.2.2.fr 2
        go_region
        go_wp2_with fail
        go_ret
        exact ⟨rfl, (grown_then (grown_of_below HW.out.2.2.2.2.2.2.2.1 (some b)) (block_kept W b 2 _)).drew', ⟨seen2, (HW.out.2.2.2.2.2.2.2.2.2.see seen2).draws 1, SO.out⟩⟩
    | false =>
      rw [if_neg (by simp)] at t
      subst t
      go_wp2_with fail
      go_quiet (first | (go_at_call 65; exact QA.out _) | (go_at_call 33; exact QR.out _))
      go_wp2_with fail
      have HW := Lib.hid (AdS.draws OK.out HS.out nq)
      generalize w1.drewN nq = W at *
      clear c0 t0 HS QA QR HB
      have c0 := HW.out.1
      have t2 := HW.out.2.2.2.2.2.2.2.2.2.c2
      have f2 := HW.out.2.2.2.2.2.2.2.2.2.fr 2
      go_region
      go_wp2_with fail
      go_ret
      exact ⟨rfl, (grown_then (grown_of_below HW.out.2.2.2.2.2.2.2.1 (some b)) (block_kept W b 2 _)).drew', ⟨seen2, (HW.out.2.2.2.2.2.2.2.2.2.see seen2).draws 1, SO.out⟩⟩
  · have g1 : ((C : Int) == 0) = false := by simp; omega
    have g2 : ((C : Int) != 0) = true := by simp; omega
    have t := T.out
    rw [if_pos hC] at t
    subst t
    have hb := hS.2.2.2.2.2.2.2.1
    go_wp2_with fail
    go_ret
    exact ⟨rfl, grown_of_below hb _, fun h => absurd h hC⟩
end Go.Proofs.Ytgdaojihpjfjiaa
