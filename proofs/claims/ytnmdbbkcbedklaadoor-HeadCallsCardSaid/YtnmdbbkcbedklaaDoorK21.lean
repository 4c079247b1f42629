/-
  The contract of head.Bytes. No condition.
  The chapter's example of layer 7. No condition.
-/
import Derived.Test.YtnmdbbkcbedklaaDoorK11
import Derived.Test.YtnmdbbkcbedklaaDoorK20
import Derived.Test.YtnmdbbkcbedklaaDoorK13
import Derived.Test.YtnmdbbkcbedklaaDoorK17
namespace Go.Proofs.YtnmdbbkcbedklaaDoor
open Go.RowKit

theorem or_kind (x y : Nat) (hx : x < 16) (hy : y < 16) : bits .or .i64 ((x : Int) * 16) (y : Int) = ((16 * x + y : Nat) : Int) := by
  have all : ∀ x : Fin 16, ∀ y : Fin 16, bits .or .i64 ((x.val : Int) * 16) (y.val : Int) = ((16 * x.val + y.val : Nat) : Int) := by decide +kernel
  exact all ⟨x, hx⟩ ⟨y, hy⟩
theorem be_first (n : Nat) : be n (min (1 : Int) 16).toNat = [UInt8.ofNat n] := by
  show be n 1 = _
  simp [be]
/-- What head.Bytes returns. -/
def BytRet (v : Int) (h : Hd) (w : World) (e : Ending) (w' : World) : Prop := e = .returned (.tuple #[.string (bs (bytesH v h)), .int .i64 (checkH v h : Nat)]) ∧ Below w.heap.size w w'
set_option maxRecDepth 100000 in
theorem hd_bytes (v : Int) (h : Hd) (w : World) : Calls Tryd.prog 14 #[.int .i64 v, hdV h] w (BytRet v h w) := by
  have C := Lib.hid (check_any v h)
  have HB := Lib.hid (fun o => below_box (w := w) o)
  unfold BytRet bytesH
  by_cases hc : checkH v h = 0
  · rw [hc] at C
    rw [if_pos hc, hc]
    have hz := check_zero.1 hc
    have hk := kind_range hz.2.1
    have hf := flags_range hz.2.2.1
    obtain ⟨k, f, l⟩ := h
    obtain ⟨x, rfl⟩ : ∃ x : Nat, k = (x : Int) := ⟨k.toNat, by have : 1 ≤ k := hk.1; omega⟩
    obtain ⟨y, rfl⟩ : ∃ x : Nat, f = (x : Int) := ⟨f.toNat, by have : 0 ≤ f := hf.1; omega⟩
    obtain ⟨n, rfl⟩ : ∃ x : Nat, l = (x : Int) := ⟨l.toNat, by have : 0 ≤ l := hz.2.2.2.1; omega⟩
    have hx : x < 16 := by have : (x : Int) ≤ 15 := hk.2; omega
    have hy : y < 16 := by have : (y : Int) ≤ 15 := hf.2; omega
    have hn : n ≤ 268435455 := by have : (n : Int) ≤ 268435455 := hz.2.2.2.2; omega
    have hor := or_kind x y hx hy
    have hraw : bs [UInt8.ofNat (16 * x + y)] ++ bs (vb n (sz n)) = bs (rawH ⟨x, y, n⟩) := by
      rw [bs_two]
      unfold rawH firstH
      congr 2
    have hcat : ¬ 9223372036854775807 < (bs [UInt8.ofNat (16 * x + y)]).size + (bs (vb n (sz n))).size := by
      rw [bs_len, bs_len, vb_length]
      have := sz_cases n hn
      simp only [List.length_cons, List.length_nil]; omega
    have hx2 : (x : Int) ≤ 15 := by omega
    have P := Lib.hid (fun W => put_any (16 * x + y) 1 W (by omega))
    rw [be_first] at P
    have V := Lib.hid (fun W => bytes_some n W hn)
    have hz2 : ((16 * x + y : Nat) : Int) ≤ 255 := by omega
    generalize bs (rawH ⟨x, y, n⟩) = R at *
    generalize bs [UInt8.ofNat (16 * x + y)] = A at *
    generalize bs (vb n (sz n)) = B at *
    generalize 16 * x + y = z at *
    have HR := Lib.hid hraw
    clear hraw hz hk hf hn hy hx hc
    unfold hdV at *
    go_enter Tryd.func14, Tryd.ntmps14
    go_wp2_with fail
    refine (C.out _).mono ?_
    rintro e w' ⟨rfl, hb⟩
    have B2 := Lib.hid (below_then (HB.out _) hb)
    have h0 := hb.cell (p := ⟨w.heap.size, 0, none⟩) (by simp)
    have h1 := hb.cell (p := ⟨w.heap.size, 1, none⟩) (by simp)
    have h2 := hb.cell (p := ⟨w.heap.size, 2, none⟩) (by simp)
    rw [World.cell?_alloc_at _ _ _ _ rfl] at h0 h1 h2
    have HS := Lib.hid (show w.heap.size < w'.heap.size by have := hb.size; rw [World.size_alloc] at this; omega)
    clear hb
    go_wp2_with fail
    refine (V.out _).mono ?_
    rintro e w2 ⟨rfl, hb⟩
    have B3 := Lib.hid (below_then B2.out hb)
    replace h0 := (hb.cell (p := ⟨w.heap.size, 0, none⟩) HS.out).trans h0
    replace h1 := (hb.cell (p := ⟨w.heap.size, 1, none⟩) HS.out).trans h1
    clear hb h2
    go_wp2_with fail
    refine (P.out _).mono ?_
    rintro e w3 ⟨rfl, hb⟩
    have B4 := Lib.hid (below_then B3.out hb)
    clear hb h0 h1
    go_wp2_with fail
    go_ret2
    exact ⟨congrArg (fun b => Ending.returned (Value.tuple #[.string b, .int .i64 0])) HR.out, B4.out⟩
  · rw [if_neg hc]
    have hn : (((checkH v h : Nat) : Int) == 0) = false := by simp; omega
    generalize checkH v h = z at *
    clear hc
    unfold hdV at *
    go_enter Tryd.func14, Tryd.ntmps14
    go_wp2_with fail
    refine (C.out _).mono ?_
    rintro e w' ⟨rfl, hb⟩
    have B2 := Lib.hid (below_then (HB.out _) hb)
    clear hb
    go_wp2_with fail
    go_ret2
    exact ⟨rfl, B2.out⟩
end Go.Proofs.YtnmdbbkcbedklaaDoor
namespace Go.Proofs.YtnmdbbkcbedklaaDoor
open Go.RowKit

theorem lives_head (w : World) : Calls Tryd.prog 5 #[] w fun e w' => e = .returned (.bool true) ∧ Below w.heap.size w w' := by
  have BY := hd_bytes 4 ⟨3, 2, 200⟩
  unfold BytRet at BY
  rw [show bytesH 4 ⟨3, 2, 200⟩ = [50, 200, 1] by decide +kernel, show checkH 4 ⟨3, 2, 200⟩ = 0 by decide +kernel] at BY
  have BY := Lib.hid BY
  unfold hdV at BY
  have HQ := Lib.hid (show ((bs [50, 200, 1]).toList == [50, 200, 1]) = true by rw [bs_toList]; rfl)
  go_enter Tryd.func5, Tryd.ntmps5
  go_wp2_with fail
  refine (BY.out _).mono ?_
  rintro e w' ⟨rfl, hb⟩
  go_wp2_with fail
  go_ret
  exact ⟨congrArg (fun b => Ending.returned (Value.bool b)) HQ.out, hb⟩
end Go.Proofs.YtnmdbbkcbedklaaDoor
