/-
  The contracts of amqprim.Least, of its closure, and of slices.IndexFunc with it. Condition: a text is below 2^32 bytes, a number what its type holds.
-/
import Derived.Test.YtjbgnlnchchgcaaDoorAmFits
import Derived.Test.YtjbgnlnchchgcaaDoorAmLeast
namespace Go.Proofs.YtjbgnlnchchgcaaDoor
open Go.RowKit

theorem codeL_map (k : Int) : codeL tabS k = (codesA k).map (·.code) := by unfold codeL; rw [codes_same]
set_option maxRecDepth 100000 in
theorem clos_any (b : Nat) (c k : Int) (n : Nat) (s : ByteArray) (A : Option Addr) (m cp : Nat) (w : World) (hb : w.heap[b]? = some (.cells (vC k n s (.slice A m cp)) 26 (0, 0))) (hk : 1 ≤ k ∧ k ≤ 21) (hn : n < 18446744073709551616) (hs : s.size < 4294967296) :
    Calls Tryd.prog 48 #[.int .i64 c, .pointer (some ⟨b, 0, none⟩)] w fun e W => e = .returned (.bool (fitB c k n s.data.toList)) ∧ Below w.heap.size w W := by
  have F := fits_small c k n s A m cp w hk hn hs
  generalize fitB c k n s.data.toList = x at *
  replace F := Lib.hid F
  have c0 : w.cell? ⟨b, 0, none⟩ = some (.int .i64 k) := cell_of_row _ _ 0 _ _ _ hb
  have c1 : w.cell? ⟨b, 1, none⟩ = some (.int .u64 (n : Nat)) := cell_of_row _ _ 1 _ _ _ hb
  have c2 : w.cell? ⟨b, 2, none⟩ = some (.string s) := cell_of_row _ _ 2 _ _ _ hb
  have c3 : w.cell? ⟨b, 3, none⟩ = some (.slice A m cp) := cell_of_row _ _ 3 _ _ _ hb
  unfold vC at F
  clear hb hk hn hs
  go_in
  go_wp2_with (go_at_call 43; refine (F.out).mono ?_; rintro e W ⟨rfl, hb⟩)
  go_ret
  exact ⟨rfl, hb⟩
set_option maxRecDepth 100000 in
set_option maxHeartbeats 2000000 in
theorem idx_any (b g cp0 : Nat) (L : List Nat) (i : Nat) (k : Int) (n : Nat) (s : ByteArray) (A : Option Addr) (m cp : Nat) (w : World) (hb : w.heap[b]? = some (.cells (vC k n s (.slice A m cp)) 26 (0, 0))) (hk : 1 ≤ k ∧ k ≤ 21) (hn : n < 18446744073709551616) (hs : s.size < 4294967296)
    (hg : g < w.heap.size) (hc : ∀ (j x : Nat), L[j]? = some x → w.cell? ⟨g, j, none⟩ = some (.int .i64 (x : Int))) (hL : L.length ≤ 1000) (hi : ∃ x, L[i]? = some x ∧ fitB x k n s.data.toList = true) (hj : ∀ (j x : Nat), j < i → L[j]? = some x → fitB x k n s.data.toList = false) :
    Calls Tryd.prog 47 #[.slice (some ⟨g, 0, none⟩) L.length cp0, .func (.func 48) #[] #[.pointer (some ⟨b, 0, none⟩)]] w fun e W => e = .returned (.int .i64 (i : Nat)) ∧ Below w.heap.size w W := by
  have HC := Lib.hid hc
  have HI := Lib.hid hi
  have HJ := Lib.hid hj
  have CL := Lib.hid (fun c W (h : Below w.heap.size w W) => clos_any b c k n s A m cp W ((h.block _ (lt_of_block hb)).trans hb) hk hn hs)
  have hil : i < L.length := by obtain ⟨x, hx, -⟩ := hi; exact (List.getElem?_eq_some_iff.1 hx).1
  obtain ⟨N, hN⟩ : ∃ N, L.length = N := ⟨_, rfl⟩
  rw [hN] at hil hL ⊢
  have HN := Lib.hid hN
  have HG := Lib.hid hg
  have HIL := Lib.hid hil
  have n1 : (N : Int) ≤ 1000 := by omega
  clear hc hi hj hb hk hn hs hN hil hL hg
  go_in
  go_wp2_with fail
  go_loopg [8] (i + 1) (fun gk s8 wr => ∃ j : Nat, j ≤ i ∧ gk = i + 1 - j ∧ s8 = .int .i64 (j : Nat) ∧ Below w.heap.size w wr)
  case atStart => exact ⟨0, Nat.zero_le _, rfl, rfl, Below.refl _ _⟩
  case round =>
    obtain ⟨j, hj, rfl, rfl, hB⟩ := hrel
    have hjN : j < N := by have := HIL.out; omega
    obtain ⟨x, hx⟩ : ∃ x, L[j]? = some x := ⟨_, List.getElem?_eq_getElem (by rw [HN.out]; exact hjN)⟩
    have hcell : wr.cell? ⟨g, j, none⟩ = some (.int .i64 (x : Int)) := (hB.cell (p := ⟨g, j, none⟩) HG.out).trans (HC.out j x hx)
    have CX := CL.out x wr hB
    have j0 : (j : Int) < (N : Int) := by omega
    have HB := Lib.hid hB
    by_cases he : j = i
    · have hv : fitB x k n s.data.toList = true := by
        obtain ⟨y, hy, hf⟩ := HI.out
        rw [he] at hx
        rw [hx] at hy
        cases hy
        exact hf
      rw [hv] at CX
      replace CX := Lib.hid CX
      have HE := Lib.hid he
      clear hv hx hB hj he
      go_wp2_with (go_at_call 48; refine (CX.out).mono ?_; rintro e W ⟨rfl, hb⟩)
      go_ret
      exact ⟨by rw [HE.out]; rfl, HB.out.trans (hb.mono HB.out.size)⟩
    · have hv := HJ.out j x (by omega) hx
      rw [hv] at CX
      replace CX := Lib.hid CX
      have HL := Lib.hid (show j < i by omega)
      clear hv hx hB hj he
      go_wp2_with (go_at_call 48; refine (CX.out).mono ?_; rintro e W ⟨rfl, hb⟩)
      go_roundg (i + 1 - (j + 1))
      case measure => have := HL.out; omega
      case rel => exact ⟨j + 1, HL.out, rfl, by go_num, HB.out.trans (hb.mono HB.out.size)⟩
set_option maxRecDepth 100000 in
set_option maxHeartbeats 2000000 in
theorem least_any (k : Int) (n : Nat) (s : ByteArray) (A : Option Addr) (m cp : Nat) (w : World) (hn : n < 18446744073709551616) (hs : s.size < 4294967296) :
    Calls Tryd.prog 23 #[.agg (vC k n s (.slice A m cp))] w fun e W =>
      e = .returned (.tuple #[.int .i64 (leastV (svC k n s.data.toList m)).1, .int .i64 ((leastV (svC k n s.data.toList m)).2 : Nat)]) ∧ Below w.heap.size w W := by
  have CH := check_any k n s A m cp (w.alloc (.cells (vC k n s (.slice A m cp)) 26)) hn hs
  have HS := Lib.hid (VS.start w k n s (.slice A m cp))
  by_cases h : checkV (svC k n s.data.toList m) = 0
  · have hk := (check_v h).1
    obtain ⟨t, pre, post, e1, e2, e3, e4⟩ := least_some h
    rw [h] at CH
    have eL : codeL tabS k = pre.map (·.code) ++ t.code :: post.map (·.code) := by rw [codeL_map, show codesA k = pre ++ t :: post from e1]; simp
    have hfit : ∀ u ∈ codesA k, fitB u.code k n s.data.toList = fitsC u (svC k n s.data.toList m) := fun u hu => by
      obtain ⟨hu1, hu2⟩ := codes_mem.1 hu
      unfold fitB
      rw [mem_of hu1]
      simp only
      rw [show ((u.kind : Int) == k) = true by simpa using hu2, Bool.true_and]
      exact room_fits u hu1 (svC k n s.data.toList m) hu2 hn h
    have hi : ∃ x, (codeL tabS k)[pre.length]? = some x ∧ fitB x k n s.data.toList = true := ⟨t.code, by rw [eL]; simp, by rw [hfit t (by rw [show codesA k = pre ++ t :: post from e1]; simp)]; exact e3⟩
    have hj : ∀ (j x : Nat), j < pre.length → (codeL tabS k)[j]? = some x → fitB x k n s.data.toList = false := fun j x hj hx => by
      rw [eL, List.getElem?_append_left (by simpa using hj), List.getElem?_map, List.getElem?_eq_getElem hj] at hx
      simp only [Option.map_some, Option.some.injEq] at hx
      subst hx
      rw [hfit pre[j] (by rw [show codesA k = pre ++ t :: post from e1]; simp)]
      exact e4 _ (List.getElem_mem hj)
    have hlen : (codeL tabS k).length ≤ 1000 := by have := codeL_len k 40; rw [List.take_of_length_le (Nat.le_of_eq tabS_length)] at this; omega
    have hpl : pre.length < (codeL tabS k).length := by rw [eL]; simp
    have IX := fun b g cp0 W hb hg hc => idx_any b g cp0 (codeL tabS k) pre.length k n s A m cp W hb hk hn hs hg hc hlen hi hj
    have hget : (codeL tabS k)[pre.length]? = some t.code := by rw [eL]; simp
    have CD := Lib.hid (fun W => codes_any k W)
    rw [e2]
    generalize codeL tabS k = L at *
    generalize pre.length = i at *
    generalize t.code = tc at *
    obtain ⟨N, hN⟩ : ∃ N, L.length = N := ⟨_, rfl⟩
    rw [hN] at IX hpl hlen
    have i0 : (i : Int) < (N : Int) := by omega
    have HN := Lib.hid hN
    have HI := Lib.hid (show 0 < N by omega)
    replace hget := Lib.hid hget
    replace IX := Lib.hid IX
    replace CH := Lib.hid CH
    clear hn hs h hk eL hfit hi hj hlen hpl e1 e2 e3 e4 hN
    unfold vC at CH ⊢
    simp only
    go_in
    go_wp2_with fail
    refine (CH.out).mono ?_
    rintro e W ⟨rfl, hb⟩
    have HV := Lib.hid (HS.out.call hb)
    obtain ⟨c0, -⟩ := HV.out
    clear hb
    go_wp2_with fail
    refine (CD.out _).mono ?_
    rintro e W2 ⟨v, rfl, hv, hb⟩
    rcases hv with ⟨h0, -⟩ | ⟨g, cp0, rfl, hg, hc⟩
    · exfalso; have h1 := HN.out; have h2 := HI.out; rw [h0] at h1; simp at h1; omega
    have HV2 := Lib.hid (HV.out.call hb)
    have HC := Lib.hid hc
    have HG := Lib.hid hg
    rw [HN.out]
    clear hb hc hg c0
    go_wp2_with fail
    refine (IX.out w.heap.size g cp0 W2 HV2.out.2.2.2.2.2 HG.out HC.out).mono ?_
    rintro e W3 ⟨rfl, hb⟩
    have c9 : W3.cell? ⟨g, i, none⟩ = some (.int .i64 (tc : Int)) := (hb.cell (p := ⟨g, i, none⟩) HG.out).trans (HC.out i tc hget.out)
    have HV3 := Lib.hid (HV2.out.call hb)
    clear hb
    go_wp2_with fail
    go_ret2
    exact ⟨rfl, HV3.out.2.2.2.2.1⟩
  · rw [least_err h]
    obtain ⟨z, hz⟩ : ∃ z, checkV (svC k n s.data.toList m) = z := ⟨_, rfl⟩
    rw [hz] at CH h ⊢
    have h0 : ((z : Int) != 0) = true := by simp; omega
    replace CH := Lib.hid CH
    clear hn hs h hz
    unfold vC at *
    simp only
    go_in
    go_wp2_with fail
    refine (CH.out).mono ?_
    rintro e W ⟨rfl, hb⟩
    have HV := Lib.hid (HS.out.call hb)
    clear hb
    go_wp2_with fail
    go_ret2
    exact ⟨rfl, HV.out.2.2.2.2.1⟩
end Go.Proofs.YtjbgnlnchchgcaaDoor
