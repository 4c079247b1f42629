/-
  The contract of head.Copy: an equal packet whose lists lie in new memory. Condition: at most 70,000 elements a list, the lengths of the strings.
-/
import Derived.Test.YtnmdbbkcbedklaaDoorK18
import Derived.Test.YtnmdbbkcbedklaaDoorK48
namespace Go.Proofs.YtnmdbbkcbedklaaDoor
open Go.RowKit

/-- A packet's lists lie in rows that are owned: rows of their own above base. -/
structure PkOwn (W : World) (base : Nat) (p : Pk) (a : Ad) : Prop where
  w : W.ownsRow base 40 4 (.slice a.w p.wProps.length a.wc) p.wProps.length (pcs p.wProps)
  cs : W.ownsRow base 3 1 (.slice a.cs p.codes.length a.cc) p.codes.length (ics p.codes)
  fs : W.ownsRow base 76 5 (.slice a.fs p.filters.length a.fc) p.filters.length (fcs p.filters)
  ps : W.ownsRow base 40 4 (.slice a.ps p.props.length a.pc) p.props.length (pcs p.props)
theorem own_slice {W : World} {base n s : Nat} {t : TypeId} {v : Value} {cs : List Value} (h : W.ownsRow base t s v n cs) : ∃ A c, v = .slice A n c := by
  rcases h.2 with ⟨rfl, rfl⟩ | ⟨g, cap, cur, rfl, _⟩
  · exact ⟨none, 0, rfl⟩
  · exact ⟨_, cap, rfl⟩
theorem own_cl {W : World} {base n s c : Nat} {A : Option Addr} {t : TypeId} {cs : List Value} (h : W.ownsRow base t s (.slice A n c) n cs) (hn : cs.length = n * s) : CL W A cs := by
  obtain ⟨A', c', e, _, h1, _⟩ := CL.owned h hn
  simp only [Value.slice.injEq] at e
  obtain ⟨rfl, _, rfl⟩ := e
  exact h1
theorem PkOwn.at_ {W : World} {base : Nat} {p : Pk} {a : Ad} (h : PkOwn W base p a) : PkAt W p a :=
  ⟨(own_cl h.w (pcs_length _)).pl, own_cl h.cs (by rw [ics_length]), own_cl h.fs (by rw [fcs_length]), (own_cl h.ps (pcs_length _)).pl⟩
theorem PkOwn.below {W W' : World} {base : Nat} {p : Pk} {a : Ad} (h : PkOwn W base p a) (hb : Below W.heap.size W W') : PkOwn W' base p a := ⟨own_below h.w hb, own_below h.cs hb, own_below h.fs hb, own_below h.ps hb⟩
/-- A store into a block that is not the row's. -/
theorem own_other {W : World} {base n s B : Nat} {t : TypeId} {v : Value} {cs : List Value} (h : W.ownsRow base t s v n cs) (hB : B < base) (j : Nat) (u : Value) : (W.setCell ⟨B, j, none⟩ u).ownsRow base t s v n cs := by
  refine ⟨h.1, ?_⟩
  rcases h.2 with hn | ⟨g, cap, cur, rfl, hbg, hg, rest⟩
  · exact .inl hn
  · exact .inr ⟨g, cap, cur, rfl, hbg, (heap_setCell_other W ⟨B, j, none⟩ g u (by show g ≠ B; omega)).trans hg, rest⟩
theorem own_row {W : World} {base n s B : Nat} {t : TypeId} {v : Value} {cs : List Value} (h : W.ownsRow base t s v n cs) (hB : B < base) (xs : Array Value) : (W.setRow B xs).ownsRow base t s v n cs := by
  refine ⟨h.1, ?_⟩
  rcases h.2 with hn | ⟨g, cap, cur, rfl, hbg, hg, rest⟩
  · exact .inl hn
  · exact .inr ⟨g, cap, cur, rfl, hbg, (setRow_other W B g xs (by omega)).trans hg, rest⟩
theorem own_lower {w : World} {b b' n size : Nat} {t : TypeId} {v : Value} {xs : List Value} (h : w.ownsRow b t size v n xs) (hb : b' ≤ b) : w.ownsRow b' t size v n xs := by
  refine ⟨h.1, ?_⟩
  rcases h.2 with hn | ⟨g, cap, cur, rfl, hbg, rest⟩
  · exact .inl hn
  · exact .inr ⟨g, cap, cur, rfl, by omega, rest⟩
/-- The seven strings of a packet that lies in a block. -/
def sevenAt (B : Nat) : List (Nat × Nat) := [(B, 5), (B, 6), (B, 9), (B, 11), (B, 13), (B, 15), (B, 16)]
theorem ptrs_seven {W : World} {B : Nat} {p : Pk} {a : Ad} {t u : TypeId} (h : W.heap[B]? = some (.cells (pkC p a) u (0, 0))) (hm : ∀ x ∈ p.texts, x.length ≤ 140737488351232) :
    PtrsAt (W.alloc (.cells #[.pointer (some ⟨B, 5, none⟩), .pointer (some ⟨B, 6, none⟩), .pointer (some ⟨B, 9, none⟩), .pointer (some ⟨B, 11, none⟩), .pointer (some ⟨B, 13, none⟩), .pointer (some ⟨B, 15, none⟩), .pointer (some ⟨B, 16, none⟩)] t)) W.heap.size (sevenAt B) := fun j q hj => by
  have key : ∀ (i : Nat) (x : List UInt8), (pkC p a)[i]? = some (.string (bs x)) → x ∈ p.texts → ∃ s, StrAt (W.alloc (.cells #[.pointer (some ⟨B, 5, none⟩), .pointer (some ⟨B, 6, none⟩), .pointer (some ⟨B, 9, none⟩), .pointer (some ⟨B, 11, none⟩), .pointer (some ⟨B, 13, none⟩), .pointer (some ⟨B, 15, none⟩), .pointer (some ⟨B, 16, none⟩)] t)) B i s := fun i x hx hin =>
    ⟨bs x, (⟨⟨pkC p a, u, h, hx⟩, by rw [bs_len]; have := hm x hin; omega⟩ : StrAt W B i (bs x)).below (below_box _)⟩
  unfold sevenAt at hj
  match j, hj with
  | 0, hj => simp at hj; subst hj; exact ⟨World.cell?_alloc_at _ _ _ _ rfl, key 5 p.topic rfl (by simp [Pk.texts])⟩
  | 1, hj => simp at hj; subst hj; exact ⟨World.cell?_alloc_at _ _ _ _ rfl, key 6 p.payload rfl (by simp [Pk.texts])⟩
  | 2, hj => simp at hj; subst hj; exact ⟨World.cell?_alloc_at _ _ _ _ rfl, key 9 p.client rfl (by simp [Pk.texts])⟩
  | 3, hj => simp at hj; subst hj; exact ⟨World.cell?_alloc_at _ _ _ _ rfl, key 11 p.user rfl (by simp [Pk.texts])⟩
  | 4, hj => simp at hj; subst hj; exact ⟨World.cell?_alloc_at _ _ _ _ rfl, key 13 p.pass rfl (by simp [Pk.texts])⟩
  | 5, hj => simp at hj; subst hj; exact ⟨World.cell?_alloc_at _ _ _ _ rfl, key 15 p.wTopic rfl (by simp [Pk.texts])⟩
  | 6, hj => simp at hj; subst hj; exact ⟨World.cell?_alloc_at _ _ _ _ rfl, key 16 p.wPayload rfl (by simp [Pk.texts])⟩
  | j + 7, hj => simp at hj
/-- What head.Copy hands back. -/
def CopyRet (p : Pk) (w : World) (e : Ending) (w' : World) : Prop := ∃ a', e = .returned (pkV p a') ∧ PkOwn w' w.heap.size p a' ∧ Below w.heap.size w w'
/-- While the lists are copied: the packet lies in block B with addresses a. -/
structure CpS (w : World) (p : Pk) (a : Ad) (W : World) : Prop where
  low : Below w.heap.size w W
  box : W.heap[w.heap.size]? = some (.cells (pkC p a) 35 (0, 0))
  res : W.heap[w.heap.size + 1]? = some (.cells pkZ 35 (0, 0))
theorem CpS.call {w W W' : World} {p : Pk} {a : Ad} (h : CpS w p a W) (hb : Below W.heap.size W W') : CpS w p a W' :=
  ⟨below_then h.low hb, (hb.block _ (lt_of_block h.box)).trans h.box, (hb.block _ (lt_of_block h.res)).trans h.res⟩
theorem CpS.cell {w W : World} {p : Pk} {a : Ad} (h : CpS w p a W) (j : Nat) : W.cell? ⟨w.heap.size, j, none⟩ = (pkC p a)[j]? := cell_of_row _ _ j _ _ _ h.box
theorem CpS.fr {w W : World} {p : Pk} {a : Ad} (h : CpS w p a W) (j : Nat) : W.frozen? ⟨w.heap.size, j, none⟩ = false := frozen_of_row _ _ _ _ _ h.box
theorem CpS.put {w W : World} {p : Pk} {a a' : Ad} (h : CpS w p a W) (j : Nat) (u : Value) (he : (pkC p a).setIfInBounds j u = pkC p a') : CpS w p a' (W.setCell ⟨w.heap.size, j, none⟩ u) :=
  ⟨h.low.setCell (Nat.le_refl _) u, by have := setCell_block h.box j u; rw [he] at this; exact this, (heap_setCell_other W ⟨w.heap.size, j, none⟩ _ u (by show w.heap.size + 1 ≠ w.heap.size; omega)).trans h.res⟩
set_option maxHeartbeats 2000000 in
set_option maxRecDepth 100000 in
theorem hd_copy (p : Pk) (a : Ad) (w : World) (hp : PkAt w p a) (ok : PkOk p) (h1 : p.codes.length ≤ 70000) (h2 : p.filters.length ≤ 70000) (h3 : p.props.length ≤ 70000) (h4 : p.wProps.length ≤ 70000) :
    Calls Tryd.prog 9 #[pkV p a] w (CopyRet p w) := by
  have hzv := zero_pk
  have S0 : CpS w p a ((w.alloc (.cells (pkC p a) 35)).alloc (.cells pkZ 35)) := ⟨below_then (below_box _) (below_box _), heap_alloc2_old _ _ _, heap_alloc2_new _ _ _⟩
  have HS0 := Lib.hid S0
  have RN := renew_any _ 7 (sevenAt w.heap.size) _ (by simp only [World.size_alloc]; omega) (ptrs_seven (t := 62) S0.box ok.texts) rfl (by decide)
  simp only [World.size_alloc] at RN
  have RN := Lib.hid RN
  have hne : ¬ pkZ = #[] := by intro h; have := pkZ_size; rw [h] at this; cases this
  have HZ := Lib.hid pkZ_size
  have HP := Lib.hid hp
  unfold pkV
  clear S0
  go_enter Tryd.func9, Tryd.ntmps9
  go_wp2_with fail
  refine (RN.out).mono ?_
  rintro e W1 ⟨rfl, hb⟩
  have S1 := Lib.hid (HS0.out.call ((below_box _).trans (hb.mono (by simp only [World.size_alloc]; omega))))
  clear hb
  have c19 : W1.cell? ⟨w.heap.size, 19, none⟩ = some (.slice a.w p.wProps.length a.wc) := S1.out.cell 19
  go_wp2_with fail
  refine (copy_props a.w _ a.wc p.wProps W1 (HP.out.w.below S1.out.low) rfl h4 (fun x hx => (ok.wps x hx).2)).mono ?_
  rintro e W2 ⟨v, rfl, hown, hb⟩
  obtain ⟨A1, x1, rfl⟩ := own_slice hown
  have B2 := Lib.hid S1.out.low.size
  have S2 := Lib.hid (S1.out.call hb)
  have L1 := lt_of_block S1.out.res
  have O1 := Lib.hid (own_lower (b' := w.heap.size + 2) hown (by omega))
  clear hb hown c19 L1
  have S3 := Lib.hid (S2.out.put (a' := { a with w := A1, wc := x1 }) 19 (.slice A1 p.wProps.length x1) rfl)
  have O1' := Lib.hid (own_other (B := w.heap.size) (base := w.heap.size + 2) O1.out (by omega) 19 (.slice A1 p.wProps.length x1))
  have f19 := S2.out.fr 19
  have c22 : W2.cell? ⟨w.heap.size, 22, none⟩ = some (.slice a.cs p.codes.length a.cc) := S2.out.cell 22
  have c19 : W2.cell? ⟨w.heap.size, 19, none⟩ = some (.slice a.w p.wProps.length a.wc) := S2.out.cell 19
  go_wp2_with fail
  clear f19 c22 c19
  refine (fresh_int a.cs _ a.cc (ics p.codes) _ (HP.out.cs.below S3.out.low) (by rw [ics_length]) (ics_one _) h1).mono ?_
  rintro e W4 ⟨v, rfl, hown, hb⟩
  obtain ⟨A2, x2, rfl⟩ := own_slice hown
  have S4 := Lib.hid (S3.out.call hb)
  have L1 := lt_of_block S3.out.res
  have O2 := Lib.hid (own_lower (b' := w.heap.size + 2) hown (by omega))
  have O1 := Lib.hid (own_below O1'.out hb)
  clear hb hown L1 O1' S2 S3
  have S5 := Lib.hid (S4.out.put (a' := { a with w := A1, wc := x1, cs := A2, cc := x2 }) 22 (.slice A2 p.codes.length x2) rfl)
  have O1' := Lib.hid (own_other (B := w.heap.size) (base := w.heap.size + 2) O1.out (by omega) 22 (.slice A2 p.codes.length x2))
  have O2' := Lib.hid (own_other (B := w.heap.size) (base := w.heap.size + 2) O2.out (by omega) 22 (.slice A2 p.codes.length x2))
  have f22 := S4.out.fr 22
  have c23 : W4.cell? ⟨w.heap.size, 23, none⟩ = some (.slice a.fs p.filters.length a.fc) := S4.out.cell 23
  have c22 : W4.cell? ⟨w.heap.size, 22, none⟩ = some (.slice a.cs p.codes.length a.cc) := S4.out.cell 22
  go_wp2_with fail
  clear f22 c22 c23
  refine (copy_fis a.fs _ a.fc p.filters _ (HP.out.fs.below S5.out.low) rfl h2 ok.fis).mono ?_
  rintro e W6 ⟨v, rfl, hown, hb⟩
  obtain ⟨A3, x3, rfl⟩ := own_slice hown
  have S6 := Lib.hid (S5.out.call hb)
  have L1 := lt_of_block S5.out.res
  have O3 := Lib.hid (own_lower (b' := w.heap.size + 2) hown (by omega))
  have O1 := Lib.hid (own_below O1'.out hb)
  have O2 := Lib.hid (own_below O2'.out hb)
  clear hb hown L1 O1' O2' S4 S5
  have S7 := Lib.hid (S6.out.put (a' := { a with w := A1, wc := x1, cs := A2, cc := x2, fs := A3, fc := x3 }) 23 (.slice A3 p.filters.length x3) rfl)
  have O1' := Lib.hid (own_other (B := w.heap.size) (base := w.heap.size + 2) O1.out (by omega) 23 (.slice A3 p.filters.length x3))
  have O2' := Lib.hid (own_other (B := w.heap.size) (base := w.heap.size + 2) O2.out (by omega) 23 (.slice A3 p.filters.length x3))
  have O3' := Lib.hid (own_other (B := w.heap.size) (base := w.heap.size + 2) O3.out (by omega) 23 (.slice A3 p.filters.length x3))
  have f23 := S6.out.fr 23
  have c24 : W6.cell? ⟨w.heap.size, 24, none⟩ = some (.slice a.ps p.props.length a.pc) := S6.out.cell 24
  have c23 : W6.cell? ⟨w.heap.size, 23, none⟩ = some (.slice a.fs p.filters.length a.fc) := S6.out.cell 23
  go_wp2_with fail
  clear f23 c23 c24
  refine (copy_props a.ps _ a.pc p.props _ (HP.out.ps.below S7.out.low) rfl h3 (fun x hx => (ok.pps x hx).2)).mono ?_
  rintro e W8 ⟨v, rfl, hown, hb⟩
  obtain ⟨A4, x4, rfl⟩ := own_slice hown
  have S8 := Lib.hid (S7.out.call hb)
  have L1 := lt_of_block S7.out.res
  have O4 := Lib.hid (own_lower (b' := w.heap.size + 2) hown (by omega))
  have O1 := Lib.hid (own_below O1'.out hb)
  have O2 := Lib.hid (own_below O2'.out hb)
  have O3 := Lib.hid (own_below O3'.out hb)
  clear hb hown L1 O1' O2' O3' S6 S7
  have S9 := Lib.hid (S8.out.put (a' := ⟨A1, x1, A2, x2, A3, x3, A4, x4⟩) 24 (.slice A4 p.props.length x4) rfl)
  have O1' := Lib.hid (own_other (B := w.heap.size) (base := w.heap.size + 2) O1.out (by omega) 24 (.slice A4 p.props.length x4))
  have O2' := Lib.hid (own_other (B := w.heap.size) (base := w.heap.size + 2) O2.out (by omega) 24 (.slice A4 p.props.length x4))
  have O3' := Lib.hid (own_other (B := w.heap.size) (base := w.heap.size + 2) O3.out (by omega) 24 (.slice A4 p.props.length x4))
  have O4' := Lib.hid (own_other (B := w.heap.size) (base := w.heap.size + 2) O4.out (by omega) 24 (.slice A4 p.props.length x4))
  have f24 := S8.out.fr 24
  have c24 : W8.cell? ⟨w.heap.size, 24, none⟩ = some (.slice a.ps p.props.length a.pc) := S8.out.cell 24
  have hD1 := pkC_size p ⟨A1, x1, A2, x2, A3, x3, A4, x4⟩
  have hD2 := pkC_one p ⟨A1, x1, A2, x2, A3, x3, A4, x4⟩
  have GB := S9.out.box
  have GR := S9.out.res
  have LO := Lib.hid S9.out.low
  obtain ⟨D, hD⟩ : ∃ D, pkC p ⟨A1, x1, A2, x2, A3, x3, A4, x4⟩ = D := ⟨_, rfl⟩
  rw [hD] at hD1 hD2 GB
  have HD := Lib.hid hD
  have HD1 := Lib.hid hD1
  have HD2 := Lib.hid hD2
  have GB := Lib.hid GB
  have GR := Lib.hid GR
  clear hD hD1 hD2 S9
  go_wp2_with (first
    | (refine wpList_load_row rfl _ _ rfl w.heap.size rfl 35 D (0, 0) _ GB.out Tryd.underlying35 rfl ?d1 ?_)
    | (refine wpList_store_row rfl _ _ _ rfl (w.heap.size + 1) D rfl rfl 35 _ GR.out ?d2 ?d3 ?d4 ?_))
  case d1 => rw [HD1.out]; exact info_pk
  case d2 => rw [HD1.out]; exact info_pk
  case d3 => rw [HZ.out, HD1.out]
  case d4 => exact HD2.out
  refine ret_row (cs := D) rfl rfl rfl Tryd.underlying35 rfl (by rw [HD1.out]; exact info_pk) (setRow_heap _ _ _ _ _ _ GR.out) ?_
  refine ⟨⟨A1, x1, A2, x2, A3, x3, A4, x4⟩, by unfold pkV; rw [HD.out], ?_, belowRow LO.out (by omega) _⟩
  exact ⟨own_lower (own_row (B := w.heap.size + 1) (base := w.heap.size + 2) O1'.out (by omega) _) (by omega), own_lower (own_row (B := w.heap.size + 1) (base := w.heap.size + 2) O2'.out (by omega) _) (by omega), own_lower (own_row (B := w.heap.size + 1) (base := w.heap.size + 2) O3'.out (by omega) _) (by omega), own_lower (own_row (B := w.heap.size + 1) (base := w.heap.size + 2) O4'.out (by omega) _) (by omega)⟩
end Go.Proofs.YtnmdbbkcbedklaaDoor
