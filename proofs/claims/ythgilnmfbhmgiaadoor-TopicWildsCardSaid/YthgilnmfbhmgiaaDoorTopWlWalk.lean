/-
  The walk of polyglotlaw04.TopicWilds: whatever the name, the index and the other level, it answers true. No condition.
-/
import Derived.Maps.AppendAt
import Derived.Test.YthgilnmfbhmgiaaDoorTopLive
import Derived.Test.YthgilnmfbhmgiaaDoorTopOwn
import Derived.Test.YthgilnmfbhmgiaaDoorPick
namespace Go.Proofs.YthgilnmfbhmgiaaDoor
open Go.RowKit Go.Shelf

set_option maxHeartbeats 1000000 in
theorem wilds_out (s o : ByteArray) (at' : Int) (w : World) (hs : s.size ≤ 9223372036854775807) (h : 200 < s.size ∨ 40 < o.size ∨ nameL s.data.toList = false) :
    Calls Tryd.prog 5 #[.string s, .int .i64 at', .string o] w fun e w' => e = .returned (.bool true) ∧ Below w.heap.size w w' := by
  have L4 := Lib.hid lives4
  by_cases h1 : 200 < s.size
  · have g1 : (200 : Int) < (s.size : Int) := by omega
    clear h h1 hs
    go_enter Tryd.func5, Tryd.ntmps5
    go_wp2_with fail
    refine (L4.out _).mono ?_
    rintro e v1 ⟨rfl, b1⟩
    go_wp2_with fail
    go_ret
    exact ⟨rfl, b1⟩
  · have g1 : (s.size : Int) ≤ 200 := by omega
    by_cases h2 : 40 < o.size
    · have g2 : (40 : Int) < (o.size : Int) := by omega
      clear h h1 h2 hs
      go_enter Tryd.func5, Tryd.ntmps5
      go_wp2_with fail
      refine (L4.out _).mono ?_
      rintro e v1 ⟨rfl, b1⟩
      go_wp2_with fail
      go_ret
      exact ⟨rfl, b1⟩
    · have g2 : (o.size : Int) ≤ 40 := by omega
      have hn : nameL s.data.toList = false := (h.resolve_left h1).resolve_left h2
      have hN := fun W => name_any s W hs
      rw [hn] at hN
      have hN := Lib.hid hN
      clear h h1 h2 hs hn
      go_enter Tryd.func5, Tryd.ntmps5
      go_wp2_with fail
      refine (L4.out _).mono ?_
      rintro e v1 ⟨rfl, b1⟩
      have B1 := Lib.hid b1
      clear b1
      go_wp2_with fail
      refine (hN.out _).mono ?_
      rintro e v2 ⟨rfl, b2⟩
      have B2 := Lib.hid (B1.out.trans (b2.mono B1.out.size))
      clear b2
      go_wp2_with fail
      go_ret
      exact ⟨rfl, B2.out⟩

/-- What the law's calls answer, at rows that lie there. -/
theorem join_kr {w W : World} {B g n c : Nat} {rs : List (Nat × List (List UInt8))} {ls : List (List UInt8)} (h : KR w W B rs) (hr : (g, ls) ∈ rs) (hn : n = ls.length) (hc : n ≤ c) (hl : (joins ls).length ≤ 1000) (hN : n ≤ 1000) :
    Calls Tryd.prog 15 #[.slice (some ⟨g, 0, none⟩) n c] W fun e w' => e = .returned (.string (bs (joins ls))) ∧ KR w w' B rs :=
  (join_any _ n c ls W (h.sr hr) hn hc (by omega) (by omega)).mono fun _ _ ⟨he, hb⟩ => ⟨he, h.call hb⟩

/-- Behind an append to a row of the call's own. -/
theorem app_step {w W3 W4 : World} {B base m : Nat} {v v' : Value} {o : Obj} {rs : List (Nat × List (List UInt8))} {ls row : List (List UInt8)} {x : Value} (hK : KR w W3 B rs) (hB : ∀ b, v.ownBlock = some b → B ≤ b) (hg : (W3.alloc o).grownBy W4 v.ownBlock)
    (hown : W4.ownsRow base 9 1 v' (m + 1) (strs ls ++ [x])) (hr : strs ls ++ [x] = strs row) : ∃ g c, v' = .slice (some ⟨g, 0, none⟩) (m + 1) c ∧ m + 1 ≤ c ∧ KR w W4 W4.heap.size ((g, row) :: rs) := by
  rw [hr] at hown
  obtain ⟨g, c, rfl, hc, _, hg2, _⟩ := own_block hown (by omega)
  exact ⟨g, c, rfl, hc, ((hK.alloc o).grown hg hB).add hg2 (own_cells hown)⟩
set_option maxRecDepth 100000 in
set_option maxHeartbeats 40000000 in
theorem wilds_in (s o : ByteArray) (at' : Int) (w : World) (hs : s.size ≤ 200) (ho : o.size ≤ 40) (hn : nameL s.data.toList = true) :
    Calls Tryd.prog 5 #[.string s, .int .i64 at', .string o] w fun e w' => e = .returned (.bool true) ∧ Below w.heap.size w w' := by
  have L4 := Lib.hid lives4
  have g1 : (s.size : Int) ≤ 200 := by omega
  have g2 : (o.size : Int) ≤ 40 := by omega
  obtain ⟨i0, hi, hz0, hz1, hz2⟩ := info_parts infoS
  have hN := fun W => name_any s W (by omega)
  rw [hn] at hN
  have hN := Lib.hid hN
  have hL := fun W => levels_any s W (by omega)
  have hsl : s.data.toList.length ≤ 200 := by rw [← Lib.size_eq]; exact hs
  have hol : o.data.toList.length ≤ 40 := by rw [← Lib.size_eq]; exact ho
  have htl := name_tl hsl
  obtain ⟨L, hLd⟩ : ∃ L, lvls s.data.toList = L := ⟨_, rfl⟩
  have hne : L ≠ [] := by rw [← hLd]; exact lvls_ne _
  obtain ⟨n, hnl⟩ : ∃ n, L.length = n := ⟨_, rfl⟩
  have hn1 : 1 ≤ n := by rw [← hnl]; exact List.length_pos_iff.2 hne
  have hn2 : n ≤ 201 := by rw [← hnl, ← hLd]; have := lvls_le s.data.toList; omega
  obtain ⟨k, hk⟩ : ∃ k : Nat, at' % (n : Int) = (k : Int) := ⟨(at' % (n : Int)).toNat, by have := Int.emod_nonneg at' (show (n : Int) ≠ 0 by omega); omega⟩
  have hkn : k < n := by have := Int.emod_lt_of_pos at' (show (0 : Int) < (n : Int) by omega); omega
  have hkl : k < (lvls s.data.toList).length := by rw [hLd, hnl]; exact hkn
  -- what the filters match
  have M1 := wilds_plus hn hsl hkl
  have M2 := wilds_hash hn hsl hkl
  have M3 := wilds_parent hn hsl
  have M4 := fun h0 h1 h2 hl => wilds_other (s := s.data.toList) (x := o.data.toList) (k := k) hn hkl h0 h1 h2 hl
  rw [hLd] at M1 M2 M3 M4 htl
  rw [hnl] at M4
  have z1 := tl_set [43] L k
  have z2 := tl_take [35] L k
  have z3 := tl_take [35] L L.length
  rw [List.take_length] at z3
  have z4 := tl_set o.data.toList L k
  have y1 := joins_tl (L.set k [43]) (by intro e; have := congrArg List.length e; rw [List.length_set, List.length_nil] at this; omega)
  have y2 := joins_tl (L.take k ++ [[35]]) (by simp)
  have y3 := joins_tl (L ++ [[35]]) (by simp)
  have y4 := joins_tl (L.set k o.data.toList) (by intro e; have := congrArg List.length e; rw [List.length_set, List.length_nil] at this; omega)
  have e43 : ([43] : List UInt8).length = 1 := rfl
  have e35 : ([35] : List UInt8).length = 1 := rfl
  have JL := Lib.hid (show (joins (L.set k [43])).length ≤ 300 ∧ (joins (L.take k ++ [[35]])).length ≤ 300 ∧ (joins (L ++ [[35]])).length ≤ 300 ∧ (joins (L.set k o.data.toList)).length ≤ 300 ∧ (L.set k [43]).length = n ∧ (L.take k ++ [[35]]).length = k + 1 ∧ (L ++ [[35]]).length = n + 1 ∧ (L.set k o.data.toList).length = n from
    ⟨by omega, by omega, by omega, by omega, by rw [List.length_set, hnl], by rw [List.length_append, List.length_take, hnl]; simp; omega, by rw [List.length_append, hnl]; rfl, by rw [List.length_set, hnl]⟩)
  clear z1 z2 z3 z4 y1 y2 y3 y4 e43 e35 htl
  have HM1 := fun W => matches_at (joins (L.set k [43])) s.data.toList _ W (by have := JL.out; omega) (by omega) M1
  have HM2 := fun W => matches_at (joins (L.take k ++ [[35]])) s.data.toList _ W (by have := JL.out; omega) (by omega) M2
  have HM3 := fun W => matches_at (joins (L ++ [[35]])) s.data.toList _ W (by have := JL.out; omega) (by omega) M3
  have HM4 := fun W => matches_any (bs (joins (L.set k o.data.toList))) s W (by rw [bs_size]; have := JL.out; omega) (by omega)
  rw [bs_mk] at HM1 HM2 HM3
  rw [bs_data] at HM4
  have HF := fun W => filter_any (bs (joins (L.set k o.data.toList))) W (by rw [bs_size]; have := JL.out; omega)
  rw [bs_data] at HF
  have HLv := fun W => levels_any (bs (joins (L.set k o.data.toList))) W (by rw [bs_size]; have := JL.out; omega)
  rw [bs_data] at HLv
  have HD := fun W => dollar_any s W
  generalize dollarL s.data.toList = d at *
  have hlle := lvls_le (joins (L.set k o.data.toList))
  obtain ⟨ln, hln⟩ : ∃ ln, (lvls (joins (L.set k o.data.toList))).length = ln := ⟨_, rfl⟩
  rw [hln] at M4 HLv hlle
  have g5 : (ln : Int) ≤ 301 := by have := JL.out; omega
  have HM3 := Lib.hid HM3
  have HLv := Lib.hid HLv
  have HD := Lib.hid HD
  generalize hfl : filterL (joins (L.set k o.data.toList)) = bf at *
  generalize hm4 : matchL (joins (L.set k o.data.toList)) s.data.toList = bm at *
  have HF := Lib.hid HF
  have HM4 := Lib.hid HM4
  have M4 := Lib.hid M4
  have Q0 := Lib.hid (fun x => str_eq o.data.toList x)
  have hP := fun W => pick_any at' n W (by omega) (by omega)
  rw [hk] at hP
  have hP := Lib.hid hP
  rw [hLd, hnl] at hL
  have hL := Lib.hid hL
  have g3 : (k : Int) < (n : Int) := by omega
  have g4 : (n : Int) ≤ 201 := by omega
  have GN := Lib.hid (show n = L.length ∧ k < n ∧ n ≤ 201 from ⟨hnl.symm, hkn, hn2⟩)
  clear hk hkn hn1 hn2 hnl M1 M2 M3 hkl hln hlle hfl hm4 hne hLd hsl hol hs ho hn
  go_enter Tryd.func5, Tryd.ntmps5
  go_wp2_with fail
  refine (L4.out _).mono ?_
  rintro e v1 ⟨rfl, b1⟩
  have B1 := Lib.hid b1
  clear b1
  go_wp2_with fail
  refine (hN.out _).mono ?_
  rintro e v2 ⟨rfl, b2⟩
  have B2 := Lib.hid (B1.out.trans (b2.mono B1.out.size))
  clear b2
  go_wp2_with fail
  refine (hL.out _).mono ?_
  rintro e v3 ⟨rfl, rfl⟩
  have K0 : KR w (v2.alloc (.cells (strs L).toArray 9)) (v2.alloc (.cells (strs L).toArray 9)).heap.size [(v2.heap.size, L)] :=
    KR.add (B := v2.heap.size) (rs := []) ⟨B2.out.alloc B2.out.size _, B2.out.size, by simp, fun r hr => by simp at hr⟩ (by simp) (fun j hj => by rw [World.cell?_alloc_at _ _ _ _ rfl]; exact strs_get L j hj)
  generalize v2.alloc (.cells (strs L).toArray 9) = W0 at *
  obtain ⟨b0, hb0⟩ : ∃ b0, v2.heap.size = b0 := ⟨_, rfl⟩
  rw [hb0] at K0 ⊢
  have K0 := Lib.hid K0
  clear hb0
  go_wp2_with fail
  refine (hP.out _).mono ?_
  rintro e v4 ⟨rfl, rfl⟩
  go_wp2_with fail
  refine (own_any b0 0 n n L W0 (fun j hj => by rw [Nat.zero_add]; exact (K0.out.2.2.2 (b0, L) (by simp)).2 j hj) GN.out.1 (by have := GN.out; omega)).mono ?_
  rintro e W1 ⟨v, rfl, hown, hb⟩
  obtain ⟨gp, cp, rfl, hcp, hgp1, hgp2, cur, hcur, hcs⟩ := own_block hown (by have := GN.out; omega)
  have hcell : W1.cell? ⟨gp, k, none⟩ = some (.string (bs (L.getD k []))) := own_cells hown k (show k < L.length by have := GN.out; omega)
  have hfz : W1.frozen? ⟨gp, k, none⟩ = false := by simp [World.frozen?, hcur]
  have KS : KR w (W1.setCell ⟨gp, k, none⟩ (.string ⟨#[43]⟩)) W1.heap.size ((gp, L.set k [43]) :: [(b0, L)]) := by
    have h1 := ((((K0.out.call hb).same (Below.refl _ _)).set (g := gp) (Nat.le_trans K0.out.2.2.1 hgp1) k (.string ⟨#[43]⟩)).add (g := gp) (ls := L.set k [43]) (by simp [World.setCell]; exact hgp2) (cells_set (own_cells hown) (show k < L.length by have := GN.out; omega) _))
    simpa [World.setCell] using h1
  have KS := Lib.hid KS
  have HCcp := Lib.hid hcp
  have g3' : (n : Int) ≤ (cp : Int) := by omega
  clear hcur hcs hown hb hcp hgp1 hgp2
  go_wp2_with fail
  have KS' := KS.out
  clear KS hcell hfz g3'
  generalize W1.setCell ⟨gp, k, none⟩ (.string ⟨#[43]⟩) = W2 at *
  generalize W1.heap.size = B3 at *
  have K2 := Lib.hid KS'
  clear KS'
  have hsl : (L.take k).length = k := by rw [List.length_take]; have := GN.out; omega
  refine (own_any b0 0 k n (L.take k) W2 (fun j hj => by
    rw [Nat.zero_add]
    rw [hsl] at hj
    have := (K2.out.2.2.2 (b0, L) (by simp)).2 j (show j < L.length by have := GN.out; omega)
    rw [this]
    simp [List.getD, List.getElem?_take, hj]) hsl.symm (by have := GN.out; omega)).mono ?_
  rintro e W3 ⟨v3, rfl, hown, hb⟩
  have KO := Lib.hid (K2.out.call hb)
  have HB := Lib.hid (show ∀ b, v3.ownBlock = some b → B3 ≤ b from fun b hb => Nat.le_trans K2.out.2.2.1 (hown.lt b hb).1)
  have HOWN := Lib.hid (And.intro hown hb.size)
  clear hown hb hsl
  go_wp2_with (at_builtin; go_loud (refine wpList_append_own _ rfl _ _ 23 rfl W2.heap.size 9 i0 (.string .empty) 1 16 Tryd.underlying23 hi hz0 hz1 hz2 rfl (by decide) _ _ _ rfl (HOWN.out.1.alloc _) ⟨W3.heap.size, 0, none⟩ 1 1 [.string ⟨#[35]⟩] rfl rfl (cell_one_new _ _ _) (fun x hx => by simp at hx; subst hx; rfl) (by have := GN.out; unfold maxLen; omega) (by have := GN.out; omega) (by have := HOWN.out.2; rw [World.size_alloc]; omega) ?_; intro v' W4 hown' hgrow' _; obtain ⟨gh, ch, rfl, KN⟩ := app_step (row := L.take k ++ [[35]]) KO.out HB.out hgrow' hown' (by simp [strs, bs])))
  have KN := Lib.hid KN
  have K4 := Lib.hid KN.out.2
  have HCch := Lib.hid KN.out.1
  clear KN KO HB HOWN
  go_wp2_with fail
  have hsl : (L).length = n := GN.out.1.symm
  refine (own_any b0 0 n n (L) W4 (fun j hj => by
    rw [Nat.zero_add]
    rw [hsl] at hj
    have := (K4.out.2.2.2 (b0, L) (by simp)).2 j (show j < L.length by have := GN.out; omega)
    rw [this]
    skip) hsl.symm (by have := GN.out; omega)).mono ?_
  rintro e W5 ⟨v5, rfl, hown, hb⟩
  have KO := Lib.hid (K4.out.call hb)
  have HB := Lib.hid (show ∀ b, v5.ownBlock = some b → W4.heap.size ≤ b from fun b hb => Nat.le_trans K4.out.2.2.1 (hown.lt b hb).1)
  have HOWN := Lib.hid (And.intro hown hb.size)
  clear hown hb hsl
  by_cases hk0 : 0 < k
  · skip
    have HM1 := Lib.hid (fun W => by have := HM1 W; rw [decide_eq_true hk0, Bool.true_or] at this; exact this)
    have HM2 := Lib.hid (fun W => by have := HM2 W; rw [decide_eq_true hk0, Bool.true_or] at this; exact this)
    have g6 : (0 : Int) < (k : Int) := by omega
    go_wp2_with (at_builtin; go_loud (refine wpList_append_own _ rfl _ _ 23 rfl W4.heap.size 9 i0 (.string .empty) 1 16 Tryd.underlying23 hi hz0 hz1 hz2 rfl (by decide) _ _ _ rfl (HOWN.out.1.alloc _) ⟨W5.heap.size, 0, none⟩ 1 1 [.string ⟨#[35]⟩] rfl rfl (cell_one_new _ _ _) (fun x hx => by simp at hx; subst hx; rfl) (by have := GN.out; unfold maxLen; omega) (by have := GN.out; omega) (by have := HOWN.out.2; rw [World.size_alloc]; omega) ?_; intro v' W6 hown' hgrow' _; obtain ⟨gq, cq, rfl, KN⟩ := app_step (row := L ++ [[35]]) KO.out HB.out hgrow' hown' (by simp [strs, bs])))
    have KN := Lib.hid KN
    have K6 := Lib.hid KN.out.2
    have HCcq := Lib.hid KN.out.1
    clear KN KO HB HOWN
    refine (join_kr K6.out (g := gp) (ls := L.set k [43]) (by simp) (by have := JL.out; omega) HCcp.out (by have := JL.out; omega) (by have := GN.out; omega)).mono ?_
    rintro e x1 ⟨rfl, kk⟩
    have KJ1 := Lib.hid kk
    clear kk
    go_wp2_with fail
    refine (HM1.out _).mono ?_
    rintro e x2 ⟨rfl, bb⟩
    have KJ2 := Lib.hid (KJ1.out.call bb)
    clear bb
    go_wp2_with fail
    refine (join_kr KJ2.out (g := gh) (ls := L.take k ++ [[35]]) (by simp) (by have := JL.out; omega) HCch.out (by have := JL.out; omega) (by have := GN.out; omega)).mono ?_
    rintro e x3 ⟨rfl, kk⟩
    have KJ3 := Lib.hid kk
    clear kk
    go_wp2_with fail
    refine (HM2.out _).mono ?_
    rintro e x4 ⟨rfl, bb⟩
    have KJ4 := Lib.hid (KJ3.out.call bb)
    clear bb
    go_wp2_with fail
    refine (join_kr KJ4.out (g := gq) (ls := L ++ [[35]]) (by simp) (by have := JL.out; omega) HCcq.out (by have := JL.out; omega) (by have := GN.out; omega)).mono ?_
    rintro e x5 ⟨rfl, kk⟩
    have KJ5 := Lib.hid kk
    clear kk
    go_wp2_with fail
    refine (HM3.out _).mono ?_
    rintro e x6 ⟨rfl, bb⟩
    have KJ6 := Lib.hid (KJ5.out.call bb)
    clear bb
    go_wp2_with fail
    refine (own_any b0 0 n n L x6 (fun j hj => by rw [Nat.zero_add]; exact (KJ6.out.2.2.2 (b0, L) (by simp)).2 j hj) GN.out.1 (by have := GN.out; omega)).mono ?_
    rintro e W7 ⟨v, rfl, hown, hb⟩
    obtain ⟨go_, co, rfl, hcp, hgp1, hgp2, cur, hcur, hcs⟩ := own_block hown (by have := GN.out; omega)
    have hcell : W7.cell? ⟨go_, k, none⟩ = some (.string (bs (L.getD k []))) := own_cells hown k (show k < L.length by have := GN.out; omega)
    have hfz : W7.frozen? ⟨go_, k, none⟩ = false := by simp [World.frozen?, hcur]
    have KS : KR w (W7.setCell ⟨go_, k, none⟩ (.string o)) W7.heap.size ((go_, L.set k o.data.toList) :: [(gq, L ++ [[35]]), (gh, L.take k ++ [[35]]), (gp, L.set k [43]), (b0, L)]) := by
      have h1 := ((((KJ6.out.call hb).same (Below.refl _ _)).set (g := go_) (Nat.le_trans KJ6.out.2.2.1 hgp1) k (.string o)).add (g := go_) (ls := L.set k o.data.toList) (by simp [World.setCell]; exact hgp2) (cells_set (own_cells hown) (show k < L.length by have := GN.out; omega) _))
      simpa [World.setCell] using h1
    have KS := Lib.hid KS
    have HCco := Lib.hid hcp
    have g3' : (n : Int) ≤ (co : Int) := by omega
    clear hcur hcs hown hb hcp hgp1 hgp2
    go_wp2_with fail
    have KS' := KS.out
    clear KS hcell hfz g3'
    generalize W7.setCell ⟨go_, k, none⟩ (.string o) = W8 at *
    generalize W7.heap.size = B8 at *
    have K8 := Lib.hid KS'
    clear KS'
    refine (join_kr K8.out (g := go_) (ls := L.set k o.data.toList) (by simp) (by have := JL.out; omega) HCco.out (by have := JL.out; omega) (by have := GN.out; omega)).mono ?_
    rintro e x7 ⟨rfl, kk⟩
    have KJ7 := Lib.hid kk
    clear kk
    have hcb : x7.cell? ⟨b0, k, none⟩ = some (.string (bs (L.getD k []))) := (KJ7.out.2.2.2 (b0, L) (by simp)).2 k (show k < L.length by have := GN.out; omega)
    have M4' := M4.out
    generalize L.getD k [] = lk at *
    by_cases c1 : o.data.toList = lk
    · have q1 : (o.toList == (bs lk).toList) = true := by rw [bs_toList]; exact (Q0.out _).trans (decide_eq_true c1)
      clear M4' c1
      go_wp2_with fail
      go_ret
      exact ⟨rfl, KJ7.out.1⟩
    · have q1 : (o.toList == (bs lk).toList) = false := by rw [bs_toList]; exact (Q0.out _).trans (decide_eq_false c1)
      by_cases c2 : o.data.toList = [43]
      · have q2 : (o.toList == [43]) = true := (Q0.out _).trans (decide_eq_true c2)
        clear M4' c1 c2
        go_wp2_with fail
        go_ret
        exact ⟨rfl, KJ7.out.1⟩
      · have q2 : (o.toList == [43]) = false := (Q0.out _).trans (decide_eq_false c2)
        by_cases c3 : o.data.toList = [35]
        · have q3 : (o.toList == [35]) = true := (Q0.out _).trans (decide_eq_true c3)
          clear M4' c1 c2 c3
          go_wp2_with fail
          go_ret
          exact ⟨rfl, KJ7.out.1⟩
        · have q3 : (o.toList == [35]) = false := (Q0.out _).trans (decide_eq_false c3)
          have M5 := Lib.hid (M4' c1 c2 c3)
          clear M4' c1 c2 c3
          go_wp2_with fail
          refine (HF.out _).mono ?_
          rintro e x8 ⟨rfl, bb⟩
          have KJ8 := Lib.hid (KJ7.out.call bb)
          clear bb
          cases bf with
          | false =>
            go_wp2_with fail
            go_ret
            exact ⟨rfl, KJ8.out.1⟩
          | true =>
            go_wp2_with fail
            refine (HLv.out _).mono ?_
            rintro e y1 ⟨rfl, rfl⟩
            have KJ9 := Lib.hid (KJ8.out.alloc (.cells (strs (lvls (joins (L.set k o.data.toList)))).toArray 9))
            by_cases c4 : ln = n
            · obtain rfl := M5.out c4
              subst c4
              go_wp2_with fail
              refine (HM4.out _).mono ?_
              rintro e y2 ⟨rfl, bb⟩
              have KZ := Lib.hid (KJ9.out.call bb)
              clear bb
              go_wp2_with fail
              go_ret
              exact ⟨rfl, KZ.out.1⟩
            · have q4 : ((ln : Int) != (n : Int)) = true := by simp; omega
              clear c4
              go_wp2_with fail
              go_ret
              exact ⟨rfl, KJ9.out.1⟩
  · skip
    have HM1 := Lib.hid (fun W => by have := HM1 W; rw [decide_eq_false hk0, Bool.false_or] at this; exact this)
    have HM2 := Lib.hid (fun W => by have := HM2 W; rw [decide_eq_false hk0, Bool.false_or] at this; exact this)
    have g6 : ¬ (0 : Int) < (k : Int) := by omega
    have hdd : ((!d) != (!d)) = false := by cases d <;> rfl
    go_wp2_with (at_builtin; go_loud (refine wpList_append_own _ rfl _ _ 23 rfl W4.heap.size 9 i0 (.string .empty) 1 16 Tryd.underlying23 hi hz0 hz1 hz2 rfl (by decide) _ _ _ rfl (HOWN.out.1.alloc _) ⟨W5.heap.size, 0, none⟩ 1 1 [.string ⟨#[35]⟩] rfl rfl (cell_one_new _ _ _) (fun x hx => by simp at hx; subst hx; rfl) (by have := GN.out; unfold maxLen; omega) (by have := GN.out; omega) (by have := HOWN.out.2; rw [World.size_alloc]; omega) ?_; intro v' W6 hown' hgrow' _; obtain ⟨gq, cq, rfl, KN⟩ := app_step (row := L ++ [[35]]) KO.out HB.out hgrow' hown' (by simp [strs, bs])))
    have KN := Lib.hid KN
    have K6 := Lib.hid KN.out.2
    have HCcq := Lib.hid KN.out.1
    clear KN KO HB HOWN
    refine (HD.out _).mono ?_
    rintro e x0 ⟨rfl, rfl⟩
    go_wp2_with fail
    refine (join_kr K6.out (g := gp) (ls := L.set k [43]) (by simp) (by have := JL.out; omega) HCcp.out (by have := JL.out; omega) (by have := GN.out; omega)).mono ?_
    rintro e x1 ⟨rfl, kk⟩
    have KJ1 := Lib.hid kk
    clear kk
    go_wp2_with fail
    refine (HM1.out _).mono ?_
    rintro e x2 ⟨rfl, bb⟩
    have KJ2 := Lib.hid (KJ1.out.call bb)
    clear bb
    go_wp2_with fail
    refine (join_kr KJ2.out (g := gh) (ls := L.take k ++ [[35]]) (by simp) (by have := JL.out; omega) HCch.out (by have := JL.out; omega) (by have := GN.out; omega)).mono ?_
    rintro e x3 ⟨rfl, kk⟩
    have KJ3 := Lib.hid kk
    clear kk
    go_wp2_with fail
    refine (HM2.out _).mono ?_
    rintro e x4 ⟨rfl, bb⟩
    have KJ4 := Lib.hid (KJ3.out.call bb)
    clear bb
    go_wp2_with fail
    refine (join_kr KJ4.out (g := gq) (ls := L ++ [[35]]) (by simp) (by have := JL.out; omega) HCcq.out (by have := JL.out; omega) (by have := GN.out; omega)).mono ?_
    rintro e x5 ⟨rfl, kk⟩
    have KJ5 := Lib.hid kk
    clear kk
    go_wp2_with fail
    refine (HM3.out _).mono ?_
    rintro e x6 ⟨rfl, bb⟩
    have KJ6 := Lib.hid (KJ5.out.call bb)
    clear bb
    go_wp2_with fail
    refine (own_any b0 0 n n L x6 (fun j hj => by rw [Nat.zero_add]; exact (KJ6.out.2.2.2 (b0, L) (by simp)).2 j hj) GN.out.1 (by have := GN.out; omega)).mono ?_
    rintro e W7 ⟨v, rfl, hown, hb⟩
    obtain ⟨go_, co, rfl, hcp, hgp1, hgp2, cur, hcur, hcs⟩ := own_block hown (by have := GN.out; omega)
    have hcell : W7.cell? ⟨go_, k, none⟩ = some (.string (bs (L.getD k []))) := own_cells hown k (show k < L.length by have := GN.out; omega)
    have hfz : W7.frozen? ⟨go_, k, none⟩ = false := by simp [World.frozen?, hcur]
    have KS : KR w (W7.setCell ⟨go_, k, none⟩ (.string o)) W7.heap.size ((go_, L.set k o.data.toList) :: [(gq, L ++ [[35]]), (gh, L.take k ++ [[35]]), (gp, L.set k [43]), (b0, L)]) := by
      have h1 := ((((KJ6.out.call hb).same (Below.refl _ _)).set (g := go_) (Nat.le_trans KJ6.out.2.2.1 hgp1) k (.string o)).add (g := go_) (ls := L.set k o.data.toList) (by simp [World.setCell]; exact hgp2) (cells_set (own_cells hown) (show k < L.length by have := GN.out; omega) _))
      simpa [World.setCell] using h1
    have KS := Lib.hid KS
    have HCco := Lib.hid hcp
    have g3' : (n : Int) ≤ (co : Int) := by omega
    clear hcur hcs hown hb hcp hgp1 hgp2
    go_wp2_with fail
    have KS' := KS.out
    clear KS hcell hfz g3'
    generalize W7.setCell ⟨go_, k, none⟩ (.string o) = W8 at *
    generalize W7.heap.size = B8 at *
    have K8 := Lib.hid KS'
    clear KS'
    refine (join_kr K8.out (g := go_) (ls := L.set k o.data.toList) (by simp) (by have := JL.out; omega) HCco.out (by have := JL.out; omega) (by have := GN.out; omega)).mono ?_
    rintro e x7 ⟨rfl, kk⟩
    have KJ7 := Lib.hid kk
    clear kk
    have hcb : x7.cell? ⟨b0, k, none⟩ = some (.string (bs (L.getD k []))) := (KJ7.out.2.2.2 (b0, L) (by simp)).2 k (show k < L.length by have := GN.out; omega)
    have M4' := M4.out
    generalize L.getD k [] = lk at *
    by_cases c1 : o.data.toList = lk
    · have q1 : (o.toList == (bs lk).toList) = true := by rw [bs_toList]; exact (Q0.out _).trans (decide_eq_true c1)
      clear M4' c1
      go_wp2_with fail
      go_ret
      exact ⟨rfl, KJ7.out.1⟩
    · have q1 : (o.toList == (bs lk).toList) = false := by rw [bs_toList]; exact (Q0.out _).trans (decide_eq_false c1)
      by_cases c2 : o.data.toList = [43]
      · have q2 : (o.toList == [43]) = true := (Q0.out _).trans (decide_eq_true c2)
        clear M4' c1 c2
        go_wp2_with fail
        go_ret
        exact ⟨rfl, KJ7.out.1⟩
      · have q2 : (o.toList == [43]) = false := (Q0.out _).trans (decide_eq_false c2)
        by_cases c3 : o.data.toList = [35]
        · have q3 : (o.toList == [35]) = true := (Q0.out _).trans (decide_eq_true c3)
          clear M4' c1 c2 c3
          go_wp2_with fail
          go_ret
          exact ⟨rfl, KJ7.out.1⟩
        · have q3 : (o.toList == [35]) = false := (Q0.out _).trans (decide_eq_false c3)
          have M5 := Lib.hid (M4' c1 c2 c3)
          clear M4' c1 c2 c3
          go_wp2_with fail
          refine (HF.out _).mono ?_
          rintro e x8 ⟨rfl, bb⟩
          have KJ8 := Lib.hid (KJ7.out.call bb)
          clear bb
          cases bf with
          | false =>
            go_wp2_with fail
            go_ret
            exact ⟨rfl, KJ8.out.1⟩
          | true =>
            go_wp2_with fail
            refine (HLv.out _).mono ?_
            rintro e y1 ⟨rfl, rfl⟩
            have KJ9 := Lib.hid (KJ8.out.alloc (.cells (strs (lvls (joins (L.set k o.data.toList)))).toArray 9))
            by_cases c4 : ln = n
            · obtain rfl := M5.out c4
              subst c4
              go_wp2_with fail
              refine (HM4.out _).mono ?_
              rintro e y2 ⟨rfl, bb⟩
              have KZ := Lib.hid (KJ9.out.call bb)
              clear bb
              go_wp2_with fail
              go_ret
              exact ⟨rfl, KZ.out.1⟩
            · have q4 : ((ln : Int) != (n : Int)) = true := by simp; omega
              clear c4
              go_wp2_with fail
              go_ret
              exact ⟨rfl, KJ9.out.1⟩

theorem wilds_walk (s : ByteArray) (at' : Int) (o : ByteArray) (w : World) (hs : s.size ≤ 9223372036854775807) (ho : o.size ≤ 9223372036854775807) :
    Calls Tryd.prog 5 #[.string s, .int .i64 at', .string o] w fun e w' => e = .returned (.bool true) ∧ Below w.heap.size w w' := by
  by_cases h : 200 < s.size ∨ 40 < o.size ∨ nameL s.data.toList = false
  · exact wilds_out s o at' w hs h
  · exact wilds_in s o at' w (by omega) (by omega) (by
      cases hn : nameL s.data.toList with
      | true => rfl
      | false => exact absurd (.inr (.inr hn)) h)
end Go.Proofs.YthgilnmfbhmgiaaDoor
