/-
  The contract of prop.Read, as a law's walk wants it. Condition: the bytes are no more than an int says.
  The contracts of connect.reader's small methods: require, octet, ahead, pass, piece, text, data, props. Condition: the bytes are no more than an int says.
-/
import Derived.BigQuiet
import Derived.Test.YtbgpcmbaodjibaaGreatK48
import Derived.Test.YtbgpcmbaodjibaaGreatK46
import Derived.Test.YtbgpcmbaodjibaaGreatK20
namespace Go.Proofs.YtbgpcmbaodjibaaGreat
open Go.RowKit

theorem read_err {kind : Int} {s : List UInt8} (h : (readP kind s).2.2 ≠ 0) : readP kind s = ([], 0, (readP kind s).2.2) := by
  unfold readP at *
  repeat' split
  all_goals first | rfl | skip
  all_goals
    rename_i h1 h2 h3 h4
    rw [if_neg h1, if_neg h2, if_neg h3, if_neg h4] at h
    exact absurd rfl h
theorem bs_take (s : ByteArray) (k : Nat) : bs (s.data.toList.take k) = s.extract 0 k := by
  apply ByteArray.ext
  apply Array.ext'
  simp [bs, List.extract_eq_take_drop]
/-- What Read gives, as a law's walk wants it. -/
theorem prop_read_form (kind : Int) (s : ByteArray) (L : List Pr) (k F : Nat) (hk0 : -9223372036854775808 ≤ kind) (hk1 : kind ≤ 9223372036854775807) (hm : s.size ≤ 9223372036854775807) (hq : readP kind s.data.toList = (L, k, F)) (W : World) :
    Calls Tryz.prog 150 #[.int .i64 kind, .string s] W fun e W' => Below W.heap.size W W' ∧ ∃ A c, e = .returned (.tuple #[.slice A L.length c, .int .i64 (k : Nat), .int .i64 (F : Nat)]) ∧ L.length ≤ c ∧ PL W' A L ∧ (∀ p ∈ L, PrOk p) ∧ L.length ≤ 1000 := by
  have := prop_read_any kind s W hk0 hk1 hm
  rw [hq] at this
  refine this.mono fun e W' ⟨hb, ok, hl, v, he, ho⟩ => ⟨hb, ?_⟩
  obtain ⟨A, c, rfl, hc, hP, _⟩ := PL.owned ho rfl
  exact ⟨A, c, he, hc, hP, ok, hl⟩
end Go.Proofs.YtbgpcmbaodjibaaGreat
namespace Go.Proofs.YtbgpcmbaodjibaaGreat
open Go.RowKit

/-- A reader. -/
def rdC (cb : Nat) (v : Int) : Array Value := #[.pointer (some ⟨cb, 0, none⟩), .int .i64 v]
def rdrV (cb : Nat) (v : Int) : Value := .agg #[.pointer (some ⟨cb, 0, none⟩), .int .i64 v]
section
variable {w W W' : World} {cb : Nat} {s : ByteArray} {x : Cs} {v : Int}
theorem box_cells (w : World) (cb : Nat) (v : Int) : (w.alloc (.cells #[.pointer (some ⟨cb, 0, none⟩), .int .i64 v] 58)).heap[w.heap.size]? = some (.cells #[.pointer (some ⟨cb, 0, none⟩), .int .i64 v] 58 (0, 0)) := heap_alloc_new w _
set_option maxRecDepth 100000 in
theorem rd_require (b : Bool) (f : Nat) (h : CsAt w cb s x) :
    Calls Tryz.prog 33 #[rdrV cb v, .bool b, .int .i64 (f : Nat)] w fun e w' => e = .returned (.tuple #[]) ∧ CsAt w' cb s (if b then x else x.fail f) ∧ w.grownBy w' (some cb) := by
  have G0 := Lib.hid (World.grownBy_alloc w (.cells #[.pointer (some ⟨cb, 0, none⟩), .int .i64 v] 58) (some cb))
  have h0 := h.alloc (.cells #[.pointer (some ⟨cb, 0, none⟩), .int .i64 v] 58)
  have FL := Lib.hid (cs_fail f h0)
  have H0 := Lib.hid h0
  unfold rdrV
  clear h h0
  cases b with
  | true =>
    go_enter Tryz.func33, Tryz.ntmps33
    go_wp2_with fail
    go_end0
    exact ⟨rfl, H0.out, G0.out⟩
  | false =>
    go_enter Tryz.func33, Tryz.ntmps33
    go_wp2_with fail
    refine (FL.out).mono ?_
    rintro e w2 ⟨rfl, hc, hg⟩
    have HC := Lib.hid hc
    have HG := Lib.hid (grown_then G0.out hg)
    clear hc hg
    go_wp2_with fail
    go_end0
    exact ⟨rfl, HC.out, HG.out⟩
theorem num_lt8 (x : Cs) (n : Nat) (hn : n ≤ 2) : (x.num n).1 < 65536 := by
  unfold Cs.num
  have := num_lt (x.take n).1
  have hl : (x.take n).1.length ≤ 2 := by
    unfold Cs.take
    split
    · simp
    · split
      · simp
      · simp; omega
  have : 256 ^ (x.take n).1.length ≤ 256 ^ 2 := Nat.pow_le_pow_right (by decide) hl
  omega
set_option maxRecDepth 100000 in
theorem rd_octet (hm : s.size ≤ 9223372036854775807) (h : CsAt w cb s x) :
    Calls Tryz.prog 103 #[rdrV cb v] w fun e w' => e = .returned (.int .i64 ((x.num 1).1 : Nat)) ∧ CsAt w' cb s (x.num 1).2 ∧ w.grownBy w' (some cb) := by
  have G0 := Lib.hid (World.grownBy_alloc w (.cells #[.pointer (some ⟨cb, 0, none⟩), .int .i64 v] 58) (some cb))
  have h0 := h.alloc (.cells #[.pointer (some ⟨cb, 0, none⟩), .int .i64 v] 58)
  have NM := cs_num 1 (by decide) hm h0
  have hlt := num_lt8 x 1 (by decide)
  generalize x.num 1 = z at *
  obtain ⟨z1, z2⟩ := z
  have NM := Lib.hid NM
  have hz0 : (0 : Int) ≤ z1 := by omega
  have hz : (z1 : Int) < 65536 := by omega
  unfold rdrV
  clear h h0 hlt
  go_enter Tryz.func103, Tryz.ntmps103
  go_wp2_with fail
  refine (NM.out).mono ?_
  rintro e w2 ⟨rfl, hc, hg⟩
  have HC := Lib.hid hc
  have HG := Lib.hid (grown_then G0.out hg)
  clear hc hg
  go_wp2_with fail
  go_ret
  exact ⟨rfl, HC.out, HG.out⟩
theorem quiet_one {w w'' : World} {a : Nat} (h : ∃ j, w'' = (w.drewN a).drewN j) : ∃ n, w'' = w.drewN n := by
  obtain ⟨j, rfl⟩ := h
  exact ⟨a + j, by simp⟩
set_option maxRecDepth 100000 in
theorem rd_ahead (hm : s.size ≤ 9223372036854775807) (h : CsAt w cb s x) :
    Calls Tryz.prog 151 #[rdrV cb v] w fun e w' => e = .returned (.string (bs x.ahead)) ∧ Below w.heap.size w w' := by
  have B0 := Lib.hid (below_box (w := w) (.cells #[.pointer (some ⟨cb, 0, none⟩), .int .i64 v] 58))
  have h0 := h.alloc (.cells #[.pointer (some ⟨cb, 0, none⟩), .int .i64 v] 58)
  have LF := Lib.hid (fun n => cs_left hm (h0.draws n))
  have PK := Lib.hid (fun n => cs_peek hm (h0.draws n))
  have DR : ∀ a b : Nat, ((w.alloc (.cells #[.pointer (some ⟨cb, 0, none⟩), .int .i64 v] 58)).drewN a).drewN b = (w.alloc (.cells #[.pointer (some ⟨cb, 0, none⟩), .int .i64 v] 58)).drewN (a + b) := fun a b => by simp
  have DR := Lib.hid DR
  unfold rdrV
  clear h h0
  go_enter Tryz.func151, Tryz.ntmps151
  go_wp2_with fail
  go_quiet (first
    | (go_at_call 34; exact (LF.out _).mono fun _ _ h => ⟨h.1, quiet_one h.2⟩)
    | (go_at_call 179; exact (PK.out _).mono fun _ _ h => ⟨h.1, quiet_one h.2⟩))
  go_wp2_with fail
  go_ret
  exact ⟨rfl, below_draws B0.out _⟩
set_option maxRecDepth 100000 in
theorem rd_pass (k f : Nat) (hk : k ≤ x.r.length) (hm : s.size ≤ 9223372036854775807) (h : CsAt w cb s x) :
    Calls Tryz.prog 152 #[rdrV cb v, .int .i64 (k : Nat), .int .i64 (f : Nat)] w fun e w' => e = .returned (.tuple #[]) ∧ CsAt w' cb s (if x.e = 0 then ⟨x.r.drop k, f⟩ else x) ∧ w.grownBy w' (some cb) := by
  have G0 := Lib.hid (World.grownBy_alloc w (.cells #[.pointer (some ⟨cb, 0, none⟩), .int .i64 v] 58) (some cb))
  have h0 := h.alloc (.cells #[.pointer (some ⟨cb, 0, none⟩), .int .i64 v] 58)
  have TK := Lib.hid (cs_take k hm h0)
  have e1 : ((x.take k).2.fail f) = if x.e = 0 then ⟨x.r.drop k, f⟩ else x := by
    unfold Cs.take Cs.fail
    by_cases he : x.e = 0
    · simp [he, show ¬ x.r.length < k by omega]
    · simp [he]
  rw [← e1]
  have BX := Lib.hid (box_cells w cb v)
  have hne : w.heap.size ≠ cb := Nat.ne_of_gt h.lt
  unfold rdrV
  clear h h0 e1 hk
  go_enter Tryz.func152, Tryz.ntmps152
  go_wp2_with fail
  refine (TK.out).mono ?_
  rintro e w2 ⟨rfl, hc, hg⟩
  have hb2 := (hg.block w.heap.size (by simp) (fun e => hne (Option.some.inj e))).trans BX.out
  have c0 : w2.cell? ⟨w.heap.size, 0, none⟩ = some (.pointer (some ⟨cb, 0, none⟩)) := cell_of_row _ _ 0 _ _ _ hb2
  have FL := Lib.hid (cs_fail f hc)
  have HG := Lib.hid (grown_then G0.out hg)
  clear hc hg hb2
  go_wp2_with fail
  refine (FL.out).mono ?_
  rintro e w3 ⟨rfl, hc, hg⟩
  have HC := Lib.hid hc
  have HG2 := Lib.hid (grown_then HG.out hg)
  clear hc hg c0
  go_wp2_with fail
  go_end0
  exact ⟨rfl, HC.out, HG2.out⟩
theorem rdB_nil : rdB [] = ([], 0, 3) := by decide
theorem rdT_nil : rdT [] = ([], 0, 3) := by decide
set_option maxRecDepth 100000 in
theorem rd_piece_text (hm : s.size ≤ 9223372036854775807) (h : CsAt w cb s x) :
    Calls Tryz.prog 155 #[rdrV cb v, .func (.func 156) #[] #[]] w fun e w' => e = .returned (.string (bs x.text.1)) ∧ CsAt w' cb s x.text.2 ∧ w.grownBy w' (some cb) := by
  have G0 := Lib.hid (World.grownBy_alloc w (.cells #[.pointer (some ⟨cb, 0, none⟩), .int .i64 v] 58) (some cb))
  have h0 := h.alloc (.cells #[.pointer (some ⟨cb, 0, none⟩), .int .i64 v] 58)
  have AH := Lib.hid (rd_ahead (v := v) hm h0)
  have hle : x.ahead.length ≤ x.r.length := by unfold Cs.ahead; split; exact Nat.le_refl _; exact Nat.zero_le _
  have RD := fun W => us_read_any (bs x.ahead) W (by rw [bs_size]; have := h.len; omega)
  rw [bs_data] at RD
  have hk := (rdT_le x.ahead).1
  have hk2 : (rdT x.ahead).2.1 ≤ x.r.length := Nat.le_trans hk hle
  have e1 : x.text = ((rdT x.ahead).1, if x.e = 0 then ⟨x.r.drop (rdT x.ahead).2.1, (rdT x.ahead).2.2⟩ else x) := by
    unfold Cs.text Cs.ahead
    by_cases he : x.e = 0
    · simp [he]
    · simp [he, rdT_nil]
  rw [e1]
  generalize rdT x.ahead = z at *
  obtain ⟨t, k, f⟩ := z
  have RD := Lib.hid RD
  have PS := fun W (h : CsAt W cb s x) => rd_pass (v := v) k f hk2 hm h
  generalize (if x.e = 0 then (⟨x.r.drop k, f⟩ : Cs) else x) = y at *
  have PS := Lib.hid PS
  have H0 := Lib.hid h0
  have BX := Lib.hid (box_cells w cb v)
  have hne : w.heap.size ≠ cb := Nat.ne_of_gt h.lt
  unfold rdrV at *
  unfold ok3 at RD
  clear h h0 hle hk hk2 e1
  go_enter Tryz.func155, Tryz.ntmps155
  go_wp2_with fail
  refine (AH.out).mono ?_
  rintro e w2 ⟨rfl, hb⟩
  have H2 := Lib.hid (H0.out.below hb)
  have G2 := Lib.hid (grown_then G0.out (grown_of_below hb (some cb)))
  have X2 := Lib.hid ((hb.block _ (lt_of_block BX.out)).trans BX.out)
  clear hb
  go_wp2_with fail
  refine (RD.out _).mono ?_
  rintro e w3 ⟨rfl, hb⟩
  have H3 := Lib.hid (H2.out.below hb)
  have G3 := Lib.hid (grown_then G2.out (grown_of_below hb (some cb)))
  have X3 := (hb.block _ (lt_of_block X2.out)).trans X2.out
  have c0 : w3.cell? ⟨w.heap.size, 0, none⟩ = some (.pointer (some ⟨cb, 0, none⟩)) := cell_of_row _ _ 0 _ _ _ X3
  have c1 : w3.cell? ⟨w.heap.size, 1, none⟩ = some (.int .i64 v) := cell_of_row _ _ 1 _ _ _ X3
  clear hb X3
  go_wp2_with fail
  refine (PS.out _ H3.out).mono ?_
  rintro e w4 ⟨rfl, hc, hg⟩
  have H4 := Lib.hid hc
  have G4 := Lib.hid (grown_then G3.out hg)
  clear hc hg c0 c1
  go_wp2_with fail
  go_ret
  exact ⟨rfl, H4.out, G4.out⟩
set_option maxRecDepth 100000 in
theorem rd_piece_data (hm : s.size ≤ 9223372036854775807) (h : CsAt w cb s x) :
    Calls Tryz.prog 155 #[rdrV cb v, .func (.func 157) #[] #[]] w fun e w' => e = .returned (.string (bs x.bin.1)) ∧ CsAt w' cb s x.bin.2 ∧ w.grownBy w' (some cb) := by
  have G0 := Lib.hid (World.grownBy_alloc w (.cells #[.pointer (some ⟨cb, 0, none⟩), .int .i64 v] 58) (some cb))
  have h0 := h.alloc (.cells #[.pointer (some ⟨cb, 0, none⟩), .int .i64 v] 58)
  have AH := Lib.hid (rd_ahead (v := v) hm h0)
  have hle : x.ahead.length ≤ x.r.length := by unfold Cs.ahead; split; exact Nat.le_refl _; exact Nat.zero_le _
  have RD := fun W => readbin_any (bs x.ahead) W (by rw [bs_size]; have := h.len; omega)
  rw [bs_data] at RD
  have hk := (rdB_le x.ahead).1
  have hk2 : (rdB x.ahead).2.1 ≤ x.r.length := Nat.le_trans hk hle
  have e1 : x.bin = ((rdB x.ahead).1, if x.e = 0 then ⟨x.r.drop (rdB x.ahead).2.1, (rdB x.ahead).2.2⟩ else x) := by
    unfold Cs.bin Cs.ahead
    by_cases he : x.e = 0
    · simp [he]
    · simp [he, rdB_nil]
  rw [e1]
  generalize rdB x.ahead = z at *
  obtain ⟨t, k, f⟩ := z
  have RD := Lib.hid RD
  have PS := fun W (h : CsAt W cb s x) => rd_pass (v := v) k f hk2 hm h
  generalize (if x.e = 0 then (⟨x.r.drop k, f⟩ : Cs) else x) = y at *
  have PS := Lib.hid PS
  have H0 := Lib.hid h0
  have BX := Lib.hid (box_cells w cb v)
  have hne : w.heap.size ≠ cb := Nat.ne_of_gt h.lt
  unfold rdrV at *
  unfold ok3 at RD
  clear h h0 hle hk hk2 e1
  go_enter Tryz.func155, Tryz.ntmps155
  go_wp2_with fail
  refine (AH.out).mono ?_
  rintro e w2 ⟨rfl, hb⟩
  have H2 := Lib.hid (H0.out.below hb)
  have G2 := Lib.hid (grown_then G0.out (grown_of_below hb (some cb)))
  have X2 := Lib.hid ((hb.block _ (lt_of_block BX.out)).trans BX.out)
  clear hb
  go_wp2_with fail
  refine (RD.out _).mono ?_
  rintro e w3 ⟨rfl, hb⟩
  have H3 := Lib.hid (H2.out.below hb)
  have G3 := Lib.hid (grown_then G2.out (grown_of_below hb (some cb)))
  have X3 := (hb.block _ (lt_of_block X2.out)).trans X2.out
  have c0 : w3.cell? ⟨w.heap.size, 0, none⟩ = some (.pointer (some ⟨cb, 0, none⟩)) := cell_of_row _ _ 0 _ _ _ X3
  have c1 : w3.cell? ⟨w.heap.size, 1, none⟩ = some (.int .i64 v) := cell_of_row _ _ 1 _ _ _ X3
  clear hb X3
  go_wp2_with fail
  refine (PS.out _ H3.out).mono ?_
  rintro e w4 ⟨rfl, hc, hg⟩
  have H4 := Lib.hid hc
  have G4 := Lib.hid (grown_then G3.out hg)
  clear hc hg c0 c1
  go_wp2_with fail
  go_ret
  exact ⟨rfl, H4.out, G4.out⟩
set_option maxRecDepth 100000 in
theorem rd_text (hm : s.size ≤ 9223372036854775807) (h : CsAt w cb s x) :
    Calls Tryz.prog 108 #[rdrV cb v] w fun e w' => e = .returned (.string (bs x.text.1)) ∧ CsAt w' cb s x.text.2 ∧ w.grownBy w' (some cb) := by
  have G0 := Lib.hid (World.grownBy_alloc w (.cells #[.pointer (some ⟨cb, 0, none⟩), .int .i64 v] 58) (some cb))
  have h0 := h.alloc (.cells #[.pointer (some ⟨cb, 0, none⟩), .int .i64 v] 58)
  have PI := Lib.hid (rd_piece_text (v := v) hm h0)
  unfold rdrV at *
  clear h h0
  go_enter Tryz.func108, Tryz.ntmps108
  go_wp2_with fail
  refine (PI.out).mono ?_
  rintro e w2 ⟨rfl, hc, hg⟩
  have H2 := Lib.hid hc
  have G2 := Lib.hid (grown_then G0.out hg)
  clear hc hg
  go_wp2_with fail
  go_ret
  exact ⟨rfl, H2.out, G2.out⟩
set_option maxRecDepth 100000 in
theorem rd_data (hm : s.size ≤ 9223372036854775807) (h : CsAt w cb s x) :
    Calls Tryz.prog 109 #[rdrV cb v] w fun e w' => e = .returned (.string (bs x.bin.1)) ∧ CsAt w' cb s x.bin.2 ∧ w.grownBy w' (some cb) := by
  have G0 := Lib.hid (World.grownBy_alloc w (.cells #[.pointer (some ⟨cb, 0, none⟩), .int .i64 v] 58) (some cb))
  have h0 := h.alloc (.cells #[.pointer (some ⟨cb, 0, none⟩), .int .i64 v] 58)
  have PI := Lib.hid (rd_piece_data (v := v) hm h0)
  unfold rdrV at *
  clear h h0
  go_enter Tryz.func109, Tryz.ntmps109
  go_wp2_with fail
  refine (PI.out).mono ?_
  rintro e w2 ⟨rfl, hc, hg⟩
  have H2 := Lib.hid hc
  have G2 := Lib.hid (grown_then G0.out hg)
  clear hc hg
  go_wp2_with fail
  go_ret
  exact ⟨rfl, H2.out, G2.out⟩
end
end Go.Proofs.YtbgpcmbaodjibaaGreat
