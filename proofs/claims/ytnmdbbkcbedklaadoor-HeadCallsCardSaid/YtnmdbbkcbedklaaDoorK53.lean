/-
  The walk of HeadCalls. Condition: the table of names reads as the program's text lays it; the arguments are what memory can hold.
-/
import Derived.Test.YtnmdbbkcbedklaaDoorK05
import Derived.Test.YtnmdbbkcbedklaaDoorK21
import Derived.Test.YtnmdbbkcbedklaaDoorK34
import Derived.Test.YtnmdbbkcbedklaaDoorK45
import Derived.Test.YtnmdbbkcbedklaaDoorK49
import Derived.Test.YtnmdbbkcbedklaaDoorK15
import Derived.Test.YtnmdbbkcbedklaaDoorK39
import Derived.Test.YtnmdbbkcbedklaaDoorK42
import Derived.Test.YtnmdbbkcbedklaaDoorK50
import Derived.Test.YtnmdbbkcbedklaaDoorK52
namespace Go.Proofs.YtnmdbbkcbedklaaDoor
open Go.RowKit

/-- What stands while HeadCalls runs: the three boxes, the packets' lists, the table. -/
structure CaS (w : World) (h : Hd) (p : Pk) (a : Ad) (q : Pk) (b : Ad) (W : World) : Prop where
  low : Below w.heap.size w W
  bh : W.heap[w.heap.size]? = some (.cells #[.int .i64 h.kind, .int .i64 h.flags, .int .i64 h.length] 26 (0, 0))
  bp : W.heap[w.heap.size + 1]? = some (.cells (pkC p a) 35 (0, 0))
  bq : W.heap[w.heap.size + 2]? = some (.cells (pkC q b) 35 (0, 0))
  pl : PkAt W p a
  ql : PkAt W q b
  tab : Names W
theorem CaS.call {w W W' : World} {h : Hd} {p q : Pk} {a b : Ad} (x : CaS w h p a q b W) (hb : Below W.heap.size W W') : CaS w h p a q b W' :=
  ⟨below_then x.low hb, (hb.block _ (lt_of_block x.bh)).trans x.bh, (hb.block _ (lt_of_block x.bp)).trans x.bp, (hb.block _ (lt_of_block x.bq)).trans x.bq, x.pl.below hb, x.ql.below hb, x.tab.below hb⟩
theorem CaS.init {w : World} {h : Hd} {p q : Pk} {a b : Ad} (hp : PkAt w p a) (hq : PkAt w q b) (ht : Names w) :
    CaS w h p a q b (((w.alloc (.cells #[.int .i64 h.kind, .int .i64 h.flags, .int .i64 h.length] 26)).alloc (.cells (pkC p a) 35)).alloc (.cells (pkC q b) 35)) := by
  have hb : Below w.heap.size w (((w.alloc (.cells #[.int .i64 h.kind, .int .i64 h.flags, .int .i64 h.length] 26)).alloc (.cells (pkC p a) 35)).alloc (.cells (pkC q b) 35)) := below_then (below_then (below_box _) (below_box _)) (below_box _)
  refine ⟨hb, ?_, ?_, ?_, hp.below hb, hq.below hb, ht.below hb⟩
  · rw [heap_alloc_old _ _ (by simp only [World.size_alloc]; omega)]; exact heap_alloc2_old _ _ _
  · rw [heap_alloc_old _ _ (by simp only [World.size_alloc]; omega)]; exact heap_alloc2_new _ _ _
  · have := heap_alloc_new ((w.alloc (.cells #[.int .i64 h.kind, .int .i64 h.flags, .int .i64 h.length] 26)).alloc (.cells (pkC p a) 35)) (.cells (pkC q b) 35)
    simp only [World.size_alloc] at this
    exact this
/-- What stands in the last region: the two headers that were read, too. -/
structure CaT (w : World) (h : Hd) (p : Pk) (a : Ad) (q : Pk) (b : Ad) (z1 z2 : Nat) (y0 y1 y2 : Int) (W : World) : Prop where
  s : CaS w h p a q b W
  x1 : W.heap[z1]? = some (.cells #[.int .i64 y0, .int .i64 y1, .int .i64 y2] 26 (0, 0))
  x2 : W.heap[z2]? = some (.cells #[.int .i64 y0, .int .i64 y1, .int .i64 y2] 26 (0, 0))
theorem CaT.call {w W W' : World} {h : Hd} {p q : Pk} {a b : Ad} {z1 z2 : Nat} {y0 y1 y2 : Int} (t : CaT w h p a q b z1 z2 y0 y1 y2 W) (hb : Below W.heap.size W W') : CaT w h p a q b z1 z2 y0 y1 y2 W' :=
  ⟨t.s.call hb, (hb.block _ (lt_of_block t.x1)).trans t.x1, (hb.block _ (lt_of_block t.x2)).trans t.x2⟩
set_option maxRecDepth 100000 in
set_option maxHeartbeats 1000000 in
theorem ca_p (v : Int) (h : Hd) (p q : Pk) (a b : Ad) (s : ByteArray) (w : World) (hp : PkAt w p a) (hq : PkAt w q b) (okp : PkOk p) (okq : PkOk q) (ht : Names w) (_ : s.size ≤ 9223372036854775807) (hl : lightK p = false) :
    Calls Tryd.prog 4 #[.int .i64 v, hdV h, pkV p a, pkV q b, .string s] w fun e w' => e = .returned (.bool true) ∧ Below w.heap.size w w' := by
  have S0 := Lib.hid (CaS.init (h := h) hp hq ht)
  clear ht
  have LP := Lib.hid (fun W (x : CaS w h p a q b W) => light_pk p a W x.pl okp)
  have LQ := Lib.hid (fun W (x : CaS w h p a q b W) => light_pk q b W x.ql okq)
  rw [hl] at LP
  clear hl LQ
  unfold pkV at LP
  unfold hdV pkV
  have EP := Lib.hid (show pkV p a = .agg (pkC p a) from rfl)
  have EQ := Lib.hid (show pkV q b = .agg (pkC q b) from rfl)
  go_enter Tryd.func4, Tryd.ntmps4
  go_wp2_with fail
  refine (lives_head _).mono ?_
  rintro e W1 ⟨rfl, hb⟩
  have S1 := Lib.hid (S0.out.call hb)
  clear hb
  go_wp2_with (refine wpList_load_row_g rfl _ _ rfl (w.heap.size + 1) rfl 35 _ (0, 0) _ S1.out.bp Tryd.underlying35 rfl info_pk ?_)
  refine (LP.out _ S1.out).mono ?_
  rintro e W2 ⟨rfl, hb⟩
  have S2 := Lib.hid (S1.out.call hb)
  clear hb
  go_wp2_with fail
  go_ret
  exact ⟨rfl, S2.out.low⟩
set_option maxRecDepth 100000 in
set_option maxHeartbeats 1000000 in
theorem ca_q (v : Int) (h : Hd) (p q : Pk) (a b : Ad) (s : ByteArray) (w : World) (hp : PkAt w p a) (hq : PkAt w q b) (okp : PkOk p) (okq : PkOk q) (ht : Names w) (_ : s.size ≤ 9223372036854775807) (hl : lightK p = true) (hl2 : lightK q = false) :
    Calls Tryd.prog 4 #[.int .i64 v, hdV h, pkV p a, pkV q b, .string s] w fun e w' => e = .returned (.bool true) ∧ Below w.heap.size w w' := by
  have S0 := Lib.hid (CaS.init (h := h) hp hq ht)
  clear ht
  have LP := Lib.hid (fun W (x : CaS w h p a q b W) => light_pk p a W x.pl okp)
  have LQ := Lib.hid (fun W (x : CaS w h p a q b W) => light_pk q b W x.ql okq)
  rw [hl] at LP
  rw [hl2] at LQ
  clear hl hl2
  unfold pkV at LP LQ
  unfold hdV pkV
  have EP := Lib.hid (show pkV p a = .agg (pkC p a) from rfl)
  have EQ := Lib.hid (show pkV q b = .agg (pkC q b) from rfl)
  go_enter Tryd.func4, Tryd.ntmps4
  go_wp2_with fail
  refine (lives_head _).mono ?_
  rintro e W1 ⟨rfl, hb⟩
  have S1 := Lib.hid (S0.out.call hb)
  clear hb
  go_wp2_with (refine wpList_load_row_g rfl _ _ rfl (w.heap.size + 1) rfl 35 _ (0, 0) _ S1.out.bp Tryd.underlying35 rfl info_pk ?_)
  refine (LP.out _ S1.out).mono ?_
  rintro e W2 ⟨rfl, hb⟩
  have S2 := Lib.hid (S1.out.call hb)
  clear hb
  go_wp2_with (refine wpList_load_row_g rfl _ _ rfl (w.heap.size + 2) rfl 35 _ (0, 0) _ S2.out.bq Tryd.underlying35 rfl info_pk ?_)
  refine (LQ.out _ S2.out).mono ?_
  rintro e W3 ⟨rfl, hb⟩
  have S3 := Lib.hid (S2.out.call hb)
  clear hb
  go_wp2_with fail
  go_ret
  exact ⟨rfl, S3.out.low⟩
set_option maxRecDepth 100000 in
set_option maxHeartbeats 1000000 in
theorem ca_s (v : Int) (h : Hd) (p q : Pk) (a b : Ad) (s : ByteArray) (w : World) (hp : PkAt w p a) (hq : PkAt w q b) (okp : PkOk p) (okq : PkOk q) (ht : Names w) (hm : s.size ≤ 9223372036854775807) (hl : lightK p = true) (hl2 : lightK q = true) (h60 : 60 < s.size) :
    Calls Tryd.prog 4 #[.int .i64 v, hdV h, pkV p a, pkV q b, .string s] w fun e w' => e = .returned (.bool true) ∧ Below w.heap.size w w' := by
  have S0 := Lib.hid (CaS.init (h := h) hp hq ht)
  clear ht
  have LP := Lib.hid (fun W (x : CaS w h p a q b W) => light_pk p a W x.pl okp)
  have LQ := Lib.hid (fun W (x : CaS w h p a q b W) => light_pk q b W x.ql okq)
  rw [hl] at LP
  rw [hl2] at LQ
  have hd : decide ((60 : Int) < (s.size : Int)) = true := decide_eq_true (by omega)
  clear hl hl2 h60
  unfold pkV at LP LQ
  unfold hdV pkV
  have EP := Lib.hid (show pkV p a = .agg (pkC p a) from rfl)
  have EQ := Lib.hid (show pkV q b = .agg (pkC q b) from rfl)
  go_enter Tryd.func4, Tryd.ntmps4
  go_wp2_with fail
  refine (lives_head _).mono ?_
  rintro e W1 ⟨rfl, hb⟩
  have S1 := Lib.hid (S0.out.call hb)
  clear hb
  go_wp2_with (refine wpList_load_row_g rfl _ _ rfl (w.heap.size + 1) rfl 35 _ (0, 0) _ S1.out.bp Tryd.underlying35 rfl info_pk ?_)
  refine (LP.out _ S1.out).mono ?_
  rintro e W2 ⟨rfl, hb⟩
  have S2 := Lib.hid (S1.out.call hb)
  clear hb
  go_wp2_with (refine wpList_load_row_g rfl _ _ rfl (w.heap.size + 2) rfl 35 _ (0, 0) _ S2.out.bq Tryd.underlying35 rfl info_pk ?_)
  refine (LQ.out _ S2.out).mono ?_
  rintro e W3 ⟨rfl, hb⟩
  have S3 := Lib.hid (S2.out.call hb)
  clear hb
  go_wp2_with fail
  go_ret
  exact ⟨rfl, S3.out.low⟩
set_option maxRecDepth 100000 in
set_option maxHeartbeats 1000000 in
theorem ca_main (v : Int) (h : Hd) (p q : Pk) (a b : Ad) (s : ByteArray) (w : World) (hp : PkAt w p a) (hq : PkAt w q b) (okp : PkOk p) (okq : PkOk q) (ht : Names w) (hm : s.size ≤ 9223372036854775807) (hl : lightK p = true) (hl2 : lightK q = true) (h60 : s.size ≤ 60) :
    Calls Tryd.prog 4 #[.int .i64 v, hdV h, pkV p a, pkV q b, .string s] w fun e w' => e = .returned (.bool true) ∧ Below w.heap.size w w' := by
  have S0 := Lib.hid (CaS.init (h := h) hp hq ht)
  clear ht
  have LP := Lib.hid (fun W (x : CaS w h p a q b W) => light_pk p a W x.pl okp)
  have LQ := Lib.hid (fun W (x : CaS w h p a q b W) => light_pk q b W x.ql okq)
  have sp := lightK_short hl
  have sq := lightK_short hl2
  have SP : Short p := by unfold Short; omega
  have SQ : Short q := by unfold Short; omega
  have FA := fun W => flags_any v (k := p.kind) (q := p.qos) (d := p.dup) (r := p.retain) (c := pkC p a) W rfl rfl rfl rfl rfl
  have FB := fun W => ref_flags7 v (k := p.kind) (q := p.qos) (d := p.dup) (r := p.retain) (c := pkC p a) W rfl rfl rfl rfl
  have BA := fun W => hd_bytes v h W
  have BB := fun W => ref_bytes7 v h W
  have RA := fun W => hd_read v s W hm
  have RB := fun W => ref_read7 v s W hm
  have CA := fun W => check_any v h W
  have CB := fun W => ref_check7 v h W
  have SA := fun W (x : CaS w h p a q b W) => hd_same p q a b W x.pl x.ql SP SQ
  have SB := fun W (x : CaS w h p a q b W) => ref_same7 p q a b W x.pl x.ql SP SQ
  have CO := fun W (x : CaS w h p a q b W) => hd_copy p a W x.pl okp (by omega) (by omega) (by omega) (by omega)
  have KS := fun W (c : Ad) (x : PkAt W p c) (y : PkAt W p a) => ksame_pk p c a W x y (by omega) (by omega) (by omega) (by omega)
  have NA := fun W (x : CaS w h p a q b W) => name_any h.kind W x.tab
  have NB := fun W => ref_name h.kind W
  have hd : decide ((60 : Int) < (s.size : Int)) = false := decide_eq_false (by omega)
  rw [hl] at LP
  rw [hl2] at LQ
  clear hl hl2 h60 sp sq SP SQ
  unfold FlRet at FA FB
  unfold BytRet at BA BB
  unfold HdRdRet HdRd at RA RB
  obtain ⟨⟨fl, fe⟩, hfl⟩ : ∃ x, flagsF v p.kind p.dup p.retain p.qos = x := ⟨_, rfl⟩
  rw [hfl] at FA FB
  obtain ⟨BY, hBY⟩ : ∃ x, bs (bytesH v h) = x := ⟨_, rfl⟩
  rw [hBY] at BA BB
  obtain ⟨ck, hck⟩ : ∃ x, checkH v h = x := ⟨_, rfl⟩
  rw [hck] at BA BB CA CB
  obtain ⟨⟨⟨x0, x1, x2⟩, rn, re⟩, hrd⟩ : ∃ x, readH v s.data.toList = x := ⟨_, rfl⟩
  rw [hrd] at RA RB
  obtain ⟨NM, hNM⟩ : ∃ x, bs (nameK h.kind) = x := ⟨_, rfl⟩
  rw [hNM] at NA NB
  obtain ⟨SM, hSM⟩ : ∃ x, decide (p = q) = x := ⟨_, rfl⟩
  rw [hSM] at SA SB
  clear hfl hBY hck hrd hNM hSM
  have hFA := Lib.hid FA
  have hFB := Lib.hid FB
  have hBA := Lib.hid BA
  have hBB := Lib.hid BB
  have hRA := Lib.hid RA
  have hRB := Lib.hid RB
  have hCA := Lib.hid CA
  have hCB := Lib.hid CB
  have hSA := Lib.hid SA
  have hSB := Lib.hid SB
  have hCO := Lib.hid CO
  have hKS := Lib.hid KS
  have hNA := Lib.hid NA
  have hNB := Lib.hid NB
  clear FA FB BA BB RA RB CA CB SA SB CO KS NA NB
  unfold hdV at hBA hBB hRA hRB hCA hCB
  unfold pkV at LP LQ hSA hSB
  unfold hdV pkV
  have EP := Lib.hid (show pkV p a = .agg (pkC p a) from rfl)
  have EQ := Lib.hid (show pkV q b = .agg (pkC q b) from rfl)
  go_enter Tryd.func4, Tryd.ntmps4
  go_wp2_with fail
  refine (lives_head _).mono ?_
  rintro e W1 ⟨rfl, hb⟩
  have S1 := Lib.hid (S0.out.call hb)
  clear hb
  go_wp2_with (refine wpList_load_row_g rfl _ _ rfl (w.heap.size + 1) rfl 35 _ (0, 0) _ S1.out.bp Tryd.underlying35 rfl info_pk ?_)
  refine (LP.out _ S1.out).mono ?_
  rintro e W2 ⟨rfl, hb⟩
  have S2 := Lib.hid (S1.out.call hb)
  clear hb
  go_wp2_with (refine wpList_load_row_g rfl _ _ rfl (w.heap.size + 2) rfl 35 _ (0, 0) _ S2.out.bq Tryd.underlying35 rfl info_pk ?_)
  refine (LQ.out _ S2.out).mono ?_
  rintro e W3 ⟨rfl, hb⟩
  have S3 := Lib.hid (S2.out.call hb)
  clear hb
  go_wp2_with (refine wpList_load_row_g rfl _ _ rfl (w.heap.size + 1) rfl 35 _ (0, 0) _ S3.out.bp Tryd.underlying35 rfl info_pk ?_)
  refine (hFA.out _).mono ?_
  rintro e W4 ⟨rfl, hb⟩
  have S4 := Lib.hid (S3.out.call hb)
  clear hb
  go_wp2_with (refine wpList_load_row_g rfl _ _ rfl (w.heap.size + 1) rfl 35 _ (0, 0) _ S4.out.bp Tryd.underlying35 rfl info_pk ?_)
  refine (hFB.out _).mono ?_
  rintro e W5 ⟨rfl, hb⟩
  have S5 := Lib.hid (S4.out.call hb)
  clear hb
  go_wp2_with (refine wpList_load_row_g rfl _ _ rfl w.heap.size rfl 26 _ (0, 0) _ S5.out.bh Tryd.underlying26 rfl info_hd ?_)
  refine (hBA.out _).mono ?_
  rintro e W6 ⟨rfl, hb⟩
  have S6 := Lib.hid (S5.out.call hb)
  clear hb
  go_wp2_with (refine wpList_load_row_g rfl _ _ rfl w.heap.size rfl 26 _ (0, 0) _ S6.out.bh Tryd.underlying26 rfl info_hd ?_)
  refine (hBB.out _).mono ?_
  rintro e W7 ⟨rfl, hb⟩
  have S7 := Lib.hid (S6.out.call hb)
  clear hb
  go_wp2_with fail
  refine (hRA.out _).mono ?_
  rintro e W8 ⟨rfl, hb⟩
  have S8 := Lib.hid (S7.out.call hb)
  clear hb
  have T8 := Lib.hid (S8.out.call (below_box (.cells #[.int .i64 x0, .int .i64 x1, .int .i64 x2] 26)))
  have Z8 := Lib.hid (heap_alloc_new W8 (.cells #[.int .i64 x0, .int .i64 x1, .int .i64 x2] 26))
  go_wp2_with fail
  refine (hRB.out _).mono ?_
  rintro e W9 ⟨rfl, hb⟩
  have S9 := Lib.hid (T8.out.call (hb.mono (by simp)))
  have Z9 := Lib.hid ((hb.block _ (by simp)).trans Z8.out)
  clear hb
  have hT : CaT w h p a q b W8.heap.size W9.heap.size x0 x1 x2 (W9.alloc (.cells #[.int .i64 x0, .int .i64 x1, .int .i64 x2] 26)).drew :=
    ⟨(S9.out.call (below_box _)).call (Below.refl _ _).drew, (heap_alloc_old _ _ (lt_of_block Z9.out)).trans Z9.out, heap_alloc_new _ _⟩
  have HT := Lib.hid hT
  have lz := lt_of_block Z9.out
  clear hT
  go_wp2_with fail
  refine ca_last (T := CaT w h p a q b W8.heap.size W9.heap.size x0 x1 x2) (p := p) (C := pkC p a) (E := pkC q b) (b6 := w.heap.size) (b7 := w.heap.size + 1) (b8 := w.heap.size + 2) HT.out (fun _ _ t hb => t.call hb) rfl rfl (fun _ t => t.s.bh) (fun _ t => cell_of_row _ _ 0 _ _ _ t.s.bh) (fun _ t => t.s.bp) (fun _ t => t.s.bq) (fun _ t => t.x1) (fun _ t => t.x2)
    (fun W t => (hCO.out W t.s).mono fun e w' ⟨a', he, hown, hb⟩ => ⟨a', he, hown.at_, hb⟩) (fun W a' t hl => hKS.out W a' hl t.s.pl)
    (fun W _ => hCA.out W) (fun W _ => hCB.out W) (fun W t => hSA.out W t.s) (fun W t => hSB.out W t.s) (fun W t => (hNA.out W t.s).mono fun e w' ⟨he, hw⟩ => ⟨he, by rw [← hw]; exact Below.refl _ _⟩) (fun W _ => hNB.out W) ?_
  intro v1 W hW
  have LW := Lib.hid hW.s.low
  clear hW
  go_wp2_with fail
  go_ret
  exact ⟨rfl, LW.out⟩
theorem calls_walk7 (v : Int) (h : Hd) (p q : Pk) (a b : Ad) (s : ByteArray) (w : World) (hp : PkAt w p a) (hq : PkAt w q b) (okp : PkOk p) (okq : PkOk q) (ht : Names w) (hm : s.size ≤ 9223372036854775807) :
    Calls Tryd.prog 4 #[.int .i64 v, hdV h, pkV p a, pkV q b, .string s] w fun e w' => e = .returned (.bool true) ∧ Below w.heap.size w w' := by
  cases hl : lightK p
  · exact ca_p v h p q a b s w hp hq okp okq ht hm hl
  cases hl2 : lightK q
  · exact ca_q v h p q a b s w hp hq okp okq ht hm hl hl2
  by_cases h60 : 60 < s.size
  · exact ca_s v h p q a b s w hp hq okp okq ht hm hl hl2 h60
  · exact ca_main v h p q a b s w hp hq okp okq ht hm hl hl2 (by omega)
end Go.Proofs.YtnmdbbkcbedklaaDoor
