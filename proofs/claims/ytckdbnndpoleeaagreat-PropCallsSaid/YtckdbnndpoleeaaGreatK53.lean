/-
  The walk of polyglotlaw05.PropCalls. Condition: strings no longer than memory allows.
  The walk of polyglotlaw05.PropCalls, whatever comes in. Condition: strings no longer than memory allows.
-/
import Derived.Test.YtckdbnndpoleeaaGreatK31
import Derived.Test.YtckdbnndpoleeaaGreatK48
import Derived.Test.YtckdbnndpoleeaaGreatK52
import Derived.Test.YtckdbnndpoleeaaGreatK32
import Derived.Test.YtckdbnndpoleeaaGreatK33
import Derived.Test.YtckdbnndpoleeaaGreatK50
namespace Go.Proofs.YtckdbnndpoleeaaGreat
open Go.RowKit

theorem light_text {l : List Pr} (h : lightP l = true) : l.length ≤ 1010 ∧ ∀ p ∈ l, p.text.length ≤ 200000 := by
  unfold lightP at h
  simp only [Bool.and_eq_true, decide_eq_true_eq] at h
  refine ⟨h.1, ?_⟩
  have aux : ∀ (m : List Pr), ∀ p ∈ m, p.text.length ≤ weightP m := by
    intro m
    induction m with
    | nil => intro p hp; cases hp
    | cons q m ih =>
      intro p hp
      have e : weightP (q :: m) = q.text.length + q.value.length + weightP m := by simp [weightP]
      rcases List.mem_cons.1 hp with rfl | hp
      · omega
      · have := ih p hp; omega
  intro p hp
  have := aux l p hp
  omega
/-- What the law's last region keeps: the blocks and the lists, -/
def CaF (w : World) (p q : Pr) (g1 g2 : Nat) (A3 A4 : Option Addr) (L : List Pr) (W : World) : Prop :=
  Below w.heap.size w W ∧ W.heap[w.heap.size]? = some (.cells #[.int .i64 p.id, .int .u32 p.n, .string (bs p.text), .string (bs p.value)] 24 (0, 0))
    ∧ W.heap[g1]? = some (.cells #[.int .i64 q.id, .int .u32 q.n, .string (bs q.text), .string (bs q.value)] 24 (0, 0))
    ∧ W.heap[g2]? = some (.cells #[.int .i64 q.id, .int .u32 q.n, .string (bs q.text), .string (bs q.value)] 24 (0, 0))
    ∧ PL W A3 L ∧ PL W A4 L
/-- and their cells. -/
def CaS (w : World) (p q : Pr) (g1 g2 : Nat) (A3 A4 : Option Addr) (L : List Pr) (W : World) : Prop :=
  W.cell? ⟨w.heap.size, 0, none⟩ = some (.int .i64 p.id) ∧ W.cell? ⟨w.heap.size, 1, none⟩ = some (.int .u32 p.n) ∧ W.cell? ⟨w.heap.size, 2, none⟩ = some (.string (bs p.text)) ∧ W.cell? ⟨w.heap.size, 3, none⟩ = some (.string (bs p.value)) ∧ W.cell? ⟨g1, 0, none⟩ = some (.int .i64 q.id) ∧ W.cell? ⟨g1, 1, none⟩ = some (.int .u32 q.n) ∧ W.cell? ⟨g1, 2, none⟩ = some (.string (bs q.text)) ∧ W.cell? ⟨g1, 3, none⟩ = some (.string (bs q.value)) ∧ W.cell? ⟨g2, 0, none⟩ = some (.int .i64 q.id) ∧ W.cell? ⟨g2, 1, none⟩ = some (.int .u32 q.n) ∧ W.cell? ⟨g2, 2, none⟩ = some (.string (bs q.text)) ∧ W.cell? ⟨g2, 3, none⟩ = some (.string (bs q.value)) ∧ CaF w p q g1 g2 A3 A4 L W
section
variable {w W W' : World} {p q : Pr} {g1 g2 : Nat} {A3 A4 : Option Addr} {L : List Pr}
theorem CaS.of (h : CaF w p q g1 g2 A3 A4 L W) : CaS w p q g1 g2 A3 A4 L W :=
  ⟨cell_of_row _ _ 0 _ _ _ h.2.1, cell_of_row _ _ 1 _ _ _ h.2.1, cell_of_row _ _ 2 _ _ _ h.2.1, cell_of_row _ _ 3 _ _ _ h.2.1, cell_of_row _ _ 0 _ _ _ h.2.2.1, cell_of_row _ _ 1 _ _ _ h.2.2.1, cell_of_row _ _ 2 _ _ _ h.2.2.1, cell_of_row _ _ 3 _ _ _ h.2.2.1, cell_of_row _ _ 0 _ _ _ h.2.2.2.1, cell_of_row _ _ 1 _ _ _ h.2.2.2.1, cell_of_row _ _ 2 _ _ _ h.2.2.2.1, cell_of_row _ _ 3 _ _ _ h.2.2.2.1, h⟩
theorem CaS.fr (h : CaS w p q g1 g2 A3 A4 L W) : CaF w p q g1 g2 A3 A4 L W := h.2.2.2.2.2.2.2.2.2.2.2.2
theorem CaS.mk (hb : Below w.heap.size w W) (hp : W.heap[w.heap.size]? = some (.cells #[.int .i64 p.id, .int .u32 p.n, .string (bs p.text), .string (bs p.value)] 24 (0, 0)))
    (h1 : W.heap[g1]? = some (.cells #[.int .i64 q.id, .int .u32 q.n, .string (bs q.text), .string (bs q.value)] 24 (0, 0)))
    (h2 : W.heap[g2]? = some (.cells #[.int .i64 q.id, .int .u32 q.n, .string (bs q.text), .string (bs q.value)] 24 (0, 0))) (hc : PL W A3 L) (hh : PL W A4 L) : CaS w p q g1 g2 A3 A4 L W :=
  CaS.of ⟨hb, hp, h1, h2, hc, hh⟩
theorem CaS.low (h : CaS w p q g1 g2 A3 A4 L W) : Below w.heap.size w W := h.fr.1
theorem CaS.pc (h : CaS w p q g1 g2 A3 A4 L W) : PL W A3 L := h.fr.2.2.2.2.1
theorem CaS.ph (h : CaS w p q g1 g2 A3 A4 L W) : PL W A4 L := h.fr.2.2.2.2.2
theorem CaS.call (h : CaS w p q g1 g2 A3 A4 L W) (hb : Below W.heap.size W W') : CaS w p q g1 g2 A3 A4 L W' :=
  CaS.mk (h.low.trans (hb.mono h.low.size)) ((hb.block _ (lt_of_block h.fr.2.1)).trans h.fr.2.1) ((hb.block _ (lt_of_block h.fr.2.2.1)).trans h.fr.2.2.1) ((hb.block _ (lt_of_block h.fr.2.2.2.1)).trans h.fr.2.2.2.1) (h.pc.below hb) (h.ph.below hb)
theorem CaS.drawn {m : Nat} (h : CaS w p q g1 g2 A3 A4 L W) (hm : W' = W.drewN m) : CaS w p q g1 g2 A3 A4 L W' := by
  subst hm
  exact h.call (below_draws (Below.refl _ _) m)
end
section
variable (kind id : Int) (p : Pr) (A : Option Addr) (n c : Nat) (l : List Pr) (s : ByteArray) (w : World) (k0 : -9223372036854775808 ≤ kind) (k1 : kind ≤ 9223372036854775807) (i0 : -9223372036854775808 ≤ id) (i1 : id ≤ 9223372036854775807) (okp : PrOk p) (hp1 : p.text.length ≤ 140737488351232) (hp2 : p.value.length ≤ 140737488351232)
  (hl : PL w A l) (hn : l.length = n) (hc : n ≤ c) (hcm : c ≤ 9223372036854775807) (ok : ∀ p ∈ l, PrOk p) (hm : ∀ p ∈ l, p.text.length ≤ 140737488351232 ∧ p.value.length ≤ 140737488351232)
include k0 k1 i0 i1 okp hl hn hc hcm ok hm hp1 hp2
set_option maxRecDepth 100000 in
set_option maxHeartbeats 4000000 in
theorem calls_main (h : lightP l = true) (h2 : lightP [p] = true) (h3 : ¬ (2000 : Int) < (s.size : Int)) :
    Calls Tryz.prog 3 #[.int .i64 kind, .int .i64 id, propV p, .slice A n c, .string s] w fun e w' => e = .returned (.bool true) ∧ Below w.heap.size w w' := by
  obtain ⟨hn10, htx⟩ := light_text h
  have htp := (light_text h2).2 p (List.mem_singleton.2 rfl)
  rw [hn] at hn10
  have LT := fun W (hb : Below w.heap.size w W) => light_any A n c l W (hl.below hb) hn hm
  rw [h] at LT
  have LP := fun (W : World) => light_any (some ⟨W.heap.size, 0, none⟩) 1 1 [p] (W.alloc (.cells #[.int .i64 p.id, .int .u32 p.n, .string (bs p.text), .string (bs p.value)] 24)) (PL.made W [p] _ _ rfl) rfl (fun q hq => by rw [List.mem_singleton.1 hq]; exact ⟨hp1, hp2⟩)
  rw [h2] at LP
  have OW := Lib.hid (fun W (hb : Below w.heap.size w W) => own_props A n c l W (hl.below hb) hn (by omega))
  have BA := fun W A' c' (hP : PL W A' l) (hcc : n ≤ c') => bytes_list kind A' n c' l W k0 k1 hP hn hcc ok
  have RB := Lib.hid (fun W (hb : Below w.heap.size w W) => ref_bytes_list kind A n c l W (hl.below hb) hn hc hcm hn10 htx)
  have RD := Lib.hid (fun W => prop_read_any kind s W k0 k1 (by omega))
  have RR := Lib.hid (fun W => ref_read_all kind s W (by omega) k0 k1)
  have GT := Lib.hid (fun W (hb : Below w.heap.size w W) => get_list A n c l id W (hl.below hb) hn (by omega))
  have RG := Lib.hid (fun W (hb : Below w.heap.size w W) => ref_get_list A n c l id W (hl.below hb) hn (by omega))
  have SH := Lib.hid (fun W => shape_any id W i0 i1)
  have RS := Lib.hid (fun W => ref_shape id W)
  have MY := Lib.hid (fun W => mayf_any kind id W i0 i1 k0 k1)
  have RM := Lib.hid (fun W => ref_may kind id W)
  have MN := Lib.hid (fun W => many_any kind id W i0 i1 k0 k1)
  have RN := Lib.hid (fun W => ref_many kind id W)
  have CK := Lib.hid (fun W => checkf_any kind p W k0 k1 okp)
  have RC := Lib.hid (fun W => ref_check kind p W htp)
  have VL := Lib.hid (fun W (hb : Below w.heap.size w W) => valid_list kind A n c l W k0 k1 (hl.below hb) hn hc ok)
  have RV := Lib.hid (fun W (hb : Below w.heap.size w W) => ref_valid_list kind A n c l W (hl.below hb) hn hc hcm hn10 htx)
  have HL := Lib.hid (fun W (hb : Below w.heap.size w W) => hl.below hb)
  have HN := Lib.hid hn
  have LT := Lib.hid LT
  have LP := Lib.hid LP
  have BA := Lib.hid BA
  have H10 := Lib.hid hn10
  clear k0 k1 i0 i1 okp hl hn hc hcm ok hm hp1 hp2 h h2 hn10 htx htp
  have PB := Lib.hid (heap_alloc_new w (.cells #[.int .i64 p.id, .int .u32 p.n, .string (bs p.text), .string (bs p.value)] 24))
  have BW := Lib.hid (show Below w.heap.size w (w.alloc (.cells #[.int .i64 p.id, .int .u32 p.n, .string (bs p.text), .string (bs p.value)] 24)) from (Below.refl _ _).alloc (Nat.le_refl _) _)
  unfold propV at CK RC ⊢
  go_enter Tryz.func3, Tryz.ntmps3
  go_wp2_with fail
  generalize hw0 : w.alloc (.cells #[.int .i64 p.id, .int .u32 p.n, .string (bs p.text), .string (bs p.value)] 24) = w0 at *
  refine (lives_prop w0).mono ?_
  rintro e w1 ⟨rfl, hb⟩
  have PB := Lib.hid ((hb.block _ (lt_of_block PB.out)).trans PB.out)
  have BW := Lib.hid (BW.out.trans (hb.mono BW.out.size))
  clear hb hw0
  go_wp2_with fail
  refine (LT.out _ BW.out).mono ?_
  rintro e w2 ⟨rfl, m, rfl⟩
  have c0 := cell_of_row _ w.heap.size 0 _ _ _ PB.out
  have c1 := cell_of_row _ w.heap.size 1 _ _ _ PB.out
  have c2 := cell_of_row _ w.heap.size 2 _ _ _ PB.out
  have c3 := cell_of_row _ w.heap.size 3 _ _ _ PB.out
  clear LT
  go_wp2_with fail
  clear c0 c1 c2 c3
  refine (LP.out _).mono ?_
  rintro e w2 ⟨rfl, m2, rfl⟩
  have PB0 := Lib.hid ((heap_alloc_old (w1.drewN m) (.cells #[.int .i64 p.id, .int .u32 p.n, .string (bs p.text), .string (bs p.value)] 24) (lt_of_block (w := w1) PB.out)).trans PB.out)
  have BW0 := Lib.hid (below_draws ((below_draws BW.out m).alloc BW.out.size (.cells #[.int .i64 p.id, .int .u32 p.n, .string (bs p.text), .string (bs p.value)] 24)) m2)
  clear LP
  go_wp2_with fail
  refine (OW.out _ BW0.out).mono ?_
  rintro e w3 ⟨v3, rfl, ho, hb⟩
  obtain ⟨A2, cc2, rfl, hcc2, hP2, _⟩ := PL.owned ho HN.out.symm
  have BA1 := Lib.hid (BA.out w3 A2 cc2 hP2 hcc2)
  have BW := Lib.hid (BW0.out.trans (hb.mono BW0.out.size))
  have PB := Lib.hid ((hb.block _ (lt_of_block (w := (w1.drewN m).alloc (.cells #[.int .i64 p.id, .int .u32 p.n, .string (bs p.text), .string (bs p.value)] 24)) PB0.out)).trans PB0.out)
  clear ho hb hP2 hcc2 BA OW PB0 BW0
  go_wp2_with fail
  refine (BA1.out).mono ?_
  rintro e w4 ⟨rfl, hb⟩
  have PB := Lib.hid ((hb.block _ (lt_of_block PB.out)).trans PB.out)
  have BW := Lib.hid (BW.out.trans (hb.mono BW.out.size))
  clear hb BA1
  go_wp2_with fail
  refine (RB.out _ BW.out).mono ?_
  rintro e w5 ⟨rfl, hb⟩
  have PB := Lib.hid ((hb.block _ (lt_of_block PB.out)).trans PB.out)
  have BW := Lib.hid (BW.out.trans (hb.mono BW.out.size))
  clear hb RB
  generalize bs (bytesP kind l).1 = x1 at *
  generalize (bytesP kind l).2 = E1 at *
  obtain ⟨⟨L, D, E⟩, hQ⟩ : ∃ Q, readP kind s.data.toList = Q := ⟨_, rfl⟩
  rw [hQ] at RD RR
  obtain ⟨nl, hnl⟩ : ∃ k, L.length = k := ⟨_, rfl⟩
  clear hQ
  go_wp2_with fail
  refine (RD.out _).mono ?_
  rintro e w6 ⟨hb, _, hn10, v, rfl, ho⟩
  obtain ⟨A3, c3, rfl, _, hC, _⟩ := PL.owned ho rfl
  have N10 := Lib.hid hn10
  have BW := Lib.hid (BW.out.trans (hb.mono BW.out.size))
  have PB := Lib.hid ((hb.block _ (lt_of_block PB.out)).trans PB.out)
  have HC := Lib.hid hC
  clear hb ho hn10 hC RD
  go_wp2_with fail
  refine (RR.out _).mono ?_
  rintro e w7 ⟨hb, _, _, v, rfl, ho⟩
  obtain ⟨A4, c4, rfl, _, hC, _⟩ := PL.owned ho rfl
  have BW := Lib.hid (BW.out.trans (hb.mono BW.out.size))
  have PB := Lib.hid ((hb.block _ (lt_of_block PB.out)).trans PB.out)
  have HH := Lib.hid hC
  have HC := Lib.hid (HC.out.below hb)
  clear hb ho hC RR
  dsimp only at *
  rw [hnl]
  have N10 := Lib.hid (show nl ≤ 1000 by rw [← hnl]; exact N10.out)
  generalize ((D : Nat) : Int) = D1 at *
  generalize ((E : Nat) : Int) = E2 at *
  go_wp2_with fail
  refine (GT.out _ BW.out).mono ?_
  rintro e w8 ⟨rfl, hb⟩
  have BW := Lib.hid (BW.out.trans (hb.mono BW.out.size))
  have PB := Lib.hid ((hb.block _ (lt_of_block PB.out)).trans PB.out)
  have HH := Lib.hid (HH.out.below hb)
  have HC := Lib.hid (HC.out.below hb)
  clear hb GT
  generalize getP l id = G at *
  obtain ⟨q, isq⟩ := G
  unfold propV at *
  dsimp only at *
  go_wp2_with fail
  have MB := Lib.hid (heap_alloc_new w8 (.cells #[.int .i64 q.id, .int .u32 q.n, .string (bs q.text), .string (bs q.value)] 24))
  have PB := Lib.hid ((heap_alloc_old w8 (.cells #[.int .i64 q.id, .int .u32 q.n, .string (bs q.text), .string (bs q.value)] 24) (lt_of_block PB.out)).trans PB.out)
  have BW := Lib.hid (BW.out.alloc BW.out.size (.cells #[.int .i64 q.id, .int .u32 q.n, .string (bs q.text), .string (bs q.value)] 24))
  have hb : Below w8.heap.size w8 (w8.alloc (.cells #[.int .i64 q.id, .int .u32 q.n, .string (bs q.text), .string (bs q.value)] 24)) := (Below.refl _ _).alloc (Nat.le_refl _) _
  have HH := Lib.hid (HH.out.below hb)
  have HC := Lib.hid (HC.out.below hb)
  clear hb
  generalize w8.alloc (.cells #[.int .i64 q.id, .int .u32 q.n, .string (bs q.text), .string (bs q.value)] 24) = w9 at *
  generalize w8.heap.size = g1 at *
  refine (RG.out _ BW.out).mono ?_
  rintro e w10 ⟨rfl, hb⟩
  have BW := Lib.hid (BW.out.trans (hb.mono BW.out.size))
  have PB := Lib.hid ((hb.block _ (lt_of_block PB.out)).trans PB.out)
  have MB := Lib.hid ((hb.block _ (lt_of_block MB.out)).trans MB.out)
  have HH := Lib.hid (HH.out.below hb)
  have HC := Lib.hid (HC.out.below hb)
  clear hb RG
  go_wp2_with fail
  have NB := Lib.hid (heap_alloc_new w10 (.cells #[.int .i64 q.id, .int .u32 q.n, .string (bs q.text), .string (bs q.value)] 24))
  have PB := Lib.hid ((heap_alloc_old w10 (.cells #[.int .i64 q.id, .int .u32 q.n, .string (bs q.text), .string (bs q.value)] 24) (lt_of_block PB.out)).trans PB.out)
  have MB := Lib.hid ((heap_alloc_old w10 (.cells #[.int .i64 q.id, .int .u32 q.n, .string (bs q.text), .string (bs q.value)] 24) (lt_of_block MB.out)).trans MB.out)
  have BW := Lib.hid (BW.out.alloc BW.out.size (.cells #[.int .i64 q.id, .int .u32 q.n, .string (bs q.text), .string (bs q.value)] 24))
  have hb : Below w10.heap.size w10 (w10.alloc (.cells #[.int .i64 q.id, .int .u32 q.n, .string (bs q.text), .string (bs q.value)] 24)) := (Below.refl _ _).alloc (Nat.le_refl _) _
  have HH := Lib.hid (HH.out.below hb)
  have HC := Lib.hid (HC.out.below hb)
  clear hb
  generalize w10.alloc (.cells #[.int .i64 q.id, .int .u32 q.n, .string (bs q.text), .string (bs q.value)] 24) = w11 at *
  generalize w10.heap.size = g2 at *
  have hS : CaS w p q g1 g2 A3 A4 L w11.drew := (CaS.mk BW.out PB.out MB.out NB.out HC.out HH.out).call (Below.refl _ _).drew
  have KS := Lib.hid (fun W (h : CaS w p q g1 g2 A3 A4 L W) => ksame_props A3 A4 nl c3 c4 L W h.pc h.ph hnl (by have := N10.out; omega))
  have PS := Lib.hid (fun W (h : CaS w p q g1 g2 A3 A4 L W) => psame_props A3 A4 nl c3 c4 L W h.pc h.ph hnl (by have := N10.out; omega))
  have PE := Lib.hid (fun W (h : CaS w p q g1 g2 A3 A4 L W) => psame_lists A A3 n nl c c3 l L W (HL.out W h.low) h.pc HN.out hnl (by have := H10.out; omega) (by have := N10.out; omega))
  have RE := Lib.hid (fun W (h : CaS w p q g1 g2 A3 A4 L W) => rsame_lists A A3 n nl c c3 l L W (HL.out W h.low) h.pc HN.out hnl (by have := H10.out; omega) (by have := N10.out; omega))
  clear BW PB MB NB HC HH
  generalize ((shapeP id : Nat) : Int) = z0 at *
  generalize mayP kind id = b1 at *
  generalize manyP kind id = b2 at *
  generalize ((checkP kind p : Nat) : Int) = z1 at *
  generalize ((validP kind l : Nat) : Int) = z2 at *
  generalize decide (l = L) = b3 at *
  have SH := Lib.hid SH.out
  clear HL HN H10 N10 hnl
  refine pc_last (S := fun W => CaS w p q g1 g2 A3 A4 L W) hS (fun W h => ⟨h.1, h.2.1, h.2.2.1, h.2.2.2.1⟩) (fun W h => ⟨h.2.2.2.2.1, h.2.2.2.2.2.1, h.2.2.2.2.2.2.1, h.2.2.2.2.2.2.2.1⟩) (fun W h => ⟨h.2.2.2.2.2.2.2.2.1, h.2.2.2.2.2.2.2.2.2.1, h.2.2.2.2.2.2.2.2.2.2.1, h.2.2.2.2.2.2.2.2.2.2.2.1⟩)
    (fun W h => (SH.out W).mono fun _ _ h' => ⟨h'.1, h.call h'.2⟩) (fun W h => (RS.out W).mono fun _ _ h' => ⟨h'.1, h.call h'.2⟩)
    (fun W h => (MY.out W).mono fun _ _ h' => ⟨h'.1, h.call h'.2⟩) (fun W h => (RM.out W).mono fun _ _ h' => ⟨h'.1, h.call h'.2⟩)
    (fun W h => (MN.out W).mono fun _ _ h' => ⟨h'.1, h.call h'.2⟩) (fun W h => (RN.out W).mono fun _ _ h' => ⟨h'.1, h.call h'.2⟩)
    (fun W h => (CK.out W).mono fun _ _ h' => ⟨h'.1, h.call h'.2⟩) (fun W h => (RC.out W).mono fun _ _ h' => ⟨h'.1, h.call h'.2⟩)
    (fun W h => (VL.out W h.low).mono fun _ _ h' => ⟨h'.1, h.call h'.2⟩) (fun W h => (RV.out W h.low).mono fun _ _ h' => ⟨h'.1, h.call h'.2⟩)
    (fun W h => (KS.out W h).mono fun _ _ ⟨e, _, hm⟩ => ⟨e, h.drawn hm⟩) (fun W h => (PE.out W h).mono fun _ _ ⟨e, _, hm⟩ => ⟨e, h.drawn hm⟩)
    (fun W h => (RE.out W h).mono fun _ _ ⟨e, _, hm⟩ => ⟨e, h.drawn hm⟩) (fun W h => (PS.out W h).mono fun _ _ ⟨e, _, hm⟩ => ⟨e, h.drawn hm⟩) ?_
  intro W hW
  have hB := Lib.hid hW.low
  clear hW hS SH RS MY RM MN RN CK RC VL RV KS PE RE PS
  go_wp2_with fail
  go_ret
  exact ⟨rfl, hB.out⟩
end
end Go.Proofs.YtckdbnndpoleeaaGreat
namespace Go.Proofs.YtckdbnndpoleeaaGreat
open Go.RowKit

theorem calls_walk (kind id : Int) (p : Pr) (A : Option Addr) (n c : Nat) (l : List Pr) (s : ByteArray) (w : World) (k0 : -9223372036854775808 ≤ kind) (k1 : kind ≤ 9223372036854775807) (i0 : -9223372036854775808 ≤ id) (i1 : id ≤ 9223372036854775807) (okp : PrOk p) (hp1 : p.text.length ≤ 140737488351232) (hp2 : p.value.length ≤ 140737488351232)
    (hl : PL w A l) (hn : l.length = n) (hc : n ≤ c) (hcm : c ≤ 9223372036854775807) (ok : ∀ p ∈ l, PrOk p) (hm : ∀ p ∈ l, p.text.length ≤ 140737488351232 ∧ p.value.length ≤ 140737488351232) :
    Calls Tryz.prog 3 #[.int .i64 kind, .int .i64 id, propV p, .slice A n c, .string s] w fun e w' => e = .returned (.bool true) ∧ Below w.heap.size w w' := by
  by_cases h : lightP l = true
  · by_cases h2 : lightP [p] = true
    · by_cases h3 : (2000 : Int) < (s.size : Int)
      · exact calls_far kind id p A n c l s w hp1 hp2 hl hn hm h (.inr ⟨h2, h3⟩)
      · exact calls_main kind id p A n c l s w k0 k1 i0 i1 okp hp1 hp2 hl hn hc hcm ok hm h h2 h3
    · exact calls_far kind id p A n c l s w hp1 hp2 hl hn hm h (.inl (by simpa using h2))
  · exact calls_dark kind id p A n c l s w hl hn hm (by simpa using h)
end Go.Proofs.YtckdbnndpoleeaaGreat
