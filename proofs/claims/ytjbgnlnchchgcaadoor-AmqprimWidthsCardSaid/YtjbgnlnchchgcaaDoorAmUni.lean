/-
  The contract of amqprim.unicodeText: UTF-8, zero characters allowed. Condition: the string is no longer than an int says.
-/
import Derived.Test.YtjbgnlnchchgcaaDoorUsBadA
import Derived.Test.YtjbgnlnchchgcaaDoorAmIter
namespace Go.Proofs.YtjbgnlnchchgcaaDoor
open Go.RowKit

attribute [local go_sem] Oper.semAt_some

/-- What stands while the parts are gone through: none so far is bad; the result's box. -/
structure UnS (w : World) (W : World) : Prop where
  cell : W.cell? ⟨w.heap.size, 0, none⟩ = some (.bool false)
  froz : W.frozen? ⟨w.heap.size, 0, none⟩ = false
  low : Below w.heap.size w W
theorem UnS.grown {w W W' : World} {row : Option Nat} (h : UnS w W) (hg : W.grownBy W' row) (hr : ∀ r, row = some r → w.heap.size + 1 ≤ r) : UnS w W' := by
  have hlt : w.heap.size < W.heap.size := by
    have := h.cell
    unfold World.cell? at this
    cases hb : W.heap[w.heap.size]? with
    | none => simp [hb] at this
    | some o => exact (Array.getElem?_eq_some_iff.1 hb).1
  have hb : W'.heap[w.heap.size]? = W.heap[w.heap.size]? := hg.block _ hlt fun e => by have := hr _ e.symm; omega
  exact ⟨(World.cell?_of_block (a := ⟨w.heap.size, 0, none⟩) hb).trans h.cell, by rw [← h.froz]; unfold World.frozen?; simp only [hb], h.low.grown hg h.low.size fun j hj => by have := hr j hj; omega⟩
theorem UnS.own {w W4 : World} (h4 : W4.heap.size = w.heap.size + 4) (Pr : List (List UInt8) → Prop) : OwB (w.heap.size + 1) W4.heap.size (fun pre W => Pr pre ∧ UnS w W) := fun s W W' row hs hg hr =>
  ⟨hs.1, hs.2.grown hg fun r e => by rcases hr r e with h | ⟨h, -⟩ <;> omega⟩
theorem un_start (s : ByteArray) (w : World) : ∃ W4, W4 = (((w.alloc (.cells #[.bool false] 4)).alloc (.cells #[.string s] 9)).alloc (.cells #[.string ⟨#[0]⟩] 9)).alloc (.cells #[.int .i64 0] 3) ∧
    W4.heap.size = w.heap.size + 4 ∧ Boxes W4 (w.heap.size + 1) s ∧ UnS w W4 := by
  have o : ∀ {W : World} {k : Nat} {x y : Obj}, W.heap[k]? = some x → (W.alloc y).heap[k]? = some x := fun h => (Below.heap_alloc _ _ _ (lt_of_block h)).trans h
  have n : ∀ {W : World} {k : Nat} {x : Obj}, W.heap.size = k → (W.alloc x).heap[k]? = some x := fun h => h ▸ World.alloc_heap_new _ _
  have r : ((((w.alloc (.cells #[.bool false] 4)).alloc (.cells #[.string s] 9)).alloc (.cells #[.string ⟨#[0]⟩] 9)).alloc (.cells #[.int .i64 0] 3)).heap[w.heap.size]? = some (.cells #[.bool false] 4 (0, 0)) := o (o (o (n rfl)))
  exact ⟨_, rfl, by simp, ⟨o (o (n (by simp))), o (n (by simp)), n (by simp)⟩, ⟨cell_of_row _ _ 0 _ _ _ r, by simp [World.frozen?, r],
    (((((Below.refl _ w).alloc (Nat.le_refl _) _).alloc (by simp) _).alloc (by simp; omega) _).alloc (by simp; omega) _)⟩⟩
theorem UnS.set {w W : World} (h : UnS w W) : UnS w (W.setCell ⟨w.heap.size, 0, none⟩ (.bool false)) :=
  ⟨World.cell?_setCell_same' _ _ _ (by rw [h.cell]; rfl), by rw [World.frozen?_setCell]; exact h.froz, h.low.setCell (p := ⟨w.heap.size, 0, none⟩) (Nat.le_refl _) _⟩
theorem UnS.call {w W W' : World} (h : UnS w W) (hb : Below W.heap.size W W') : UnS w W' := h.grown (row := none) ⟨hb.os, hb.tape, hb.output, hb.size, fun k hk _ => hb.block k hk⟩ fun r e => by cases e
theorem keeps_below {B : Nat} {W W' : World} (hb : Below W.heap.size W W') : KeepsFrom B W W' := ⟨hb.size, fun _ _ _ hk _ => (hb.block _ (lt_of_block hk)).trans hk⟩
theorem keeps_set {B j : Nat} {W : World} (v : Value) (h : j < B) : KeepsFrom B W (W.setCell ⟨j, 0, none⟩ v) := ⟨by simp [World.setCell], fun k _ hB hk _ => (Below.heap_setCell W ⟨j, 0, none⟩ v k (by simp; omega)).trans hk⟩
theorem kpZ_below {b : Nat} {W W' : World} (hb : Below W.heap.size W W') : KpZ b W W' := fun _ _ _ _ h => (hb.block _ (lt_of_block h)).trans h
set_option maxRecDepth 100000 in
set_option maxHeartbeats 2000000 in
theorem uni_any (s : ByteArray) (w : World) (hs : s.size ≤ 9223372036854775807) :
    Calls Tryd.prog 59 #[.string s] w fun e w' => e = .returned (.bool (goodU s.data.toList)) ∧ Below w.heap.size w w' := by
  obtain ⟨W4, hW4, h4, hB4, hU4⟩ := un_start s w
  refine (callsIn_wide (n := 9)).1 ?_
  refine callsIn_of_wp_marks Tryd.func59 rfl trivial ?_ rfl
  simp only [Tryd.ntmps59, List.size_toArray, List.length_cons, List.length_nil, Nat.reduceAdd, Nat.reduceSub, Array.replicate_succ, Array.replicate_zero, List.push_toArray, List.append_toArray, List.nil_append, List.cons_append]
  gi_wp2_with (refine ⟨trivial, ?_⟩; gi_at_call 73; refine (callsIn_wide.2 (split_any s _)).mono ?_; rintro e w' ⟨rfl, rfl⟩)
  rw [← hW4]
  clear hW4
  refine wpIn_rangeBox rfl (by omega) (gf := 85) (lb := #[.pointer (some ⟨w.heap.size + 1 + 1, 0, none⟩), .pointer (some ⟨w.heap.size + 1, 0, none⟩), .pointer (some ⟨w.heap.size + 1 + 2, 0, none⟩)]) rfl trivial (enters_of Tryd.func85 (by kernel_rfl) rfl)
    (Bs := w.heap.size + 1) (by omega) (spl_seq _ (by omega) (w.heap.size + 1) s hs W4 hB4) kpZ_t (kpZ_b (by omega)) (fun _ => rfl)
    (fun pre W => (∀ p ∈ pre, badOf p < 0) ∧ UnS w W) (fun pre W => (∃ p ∈ pre, ¬ badOf p < 0) ∧ UnS w W) (UnS.own h4 _) (UnS.own h4 _) ⟨(fun p h => nomatch h), hU4⟩
    (fun x => { tmps := #[.string s, undef, .pointer (some ⟨w.heap.size, 0, none⟩), .string (bs x), .string s, .func (.func 85) #[] #[.pointer (some ⟨w.heap.size + 1 + 1, 0, none⟩), .pointer (some ⟨w.heap.size + 1, 0, none⟩), .pointer (some ⟨w.heap.size + 1 + 2, 0, none⟩)], .string (bs x), undef, undef, undef], defers := [] }) ?assign ?body ?done ?stop
  case assign =>
    intro l x W K hK
    dsimp only [encZ]
    gi_wp2
    exact hK
  case body =>
    rintro l pre x W hx ⟨hp, hU⟩
    have hb := bad_any (bs x) W (by unfold OkZ at hx; simpa [bs, ByteArray.size] using hx)
    rw [show (bs x).data.toList = x from rfl] at hb
    have HB := Lib.hid hb
    have HU := Lib.hid hU
    have HP := Lib.hid hp
    obtain ⟨z, hz⟩ : ∃ z, badOf x = z := ⟨_, rfl⟩
    rw [hz] at HB
    by_cases h0 : z < 0
    · have HZ := Lib.hid (show ∀ p ∈ pre ++ [x], badOf p < 0 from fun p hm => by
        rcases List.mem_append.1 hm with h | h
        · exact HP.out p h
        · rw [List.mem_singleton.1 h, hz]; exact h0)
      clear hz hb hU hp
      gi_wp2_with (refine ⟨trivial, ?_⟩; gi_at_call 74; refine (CallsIn.inRound l (callsIn_wide.2 HB.out)).mono ?_; rintro e w' ⟨rfl, hbl⟩)
      exact ⟨keeps_below hbl, kpZ_below hbl, HZ.out, HU.out.call hbl⟩
    · have HZ := Lib.hid (show ∃ p, p ∈ pre ++ [x] ∧ ¬ badOf p < 0 from ⟨x, by simp, by rw [hz]; exact h0⟩)
      clear hz hb hU hp
      gi_wp2_with (refine ⟨trivial, ?_⟩; gi_at_call 74; refine (CallsIn.inRound l (callsIn_wide.2 HB.out)).mono ?_; rintro e w' ⟨rfl, hbl⟩; have HW := Lib.hid (HU.out.call hbl); have c0 := HW.out.cell; have f0 := HW.out.froz)
      exact ⟨(keeps_below hbl).trans (keeps_set _ (by omega)), HZ.out, HW.out.set⟩
  case done =>
    rintro D ys W hD hys ⟨hp, hU⟩ hK
    have hG : goodU s.data.toList = true := by
      rw [good_parts _ _ (Nat.le_refl _), List.all_eq_true]
      exact fun p hm => by simpa using hp p (hys ▸ hm)
    have c0 := hU.cell
    have f0 := hU.froz
    have HU := Lib.hid hU
    clear hU hp hys
    have HG := Lib.hid hG
    clear hG
    gi_wp2
    have hK1 : (W.setCell ⟨w.heap.size, 0, none⟩ (.bool true)).heap[D]? = some (.deferred (some [])) := (Below.heap_setCell W ⟨w.heap.size, 0, none⟩ _ D (by simp; omega)).trans hK
    have k1 : ((W.setCell ⟨w.heap.size, 0, none⟩ (.bool true)).putObj D (.deferred none)).cell? ⟨w.heap.size, 0, none⟩ = some (.bool true) :=
      (World.cell?_of_block (a := ⟨w.heap.size, 0, none⟩) (World.putObj_heap_other (show w.heap.size ≠ D by omega))).trans (World.cell?_setCell_same' _ _ _ (by rw [c0]; rfl))
    refine ⟨by simp, .inl ⟨_, _, rfl, run_takeDeferred hK1, ?_⟩⟩
    rw [HG.out]
    refine ⟨.bool true, ?_, rfl, ?_⟩
    · simp [results, Tryd.f59, go_sem, k1]
    · exact (HU.out.low.setCell (p := ⟨w.heap.size, 0, none⟩) (Nat.le_refl _) _).trans (belowK_b (w := w) (by omega) _ D _ _ (by omega) hK1 rfl rfl)
  case stop =>
    rintro D pre W hD ⟨post, hpost⟩ ⟨⟨p, hm, hp⟩, hU⟩ hK
    have hG : goodU s.data.toList = false := by
      rw [good_parts _ _ (Nat.le_refl _), ← hpost, List.all_append, Bool.and_eq_false_iff]
      exact .inl (List.all_eq_false.2 ⟨p, hm, by simpa using hp⟩)
    have c0 := hU.cell
    have HU := Lib.hid hU
    clear hU hp hpost
    have HG := Lib.hid hG
    clear hG
    gi_wp2
    have k1 : (W.putObj D (.deferred none)).cell? ⟨w.heap.size, 0, none⟩ = some (.bool false) :=
      (World.cell?_of_block (a := ⟨w.heap.size, 0, none⟩) (World.putObj_heap_other (show w.heap.size ≠ D by omega))).trans c0
    refine ⟨by simp, .inl ⟨_, _, rfl, run_takeDeferred hK, ?_⟩⟩
    rw [HG.out]
    refine ⟨.bool false, ?_, rfl, ?_⟩
    · simp [results, Tryd.f59, go_sem, k1]
    · exact HU.out.low.trans (belowK_b (w := w) (by omega) _ D _ _ (by omega) hK rfl rfl)
end Go.Proofs.YtjbgnlnchchgcaaDoor
