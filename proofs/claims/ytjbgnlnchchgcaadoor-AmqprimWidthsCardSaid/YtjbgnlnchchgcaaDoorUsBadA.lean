/-
  The contract of ustring.Bad. Condition: the string is no longer than an int says.
-/
import Derived.Test.YtjbgnlnchchgcaaDoorUsIter
namespace Go.Proofs.YtjbgnlnchchgcaaDoor
open Go.RowKit

attribute [local go_sem] Oper.semAt_some

theorem marks_mem (cs : List Nat) : ∀ (q : Nat) (p : Nat × Nat), p ∈ marks q cs → p.2 ∈ cs ∧ p.1 + (cb p.2).length ≤ q + (cbs cs).length := by
  induction cs with
  | nil => intro q p h; simp [marks] at h
  | cons c cs ih =>
    intro q p h
    rw [marks, List.mem_cons] at h
    rw [cbs_cons, List.length_append]
    rcases h with rfl | h
    · exact ⟨List.mem_cons_self .., by simp⟩
    · obtain ⟨h1, h2⟩ := ih _ _ h
      exact ⟨List.mem_cons_of_mem _ h1, by omega⟩
theorem mk_facts {l : List UInt8} (x : Mk l) : okc x.1.2 ∧ x.1.1 + (cb x.1.2).length ≤ l.length := by
  obtain ⟨h1, h2⟩ := marks_mem _ _ _ x.2
  exact ⟨pts_oks l _ h1, by have := fin_le l; unfold fin at this; omega⟩

/-- Where the last of the code points ends. -/
def endL (ps : List (Nat × Nat)) : Nat := ps.foldl (fun _ p => p.1 + (cb p.2).length) 0
theorem endL_snoc (ps : List (Nat × Nat)) (p : Nat × Nat) : endL (ps ++ [p]) = p.1 + (cb p.2).length := by simp [endL]
theorem endL_marks (cs : List Nat) : endL (marks 0 cs) = (cbs cs).length := by
  rcases List.eq_nil_or_concat cs with rfl | ⟨a, c, rfl⟩
  · rfl
  · rw [List.concat_eq_append, marks_snoc, endL_snoc, cbs_snoc, List.length_append]

set_option maxRecDepth 100000 in
set_option maxHeartbeats 2000000 in
theorem bad_any (s : ByteArray) (w : World) (hs : s.size ≤ 9223372036854775807) :
    Calls Tryd.prog 74 #[.string s] w fun e w' => e = .returned (.int .i64 (badOf s.data.toList)) ∧ Below w.heap.size w w' := by
  refine (callsIn_wide (n := 5)).1 ?_
  refine callsIn_of_wp_marks Tryd.func74 rfl trivial ?_ rfl
  simp only [Tryd.ntmps74, List.size_toArray, List.length_cons, List.length_nil, Nat.reduceAdd, Nat.reduceSub, Array.replicate_succ, Array.replicate_zero, List.push_toArray, List.append_toArray, List.nil_append, List.cons_append]
  gi_wp2_with (refine ⟨trivial, ?_⟩; gi_at_call 82; refine (callsIn_wide.2 (runes_any s _)).mono ?_; rintro e w' ⟨rfl, rfl⟩)
  have bS := Boxed.new w 3 (.int .i64 0)
  have bN := Boxed.new (w.alloc (.cells #[.int .i64 0] 3)) 9 (.string s)
  rw [World.size_alloc] at bN
  have hB0 : Below w.heap.size w ((w.alloc (.cells #[.int .i64 0] 3)).alloc (.cells #[.string s] 9)) := ((Below.refl _ w).alloc (Nat.le_refl _) _).alloc (by simp) _
  refine wpIn_rangeFunc_ownG rfl (by omega) (gf := 88) (lb := #[.pointer (some ⟨w.heap.size + 1, 0, none⟩)]) rfl trivial (enters_of Tryd.func88 (by kernel_rfl) rfl)
    (iter_stops _ (by omega) (w.heap.size + 1) s hs _ bN) kpR_t (kpR_b (by simp)) (Below.refl _ _) (fun _ => rfl)
    (fun pre W => (W.cell? ⟨w.heap.size, 0, none⟩ = some (.int .i64 ((endL (pre.map (·.1)) : Nat) : Int)) ∧ W.frozen? ⟨w.heap.size, 0, none⟩ = false) ∧ Below w.heap.size w W)
    (fun _ _ _ => False)
    (OwnFrom.and (Own.from (fun s A B row hs hg hr => ⟨cell_kept hs.1 hg hr, (frozen_kept hs.1 hg hr).trans hs.2⟩) _) (ownFrom_below (Nat.le_refl _) (by simp; omega)))
    (fun _ _ _ _ _ hs _ _ => hs)
    ⟨⟨(bS.alloc _).cell, (bS.alloc _).frozen⟩, hB0⟩
    (fun x => { tmps := #[.string s, undef, .int .i64 0, .pointer (some ⟨w.heap.size, 0, none⟩), .int .i64 (x.1.1 : Int), .int .i32 (x.1.2 : Int), .string s, .func (.func 88) #[] #[.pointer (some ⟨w.heap.size + 1, 0, none⟩)], .int .i64 (x.1.1 : Int), .int .i32 (x.1.2 : Int), undef, undef, undef, undef, undef, undef, undef, undef, undef], defers := [] }) ?assign ?body ?done ?stop
  case assign =>
    intro l x W K hK
    dsimp only [encM]
    gi_wp2
    exact hK
  case body =>
    rintro l pre x W ⟨⟨hc, hf⟩, hB⟩ _
    obtain ⟨ho, hle⟩ := mk_facts x
    have hend : endL ((pre ++ [x]).map (·.1)) = x.1.1 + (cb x.1.2).length := by rw [List.map_append]; exact endL_snoc _ _
    have hrl := runelen x.1.2 W ho
    obtain ⟨a, ha⟩ : ∃ a, x.1.1 = a := ⟨_, rfl⟩
    obtain ⟨c, hcc⟩ : ∃ c, x.1.2 = c := ⟨_, rfl⟩
    obtain ⟨k, hk⟩ : ∃ k, (cb x.1.2).length = k := ⟨_, rfl⟩
    rw [hk] at hrl hend hle
    rw [ha] at hend hle ⊢
    rw [hcc] at hrl ⊢
    rw [← size_list] at hle
    have hend := Lib.hid hend
    have hrl := Lib.hid hrl
    have hsum : IntKind.i64.wrap ((a : Int) + (k : Int)) = ((a + k : Nat) : Int) := by simp only [IntKind.wrap_i64]; omega
    clear ha hcc hk ho
    gi_wp2_with (refine ⟨trivial, ?_⟩; gi_at_call 83; refine (CallsIn.inRound l (callsIn_wide.2 hrl.out)).mono ?_; rintro e w' ⟨rfl, rfl⟩)
    exact ⟨(KeepsOthers.setCell _ _ _).from _, kpR_set W _ 0 _ (by omega), ⟨by rw [hend.out, Int.natCast_add]; exact World.cell?_setCell_same' _ _ _ (by rw [hc]; rfl), by rw [World.frozen?_setCell]; exact hf⟩, hB.setCell (p := ⟨w.heap.size, 0, none⟩) (Nat.le_refl _) _⟩
  case done =>
    rintro D ys W hD hys ⟨⟨hc, _⟩, hB⟩ hK
    rw [hys, endL_marks] at hc
    have hfin : badOf s.data.toList = if ((cbs (pts s.data.toList)).length : Int) < (s.size : Int) then ((cbs (pts s.data.toList)).length : Int) else -1 := by
      unfold badOf fin
      rw [size_list]
      split <;> split <;> first | rfl | omega
    obtain ⟨q, hq⟩ : ∃ q, (cbs (pts s.data.toList)).length = q := ⟨_, rfl⟩
    rw [hq] at hc hfin
    by_cases hlt : (q : Int) < (s.size : Int)
    · rw [if_pos hlt] at hfin
      have hfin2 := Lib.hid hfin
      clear hfin hq hys bS bN hB0
      gi_wp2
      refine ⟨by simp, .inl ⟨_, _, rfl, run_takeDeferred hK, ?_⟩⟩
      exact ⟨_, results_tmp rfl _ _ _, by rw [hfin2.out]; rfl, hB.trans (belowK_b (w := w) (Nat.le_refl _) W D _ _ (by simp at hD; omega) hK rfl rfl)⟩
    · rw [if_neg hlt] at hfin
      have hfin2 := Lib.hid hfin
      clear hfin hq hys bS bN hB0
      gi_wp2
      refine ⟨by simp, .inl ⟨_, _, rfl, run_takeDeferred hK, ?_⟩⟩
      exact ⟨_, results_tmp rfl _ _ _, by rw [hfin2.out]; rfl, hB.trans (belowK_b (w := w) (Nat.le_refl _) W D _ _ (by simp at hD; omega) hK rfl rfl)⟩
  case stop =>
    rintro D c pre W _ _ h _
    exact h.elim

end Go.Proofs.YtjbgnlnchchgcaaDoor
