/-
  The contract of what a law gathers of an iterator: the places and the code points of its string as a list. Condition: at most 70,000 bytes.
-/
import Derived.WalkSmall
import Derived.Maps.AppendAt
import Derived.Test.YtohbhmffgaijgaaUsBad
namespace Go.Proofs.Ytohbhmffgaijgaa
open Go.RowKit

attribute [local go_sem] Oper.semAt_some

/-- Places and code points as cells. -/
def rcells (ms : List (Nat × Nat)) : List Value := ms.flatMap fun p => [.int .i64 (p.1 : Int), .int .i32 (p.2 : Int)]
theorem rcells_snoc (ms : List (Nat × Nat)) (p : Nat × Nat) : rcells (ms ++ [p]) = rcells ms ++ [.int .i64 (p.1 : Int), .int .i32 (p.2 : Int)] := by simp [rcells]
theorem infoR : (Try.prog.info? 37).map (fun i => (i.zero, i.size, i.bytes)) = some (some (.agg #[.int .i64 0, .int .i32 0]), 2, 16) := by kernel_rfl

theorem run_eql_func_nil {P : Program} (w : World) {t : TypeId} {a : Array TypeId} {b : Array TypeId} {c : Bool} (f : Fn) (x y : Array Value) (h : P.underlying t = some (.func a b c)) :
    (binOp .eql t (.func f x y) .nilFunc).run P w = .ok (.bool false) w := by
  have h : ∀ d : Nat, (Op.equalIn (d + 1) t (.func f x y) .nilFunc).run P w = .ok false w := fun d => by
    simp [Op.equalIn, run_underlying h]
  simp only [binOp]
  simp [Op.equal, Op.maxDepth, h 9999]

set_option maxRecDepth 100000 in
set_option maxHeartbeats 2000000 in
theorem runes_law (s : ByteArray) (w : World) (hs : s.size ≤ 70000) :
    Calls Try.prog 16 #[.string s] w fun e W' => ∃ v, e = .returned (.tuple #[v, .bool true]) ∧
      W'.ownsRow w.heap.size 37 2 v (pts s.data.toList).length (rcells (marks 0 (pts s.data.toList))) ∧ Below w.heap.size w W' := by
  obtain ⟨i0, hi, hz0, hz1, hz2⟩ := info_parts infoR
  refine (callsIn_wide (n := 5)).1 ?_
  refine callsIn_of_wp_marks Try.func16 rfl trivial ?_ rfl
  simp only [Try.ntmps16, List.size_toArray, List.length_cons, List.length_nil, Nat.reduceAdd, Nat.reduceSub, Array.replicate_succ, Array.replicate_zero, List.push_toArray, List.append_toArray, List.nil_append, List.cons_append]
  gi_wp2_with fail
  refine ⟨trivial, (callsIn_wide.2 (runes_any s _)).mono ?_⟩
  rintro e w' ⟨rfl, rfl⟩
  have heq := fun (W : World) (f : Fn) (x y : Array Value) => run_eql_func_nil (P := Try.prog) W f x y Try.underlying45
  gi_wp2_with fail
  clear heq
  have b0 := Boxed.new w 9 (.string s)
  have b1 := Boxed.new (w.alloc (.cells #[.string s] 9)) 32 (.slice none 0 0)
  have b2 := Boxed.new ((w.alloc (.cells #[.string s] 9)).alloc (.cells #[.slice none 0 0] 32)) 4 (.bool false)
  have b3 := Boxed.new (((w.alloc (.cells #[.string s] 9)).alloc (.cells #[.slice none 0 0] 32)).alloc (.cells #[.bool false] 4)) 9 (.string s)
  have b4 := Boxed.new ((((w.alloc (.cells #[.string s] 9)).alloc (.cells #[.slice none 0 0] 32)).alloc (.cells #[.bool false] 4)).alloc (.cells #[.string s] 9)) 32 (.slice none 0 0)
  have b0 := (((b0.alloc (.cells #[.slice none 0 0] 32)).alloc (.cells #[.bool false] 4)).alloc (.cells #[.string s] 9)).alloc (.cells #[.slice none 0 0] 32)
  have b1 := ((b1.alloc (.cells #[.bool false] 4)).alloc (.cells #[.string s] 9)).alloc (.cells #[.slice none 0 0] 32)
  have b2 := (b2.alloc (.cells #[.string s] 9)).alloc (.cells #[.slice none 0 0] 32)
  have b3 := b3.alloc (.cells #[.slice none 0 0] 32)
  have hB0 : Below w.heap.size w (((((w.alloc (.cells #[.string s] 9)).alloc (.cells #[.slice none 0 0] 32)).alloc (.cells #[.bool false] 4)).alloc (.cells #[.string s] 9)).alloc (.cells #[.slice none 0 0] 32)) :=
    (((((Below.refl _ w).alloc (Nat.le_refl _) _).alloc (by simp) _).alloc (by simp; omega) _).alloc (by simp; omega) _).alloc (by simp; omega) _
  simp only [World.size_alloc] at b0 b1 b2 b3 b4
  obtain ⟨W0, hW0⟩ : ∃ W0, (((((w.alloc (.cells #[.string s] 9)).alloc (.cells #[.slice none 0 0] 32)).alloc (.cells #[.bool false] 4)).alloc (.cells #[.string s] 9)).alloc (.cells #[.slice none 0 0] 32)) = W0 := ⟨_, rfl⟩
  have hsz : W0.heap.size = w.heap.size + 1 + 1 + 1 + 1 + 1 := by rw [← hW0]; simp
  rw [hW0] at b0 b1 b2 b3 b4 hB0 ⊢
  clear hW0
  obtain ⟨n0, hn0⟩ : ∃ n0, w.heap.size = n0 := ⟨_, rfl⟩
  rw [hn0] at b0 b1 b2 b3 b4 hB0 hsz ⊢
  have hlen := pts_length_le s.data.toList
  rw [← size_list] at hlen
  refine wpIn_rangeFunc_ownG rfl (by omega) (gf := 40) (lb := #[.pointer (some ⟨n0 + 1 + 1 + 1, 0, none⟩)]) rfl trivial (enters_of Try.func40 (by kernel_rfl) rfl)
    (iter_stops _ (by omega) (n0 + 1 + 1 + 1) s (by omega) _ b3) kpR_t (kpR_b (by omega)) (Below.refl _ _) (fun _ => rfl)
    (fun pre W => (∃ v, Boxed W (n0 + 1 + 1 + 1 + 1) 32 v ∧ W.ownsRow n0 37 2 v pre.length (rcells (pre.map (·.1))) ∧ True) ∧ (Boxed W n0 9 (.string s) ∧ Boxed W (n0 + 1) 32 (.slice none 0 0) ∧ Boxed W (n0 + 1 + 1) 4 (.bool false) ∧ Boxed W (n0 + 1 + 1 + 1) 9 (.string s)) ∧ Below n0 w W)
    (fun _ _ _ => False)
    (OwnFrom.and (Own.from (holdsRow_own n0 (n0 + 1 + 1 + 1 + 1) 32 37 2 (fun (pre : List (Mk s.data.toList)) => pre.length) (fun (pre : List (Mk s.data.toList)) => rcells (pre.map (·.1))) (fun _ _ => True)) _)
      (OwnFrom.and (OwnFrom.and (Own.from (boxed_own n0 9 fun _ => .string s) _) (OwnFrom.and (Own.from (boxed_own (n0 + 1) 32 fun _ => .slice none 0 0) _) (OwnFrom.and (Own.from (boxed_own (n0 + 1 + 1) 4 fun _ => .bool false) _) (Own.from (boxed_own (n0 + 1 + 1 + 1) 9 fun _ => .string s) _)))) (ownFrom_below (by omega) (by omega))))
    (fun _ _ _ _ _ hs _ _ => hs)
    ⟨⟨_, b4, World.ownsRow_nil _ _ _ _, trivial⟩, ⟨b0, b1, b2, b3⟩, hB0⟩
    (fun x => { tmps := #[.string s, .pointer (some ⟨n0, 0, none⟩), .pointer (some ⟨n0 + 1, 0, none⟩), .pointer (some ⟨n0 + 1 + 1, 0, none⟩), .func (.func 40) #[] #[.pointer (some ⟨n0 + 1 + 1 + 1, 0, none⟩)], .pointer (some ⟨n0 + 1 + 1 + 1 + 1, 0, none⟩), .int .i64 (x.1.1 : Int), .int .i32 (x.1.2 : Int), .string s, .func (.func 40) #[] #[.pointer (some ⟨n0 + 1 + 1 + 1, 0, none⟩)], .func (.func 40) #[] #[.pointer (some ⟨n0 + 1 + 1 + 1, 0, none⟩)], .bool false, .func (.func 40) #[] #[.pointer (some ⟨n0 + 1 + 1 + 1, 0, none⟩)], .int .i64 (x.1.1 : Int), .int .i32 (x.1.2 : Int), undef, undef, undef, undef, undef, undef, undef, undef, undef, undef, undef, undef], defers := [] }) ?assign ?body ?done ?stop
  case assign =>
    intro l x W K hK
    dsimp only [encM]
    gi_wp2
    exact hK
  case body =>
    rintro l pre x W ⟨⟨v, hv, hrow, _⟩, ⟨c0, c1, c2, c3⟩, hB⟩ hpl
    have hB := Lib.hid hB
    have hbs := hB.out.size
    obtain ⟨a, ha⟩ : ∃ a, x.1.1 = a := ⟨_, rfl⟩
    obtain ⟨c, hcc⟩ : ∃ c, x.1.2 = c := ⟨_, rfl⟩
    obtain ⟨k, hk⟩ : ∃ k, pre.length = k := ⟨_, rfl⟩
    have hfin := Lib.hid (show (pre ++ [x]).length = k + 1 ∧ rcells ((pre ++ [x]).map (·.1)) = rcells (pre.map (·.1)) ++ [.int .i64 (a : Int), .int .i32 (c : Int)] from ⟨by simp [hk], by rw [List.map_append, ← ha, ← hcc]; exact rcells_snoc _ _⟩)
    rw [hk] at hrow hpl
    rw [ha, hcc]
    have hcv := hv.cell
    have hcs := c0.cell
    have hle : (k : Int) ≤ (s.size : Int) := by omega
    have hkb : k ≤ 70000 := by omega
    have hlv : (∃ A cap, v = .slice A k cap) := by
      rcases hrow.2 with ⟨rfl, h0⟩ | ⟨g, cap, cur, rfl, _⟩
      · exact ⟨none, 0, by rw [h0]⟩
      · exact ⟨_, _, rfl⟩
    obtain ⟨A, cap, rfl⟩ := hlv
    clear hlen hpl ha hcc hk b0 b1 b2 b3 b4 hB0
    gi_wp2_with (gi_at_builtin; refine wpListIn_append_own _ rfl _ _ 32 rfl n0 37 i0 (.agg #[.int .i64 0, .int .i32 0]) 2 16 Try.underlying32 hi hz0 hz1 hz2 rfl (by decide) _ _ _ rfl (hrow.alloc _) ⟨W.heap.size, 0, none⟩ 1 1 [.int .i64 (a : Int), .int .i32 (c : Int)] rfl rfl (cell_two_new _ _ _ _) (by simp [Value.oneCell']) (by simp only [maxLen]; omega) (by omega) (by simp; omega) ?_; intro v' w1 hown' hgrow _; obtain ⟨g', cap', rfl⟩ := ownsRow_succ hown'; obtain ⟨hv1, hv2, hr2, hk2, hb2⟩ := hv.appended (by decide) hrow (by omega) (by omega) hown' hgrow; have hc1 := hv1.cell; have hf1 := hv1.frozen)
    have kp : ∀ {C : Nat} {t : TypeId} {u : Value}, Boxed W C t u → t ≠ 37 → C ≠ n0 + 1 + 1 + 1 + 1 → Boxed (w1.setCell ⟨n0 + 1 + 1 + 1 + 1, 0, none⟩ (.slice (some ⟨g', 0, none⟩) (k + 1) cap')) C t u :=
      fun hb ht hC => ((hb.alloc _).kept hgrow (hb.not_row ht hrow)).other hC _
    have d3 := kp c3 (by decide) (by omega)
    refine ⟨hk2.from _, ⟨fun o ho => ?_, hk2.walks⟩, ⟨_, hv2, by rw [hfin.out.1, hfin.out.2]; exact hr2⟩, ⟨kp c0 (by decide) (by omega), kp c1 (by decide) (by omega), kp c2 (by decide) (by omega), d3⟩, hB.out.trans hb2⟩
    rw [show W.heap[n0 + 1 + 1 + 1]? = _ from c3] at ho
    cases ho
    exact d3
  case done =>
    rintro D ys W hD hys ⟨⟨v, hv, hrow, _⟩, ⟨c0, c1, c2, c3⟩, hB⟩ hK
    have hyl : ys.length = (pts s.data.toList).length := by
      have := congrArg List.length hys
      simpa [marks_length] using this
    rw [hys, hyl] at hrow
    have hlv : (∃ A cap, v = .slice A (pts s.data.toList).length cap) := by
      rcases hrow.2 with ⟨rfl, h0⟩ | ⟨g, cap, cur, rfl, _⟩
      · exact ⟨none, 0, by rw [h0]⟩
      · exact ⟨_, _, rfl⟩
    obtain ⟨A, cap, rfl⟩ := hlv
    have hcv := hv.cell
    have f1 := c1.frozen
    have f2 := c2.frozen
    have g1 := c1.cell
    have g2 := c2.cell
    clear hlen b0 b1 b2 b3 b4 hB0 hys hyl
    obtain ⟨q, hq⟩ : ∃ q, (pts s.data.toList).length = q := ⟨_, rfl⟩
    rw [hq] at hcv hrow hv
    have hq := Lib.hid hq
    have hrow' := Lib.hid hrow
    have hB := Lib.hid hB
    gi_wp2_with fail
    have hrow := hrow'.out
    have hK1 := (KeepsOthers.setCell (W.setCell ⟨n0 + 1, 0, none⟩ (.slice A q cap)) ⟨n0 + 1 + 1, 0, none⟩ (.bool true)).same D _ ((KeepsOthers.setCell W ⟨n0 + 1, 0, none⟩ (.slice A q cap)).same D _ hK rfl) rfl
    have d1 : Boxed (((W.setCell ⟨n0 + 1, 0, none⟩ (.slice A q cap)).setCell ⟨n0 + 1 + 1, 0, none⟩ (.bool true)).putObj D (.deferred none)) (n0 + 1) 32 (.slice A q cap) :=
      ((c1.set _).other (by omega) _).kept (grownBy_putObj' _ D _) (fun e => by cases e; omega)
    have c2' := c2.other (B' := n0 + 1) (by omega) (.slice A q cap)
    have d2 : Boxed (((W.setCell ⟨n0 + 1, 0, none⟩ (.slice A q cap)).setCell ⟨n0 + 1 + 1, 0, none⟩ (.bool true)).putObj D (.deferred none)) (n0 + 1 + 1) 4 (.bool true) :=
      (c2'.set _).kept (grownBy_putObj' _ D _) (fun e => by cases e; omega)
    have r1 := hrow.kept (grownBy_setCell' W (n0 + 1) (.slice A q cap)) (.inr (c1.not_row (by decide) hrow).symm)
    have r2 := r1.kept (grownBy_setCell' _ (n0 + 1 + 1) (.bool true)) (.inr (c2'.not_row (by decide) r1).symm)
    have r3 := ownsRow_putObj r2 (.deferred none) hK1 rfl
    have k1 := d1.cell
    have k2 := d2.cell
    refine ⟨by simp, .inl ⟨_, _, rfl, run_takeDeferred hK1, ?_⟩⟩
    rw [hn0, hq.out]
    refine ⟨.tuple #[.slice A q cap, .bool true], ?_, _, rfl, r3, ?_⟩
    · simp [results, Try.f16, go_sem, k1, k2]
    · exact ((hB.out.setCell (p := ⟨n0 + 1, 0, none⟩) (by simp) _).setCell (p := ⟨n0 + 1 + 1, 0, none⟩) (by simp; omega) _).trans (belowK_b (w := w) (by omega) _ D _ _ (by omega) hK1 rfl rfl)
  case stop =>
    rintro D c pre W _ _ h _
    exact h.elim
end Go.Proofs.Ytohbhmffgaijgaa
