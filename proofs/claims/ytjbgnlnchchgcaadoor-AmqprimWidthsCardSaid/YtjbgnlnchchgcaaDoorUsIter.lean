/-
  The contract of ustring.Runes and of the iterator that it makes: the places and the code points of its string, up to the first place where none begins. Condition: the string is no longer than an int says.
-/
import Derived.RangeFuncNested
import Derived.RangeFuncBound
import Derived.RangeFuncCalls
import Derived.RangeFuncLeaves
import Derived.RangeFuncBox
import Derived.Shelf.Abstract
import Derived.Shelf.RegionOpen
import Derived.OwnWalkIn
import Derived.TacticsInMore
import Derived.LoopNIn
import Derived.LoopIn
import Derived.Lib.OthersKept
import Derived.Test.YtjbgnlnchchgcaaDoorUsRune
namespace Go.Proofs.YtjbgnlnchchgcaaDoor
open Go.RowKit

attribute [local go_sem] Oper.semAt_some

/-- What the iterator hands over: a place and a code point of the list. -/
abbrev Mk (l : List UInt8) := { p : Nat × Nat // p ∈ marks 0 (pts l) }
abbrev encM {l : List UInt8} (x : Mk l) : Array Value := #[.int .i64 (x.1.1 : Int), .int .i32 (x.1.2 : Int)]
/-- What a round keeps: the box of the string, and the walk over it. -/
def KpR (Bs : Nat) (W W' : World) : Prop := (∀ o, W.heap[Bs]? = some o → W'.heap[Bs]? = some o) ∧ KeepsWalks W W'

theorem kpR_t {Bs : Nat} {A B C : World} (h : KpR Bs A B) (k : KpR Bs B C) : KpR Bs A C := ⟨fun o ho => k.1 o (h.1 o ho), h.2.trans k.2⟩
theorem kpR_b {Bs : Nat} {w : World} (hB : Bs < w.heap.size) (W : World) (l : Nat) (o o' : Obj) (hl : w.heap.size ≤ l) (h : W.heap[l]? = some o) (_ : o.isCells = false) (hw : o.isWalk = false) : KpR Bs W (W.putObj l o') :=
  ⟨fun q hq => (World.putObj_heap_other (by omega)).trans hq, KeepsWalks.putObj _ h hw⟩
theorem kpR_refl (Bs : Nat) (W : World) : KpR Bs W W := ⟨fun _ h => h, KeepsWalks.refl W⟩
theorem kpR_set {Bs : Nat} (W : World) (b j : Nat) (v : Value) (h : b ≠ Bs) : KpR Bs W (W.setCell ⟨b, j, none⟩ v) :=
  ⟨fun _ ho => (Below.heap_setCell W ⟨b, j, none⟩ v Bs (fun e => h e.symm)).trans ho, KeepsWalks.setCell W _ v⟩

theorem iterAt_grown (w : World) (k : Nat) (s : ByteArray) (pos : Nat) : w.grownBy (w.iterAt k s pos) (some k) :=
  ⟨rfl, rfl, rfl, by rw [Lib.iterAt_size]; exact Nat.le_refl _, fun j _ hne => Lib.iterAt_other w k j s pos (fun e => hne (by rw [e]))⟩

theorem marks_mem_split (a : List Nat) (c : Nat) (b : List Nat) : ((cbs a).length, c) ∈ marks 0 (a ++ c :: b) := by
  rw [marks_append]; simp [marks]
theorem drop_cbs (a : List Nat) (l : List UInt8) : (cbs a ++ l).drop (cbs a).length = l := by simp

set_option maxRecDepth 100000 in
set_option maxHeartbeats 2000000 in
theorem iter_in (n : Nat) (hn : 1 ≤ n) (lp Bs : Nat) (s : ByteArray) (hs : s.size ≤ 9223372036854775807) (W : World) (J Jx : List (Mk s.data.toList) → World → Prop) (hJ : AbidesFrom W.heap.size J)
    (hY : ∀ pre x W1, J pre W1 → pre.length < (pts s.data.toList).length → YieldAt Fence.wide (n - 1) Tryd.prog lp (encM x) W1 fun e W' =>
      (e = .returned (.bool true) ∧ J (pre ++ [x]) W' ∧ KpR Bs W1 W') ∨ (e = .returned (.bool false) ∧ Jx (pre ++ [x]) W'))
    (hBs : W.heap[Bs]? = some (.cells #[.string s] 9 (0, 0))) (h0 : J [] W) :
    CallsIn Fence.wide n Tryd.prog 88 #[.func (.yield lp) #[] #[], .pointer (some ⟨Bs, 0, none⟩)] W fun e W' => (∃ v, e = .returned v) ∧
      ((∃ ys : List (Mk s.data.toList), ys.map (·.1) = marks 0 (pts s.data.toList) ∧ J ys W') ∨ (∃ pre, True ∧ Jx pre W')) := by
  have hlt : Bs < W.heap.size := (Array.getElem?_eq_some_iff.1 hBs).1
  have hBc : W.cell? ⟨Bs, 0, none⟩ = some (.string s) := by simp [World.cell?, hBs]
  have hro : Fence.wide.round = none := rfl
  refine callsIn_of_wp Tryd.func88 rfl trivial ?_ hro
  simp only [Tryd.ntmps88, List.size_toArray, List.length_cons, List.length_nil, Nat.reduceAdd, Nat.reduceSub, Array.replicate_succ, Array.replicate_zero, List.push_toArray, List.append_toArray, List.nil_append, List.cons_append]
  gi_wp2
  gi_loopw [] (fun wr => ∃ (pre : List (Mk s.data.toList)) (cs rest : List Nat), pts s.data.toList = cs ++ rest ∧ pre.map (·.1) = marks 0 cs ∧ wr.heap[W.heap.size]? = some (.stringIter s (cbs cs).length) ∧ wr.heap[Bs]? = some (.cells #[.string s] 9 (0, 0)) ∧ J pre wr)
    (fun wr => s.size - wr.iterPos W.heap.size)
  case atStart =>
    refine ⟨[], [], _, rfl, rfl, ?_, ?_, ?_⟩
    · exact World.alloc_heap_new W _
    · exact (Below.heap_alloc W _ Bs hlt).trans hBs
    · exact hJ _ _ _ none h0 (World.grownBy_alloc W _ none) (fun r e => by cases e)
  case round =>
    obtain ⟨pre, cs, rest, e1, e2, hit, hbx, hJs⟩ := hrel
    obtain ⟨r, hl, hr⟩ := pts_rest s.data.toList
    have hsz : s.size = s.data.toList.length := size_list s
    have hks : W.heap.size < wr.heap.size := (Array.getElem?_eq_some_iff.1 hit).1
    have hoks := pts_oks s.data.toList
    have hlen : pre.length = cs.length := by have := congrArg List.length e2; simpa [marks_length] using this
    rw [e1] at hl hoks
    have hdr : s.data.toList.drop (cbs cs).length = cbs rest ++ r := by
      rw [hl, cbs_append, List.append_assoc]; exact drop_cbs _ _
    have hext : ∀ q, q = (cbs cs).length → (s.extract q s.size).data.toList = cbs rest ++ r := by
      rintro q rfl
      rw [← hdr]; simp [List.extract_eq_take_drop]
      exact List.take_of_length_le (by simp)
    obtain ⟨pos, hpos⟩ : ∃ q, (cbs cs).length = q := ⟨_, rfl⟩
    have hext := hext pos hpos.symm
    rw [hpos] at hit hdr
    have hdec := decode_dl s pos
    rw [hdr] at hdec
    have hbx2 : ∀ p', (wr.iterAt W.heap.size s p').heap[Bs]? = some (.cells #[.string s] 9 (0, 0)) := fun p' => (Lib.iterAt_other wr W.heap.size Bs s p' (by omega)).trans hbx
    have hit2 : ∀ p', (wr.iterAt W.heap.size s p').heap[W.heap.size]? = some (.stringIter s p') := fun p' => Lib.iterAt_heap wr W.heap.size s pos p' hit
    have hJ2 : ∀ p', J pre (wr.iterAt W.heap.size s p') := fun p' => hJ _ _ _ (some W.heap.size) hJs (iterAt_grown wr _ s p') (fun r e => by cases e; exact ⟨Nat.le_refl _, _, hit, rfl⟩)
    cases rest with
    | nil =>
      by_cases hp : pos < s.size
      · have hrne : r ≠ [] := by
          rintro rfl
          have := congrArg List.length hdr
          simp [cbs] at this
          omega
        rw [cbs_nil, List.nil_append] at hdec hext
        obtain ⟨c, hc⟩ : ∃ c, (dl r).1 = c := ⟨_, rfl⟩
        obtain ⟨p', hp'⟩ : ∃ p', pos + (dl r).2 = p' := ⟨_, rfl⟩
        have hnx : ∀ ty, (Instr.next (.pointer (some ⟨W.heap.size, 0, none⟩)) true ty).run Tryd.prog wr = .ok (.tuple #[.bool true, .int .i64 pos, .int .i32 c]) (wr.iterAt W.heap.size s p') := fun ty => by
          rw [Lib.run_next_any_at wr W.heap.size s pos ty hit hp, hdec, hc, hp']
        have hbg : ∀ m, CallsIn Fence.wide m Tryd.prog 89 #[.string (s.extract pos s.size), .int .i32 c] (wr.iterAt W.heap.size s p') fun e w' => e = .returned (.bool false) ∧ wr.iterAt W.heap.size s p' = w' :=
          fun m => callsIn_wide.2 (by have h := begins_no (s.extract pos s.size) (wr.iterAt W.heap.size s p') (by rw [hext]; exact hrne) (by rw [hext]; exact hr); rwa [hext, hc] at h)
        have hbc : (wr.iterAt W.heap.size s p').cell? ⟨Bs, 0, none⟩ = some (.string s) := by simp [World.cell?, hbx2]
        have hJ3 := hJ2 p'
        have hple : pos ≤ s.size := Nat.le_of_lt hp
        have hall := Lib.hid (show pre.map (·.1) = marks 0 (pts s.data.toList) from e2.trans (congrArg (marks 0) (by rw [e1, List.append_nil])))
        clear hext hdec hc hp' hl hdr hr hrne hY hJ2 hbx2 hit2 hit hbx hsz hpos hlen hoks e1 e2 hBs
        have hbg := Lib.hid hbg
        gi_wp2_with fail
        refine ⟨trivial, (hbg.out _).mono ?_⟩
        rintro e w' ⟨rfl, rfl⟩
        gi_wp2_with fail
        refine ⟨fun _ h => (by cases h), ?_⟩
        gi_wp2_with fail
        refine bodyPost_ret (results_none rfl _ _ _) rfl ?_
        exact ⟨⟨_, rfl⟩, .inl ⟨pre, hall.out, hJ3⟩⟩
      · have hnx : ∀ ty, (Instr.next (.pointer (some ⟨W.heap.size, 0, none⟩)) true ty).run Tryd.prog wr = .ok (.tuple #[.bool false]) wr := fun ty => Lib.run_next_end_at wr W.heap.size s pos ty hit hp
        gi_wp2
        go_end0
        exact ⟨⟨_, rfl⟩, .inl ⟨pre, e2.trans (congrArg (marks 0) (by rw [e1, List.append_nil])), hJs⟩⟩
    | cons c rest =>
      have hoc : okc c := hoks c (by simp)
      rw [cbs_cons, List.append_assoc] at hdec hext hdr
      rw [dl_cb hoc] at hdec
      obtain ⟨p', hp'⟩ : ∃ p', pos + (cb c).length = p' := ⟨_, rfl⟩
      have hple : pos ≤ s.size := by
        have := congrArg List.length hl
        rw [cbs_append, List.length_append, List.length_append, hpos] at this
        omega
      have hp : pos < s.size := by
        have h1 := congrArg List.length hdr
        have h2 := cb_length_pos c
        rw [List.length_drop, List.length_append] at h1
        omega
      have hnx : ∀ ty, (Instr.next (.pointer (some ⟨W.heap.size, 0, none⟩)) true ty).run Tryd.prog wr = .ok (.tuple #[.bool true, .int .i64 pos, .int .i32 c]) (wr.iterAt W.heap.size s p') := fun ty => by
        rw [Lib.run_next_any_at wr W.heap.size s pos ty hit hp, hdec, hp']
      have hbg : ∀ m, CallsIn Fence.wide m Tryd.prog 89 #[.string (s.extract pos s.size), .int .i32 c] (wr.iterAt W.heap.size s p') fun e w' => e = .returned (.bool true) ∧ wr.iterAt W.heap.size s p' = w' :=
        fun m => callsIn_wide.2 (begins_yes (s.extract pos s.size) c (wr.iterAt W.heap.size s p') (by rw [hext]; exact hd_cb hoc _))
      have hbc : (wr.iterAt W.heap.size s p').cell? ⟨Bs, 0, none⟩ = some (.string s) := by simp [World.cell?, hbx2]
      have hmem : (pos, c) ∈ marks 0 (pts s.data.toList) := by rw [e1, ← hpos]; exact marks_mem_split cs c rest
      have hy0 := hY pre ⟨(pos, c), hmem⟩ (wr.iterAt W.heap.size s p') (hJ2 p') (by rw [hlen, e1]; simp)
      obtain ⟨fn, tmps, assign, body, hy, hR⟩ := hy0
      dsimp only [encM] at hy
      have hbg := Lib.hid hbg
      have hnext := Lib.hid (show pts s.data.toList = (cs ++ [c]) ++ rest ∧ (pre ++ [(⟨(pos, c), hmem⟩ : Mk s.data.toList)]).map (·.1) = marks 0 (cs ++ [c]) ∧ (cbs (cs ++ [c])).length = p' from
        ⟨by rw [e1, List.append_assoc]; rfl, by rw [List.map_append, e2, marks_snoc, hpos]; rfl, by rw [cbs_snoc, List.length_append, hpos, hp']⟩)
      have hkeep := Lib.hid (show pos < p' ∧ p' ≤ s.size ∧ (wr.iterAt W.heap.size s p').heap[Bs]? = some (.cells #[.string s] 9 (0, 0)) ∧ (wr.iterAt W.heap.size s p').heap[W.heap.size]? = some (.stringIter s p') ∧ wr.iterPos W.heap.size = pos from
        ⟨by have := cb_length_pos c; omega, by
          have h1 := congrArg List.length hdr
          rw [List.length_drop, List.length_append] at h1
          omega, hbx2 p', hit2 p', by simp only [World.iterPos, hit]⟩)
      clear hext hdec hp' hl hdr hr hY hJ2 hbx2 hit2 hit hbx hsz hpos hlen hoks e1 e2 hBs
      gi_wp2_with fail
      refine ⟨trivial, (hbg.out _).mono ?_⟩
      rintro e w' ⟨rfl, rfl⟩
      gi_wp2_with fail
      refine hR.mono ?_
      rintro e W3 (⟨rfl, hJ3, hk3⟩ | ⟨rfl, hJx3⟩)
      · gi_wp2_with fail
        obtain ⟨k1, k2, k3, k4, k5⟩ := hkeep.out
        obtain ⟨n1, n2, n3⟩ := hnext.out
        have k6 : W3.heap[W.heap.size]? = some (.stringIter s p') := hk3.2.same _ _ k4 rfl
        go_roundw
        case rel => exact ⟨_, cs ++ [c], rest, n1, n2, by rw [n3]; exact k6, hk3.1 _ k3, hJ3⟩
        case measure =>
          rw [k5]
          simp only [World.iterPos, k6]
          omega
      · gi_wp2_with fail
        refine bodyPost_ret (results_none rfl _ _ _) rfl ?_
        exact ⟨⟨_, rfl⟩, .inr ⟨_, trivial, hJx3⟩⟩

/-- The iterator as a value that the law of the range over a function takes. -/
theorem iter_stops (n : Nat) (hn : 1 ≤ n) (Bs : Nat) (s : ByteArray) (hs : s.size ≤ 9223372036854775807) (w : World) (hBs : w.heap[Bs]? = some (.cells #[.string s] 9 (0, 0))) :
    SeqStopsK Fence.wide n Tryd.prog 88 #[.pointer (some ⟨Bs, 0, none⟩)] (encM (l := s.data.toList)) (KpR Bs) (fun ys => ys.map (·.1) = marks 0 (pts s.data.toList)) (fun _ => True) (pts s.data.toList).length w :=
  fun l J Jx W hW hJ _ hY h0 => iter_in n hn l Bs s hs W J Jx hJ hY ((hW.block Bs (Array.getElem?_eq_some_iff.1 hBs).1).trans hBs) h0

/-- ustring.Runes: the string is boxed; the function value captures the box. -/
theorem runes_any (s : ByteArray) (w : World) :
    Calls Tryd.prog 82 #[.string s] w fun e w' => e = .returned (.func (.func 88) #[] #[.pointer (some ⟨w.heap.size, 0, none⟩)]) ∧ w' = w.alloc (.cells #[.string s] 9) := by
  go_enter Tryd.func82, Tryd.ntmps82
  go_wp2
  go_ret
  exact ⟨rfl, rfl⟩
end Go.Proofs.YtjbgnlnchchgcaaDoor
