/-
  All codes of a kind, in order: reason.All. Condition: none.
-/
import Derived.OwnWalk
import Derived.Laws.AppendOwn
import Derived.Test.YtonfkaoobajbkaaDoorRsnMay
namespace Go.Proofs.YtonfkaoobajbkaaDoor
open Go.RowKit

theorem infoI : (Tryd.prog.info? 3).map (fun i => (i.zero, i.size, i.bytes)) = some (some (.int .i64 0), 1, 8) := by kernel_rfl
/-- Numbers as cells. -/
def iv (n : Nat) : Value := .int .i64 (n : Int)
theorem own_call {w w' : World} {base n size : Nat} {t : TypeId} {v : Value} {xs : List Value} (h : w.ownsRow base t size v n xs) (hb : Below w.heap.size w w') : w'.ownsRow base t size v n xs :=
  h.kept (row := none) ⟨hb.os, hb.tape, hb.output, hb.size, fun k hk _ => hb.block k hk⟩ (by cases v.ownBlock <;> simp)
theorem own_base {w : World} {b b' n size : Nat} {t : TypeId} {v : Value} {xs : List Value} (h : w.ownsRow b t size v n xs) (hb : b' ≤ b) : w.ownsRow b' t size v n xs := by
  refine ⟨h.1, ?_⟩
  rcases h.2 with hn | ⟨g, cap, cur, rfl, hbg, rest⟩
  · exact .inl hn
  · exact .inr ⟨g, cap, cur, rfl, by omega, rest⟩
structure AllAt (w : World) (g k B : Nat) (v : Value) (wx : World) : Prop where
  low : Below w.heap.size w wx
  lo : w.heap.size ≤ B
  set : wx.heap[B]? = some (.cells (C4 (wordsG g)) 35 (0, 0))
  own : wx.ownsRow (B + 1) 3 1 v (upto g k).length ((upto g k).map iv)
theorem AllAt.call {w wx wy : World} {g k B : Nat} {v : Value} (h : AllAt w g k B v wx) (hb : Below wx.heap.size wx wy) : AllAt w g k B v wy :=
  ⟨h.low.trans (hb.mono h.low.size), h.lo, (hb.block _ (lt_of_block h.set)).trans h.set, own_call h.own hb⟩
theorem AllAt.skip {w wx : World} {g k B : Nat} {v : Value} (h : AllAt w g k B v wx) (hn : (codesG g).contains k = false) : AllAt w g (k + 1) B v wx :=
  ⟨h.low, h.lo, h.set, by rw [upto_succ, if_neg (by rw [hn]; simp)]; exact h.own⟩
theorem AllAt.more {w wx wy : World} {g k B : Nat} {v v' : Value} (h : AllAt w g k B v wx) (hn : (codesG g).contains k = true) (o : Obj) (ho : wy.ownsRow (B + 1) 3 1 v' ((upto g k).length + 1) ((upto g k).map iv ++ [iv k])) (hg : (wx.alloc o).grownBy wy v.ownBlock) : AllAt w g (k + 1) B v' wy := by
  have hB := lt_of_block h.set
  have hb : Below (B + 1) wx wy := by
    rcases h.own.2 with ⟨rfl, _⟩ | ⟨gb, cap, cur, rfl, hbg, _⟩
    · exact ((Below.refl (B + 1) wx).alloc (by omega) o).trans ⟨hg.os, hg.tape, hg.output, hg.size, fun j hj => hg.block j (by simp only [World.size_alloc]; omega) (fun e => by cases e)⟩
    · exact ((Below.refl (B + 1) wx).alloc (by omega) o).trans ⟨hg.os, hg.tape, hg.output, hg.size, fun j hj => hg.block j (by simp only [World.size_alloc]; omega) (fun e => by cases e; have h9 : gb < B + 1 := hj; omega)⟩
  refine ⟨h.low.trans (hb.mono (by have := h.lo; omega)), h.lo, (hb.block _ (by omega)).trans h.set, ?_⟩
  rw [upto_succ, if_pos hn, List.map_append, List.length_append]
  exact ho
set_option maxRecDepth 100000 in
set_option maxHeartbeats 1000000 in
theorem all_any (kind : Int) (w : World) :
    Calls Tryd.prog 11 #[.int .i64 kind] w fun e w' => ∃ v, e = .returned v ∧ w'.ownsRow w.heap.size 3 1 v (allR kind).length ((allR kind).map iv) ∧ Below w.heap.size w w' := by
  obtain ⟨i0, hi, hz0, hz1, hz2⟩ := info_parts infoI
  have CO := codes_any kind w
  have hg := grp_lt kind
  have HT := Lib.hid (upto_all kind)
  obtain ⟨g, hgg⟩ : ∃ g, grp kind = g := ⟨_, rfl⟩
  rw [hgg] at CO hg HT
  clear hgg
  have HG := Lib.hid hg
  have CO := Lib.hid CO
  have HA := Lib.hid (fun (k : Nat) (hk : k < 256) W => has_some (wordsG g) k W (okW_wordsG _) hk)
  have HS := Lib.hid (fun (k : Nat) (hk : k < 256) => has_tab g hg k hk)
  clear hg
  go_enter Tryd.func11, Tryd.ntmps11
  go_wp2_with fail
  refine (CO.out).mono ?_
  rintro e w1 ⟨rfl, hb⟩
  have B0 := Lib.hid (show AllAt w g 0 w1.heap.size (.slice none 0 0) (w1.alloc (.cells (C4 (wordsG g)) 35)) from
    ⟨hb.alloc hb.size _, hb.size, heap_alloc_new _ _, World.ownsRow_nil _ _ _ _⟩)
  clear hb CO
  unfold V4
  unfold C4 at B0
  go_wp2_with fail
  generalize w1.alloc (.cells #[.int .u64 (wordsG g).a, .int .u64 (wordsG g).b, .int .u64 (wordsG g).c, .int .u64 (wordsG g).d] 35) = w2 at *
  generalize w1.heap.size = B at *
  go_loopg [4, 5, 8] 256 (fun gk s4 _ s8 wx => ∃ k : Nat, k ≤ 256 ∧ gk = 256 - k ∧ s8 = .int .i64 (k : Int) ∧ AllAt w g k B s4 wx)
  case atStart => exact ⟨0, Nat.zero_le _, rfl, rfl, B0.out⟩
  case round =>
    obtain ⟨k, hk, rfl, rfl, hS⟩ := hrel
    by_cases hlt : k < 256
    · have HK := Lib.hid hlt
      have k1 : (k : Int) < 256 := by omega
      have hset := hS.set
      have HB := Lib.hid (fun W => HA.out k hlt W)
      rw [HS.out k hlt] at HB
      have HS0 := Lib.hid hS
      clear hS
      unfold C4 at hset
      unfold V4 at HB
      have NX := Lib.hid (fun wx (hb : Below wr.heap.size wr wx) => HS0.out.call hb)
      clear HS0
      cases hcn : (codesG g).contains k
      · rw [hcn] at HB
        have CN := Lib.hid hcn
        clear hcn
        go_wp2_with (first
          | (refine wpList_load_row rfl _ _ rfl B rfl 35 _ (0, 0) _ hset Tryd.underlying35 rfl info_set ?_)
          | (go_at_call 26; refine (HB.out _).mono ?_; rintro e wx ⟨rfl, hb⟩; have HN := Lib.hid ((NX.out _ hb).skip CN.out); clear hb))
        go_roundg (256 - (k + 1))
        case measure => have := HK.out; omega
        case rel => exact ⟨k + 1, HK.out, rfl, by go_num, HN.out⟩
      · rw [hcn] at HB
        have CN := Lib.hid hcn
        clear hcn
        go_wp2_with (first
          | (refine wpList_load_row rfl _ _ rfl B rfl 35 _ (0, 0) _ hset Tryd.underlying35 rfl info_set ?_)
          | (go_at_call 26; refine (HB.out _).mono ?_; rintro e wx ⟨rfl, hb⟩; have HN := Lib.hid (NX.out _ hb); have hown := HN.out.own; clear hb hset)
          | (at_builtin; refine wpList_append_own _ rfl _ _ 26 rfl (B + 1) 3 i0 (.int .i64 0) 1 8 Tryd.underlying26 hi hz0 hz1 hz2 rfl (by decide) _ _ _ rfl (hown.alloc _) ⟨wx.heap.size, 0, none⟩ 1 1 [.int .i64 (k : Int)] rfl rfl ?c1 ?c2 ?c3 ?c4 ?c5 ?_))
        case c1 => intro j u hj; cases j <;> simp at hj; subst hj; exact World.cell?_alloc_at _ _ _ _ rfl
        case c2 => intro u hu; simp at hu; subst hu; rfl
        case c3 => have := upto_length g k; have := HK.out; unfold maxLen; omega
        case c4 => have := upto_length g k; have := HK.out; omega
        case c5 => have := lt_of_block HN.out.set; simp only [World.size_alloc]; omega
        intro v' w9 hown' hgrow _
        have HM := Lib.hid (HN.out.more CN.out _ hown' hgrow)
        clear hown' hgrow hown
        go_wp2_with fail
        go_roundg (256 - (k + 1))
        case measure => have := HK.out; omega
        case rel => exact ⟨k + 1, HK.out, rfl, by go_num, HM.out⟩
    · obtain rfl : k = 256 := by omega
      have HO := Lib.hid hS.own
      have HL := Lib.hid hS.low
      have HB := Lib.hid hS.lo
      clear hS
      go_wp2_with fail
      go_ret
      refine ⟨_, rfl, ?_, HL.out⟩
      have := HO.out
      rw [HT.out] at this
      exact own_base this (by have := HB.out; omega)
end Go.Proofs.YtonfkaoobajbkaaDoor
