/-
  The contracts of connect's bit, known, codeFits, flagsFit. Condition: none.
  The contracts of connect's usedWill and used: a packet with just what it may have. Condition: none.
  The contract of varint.next: a reader's next state. Condition: none.
  The contracts of varint's reader. No condition.
  The contract of varint.Read. No condition but the length of a string.
  The contracts of head.described, head.flagsFit and head.Check. No condition.
-/
import Derived.Great.BuildSlice
import Derived.Deep.DeepCutAuto
import Derived.StillTailTactics
import Derived.IntWalk
import Derived.Test.YtaahhbjnflimnaaGreatK10
import Derived.Test.YtaahhbjnflimnaaGreatK12
import Derived.Test.YtaahhbjnflimnaaGreatK09
import Derived.Test.YtaahhbjnflimnaaGreatK08
namespace Go.Proofs.YtaahhbjnflimnaaGreat
open Go.RowKit

end Go.Proofs.YtaahhbjnflimnaaGreat
namespace Go.Proofs.YtaahhbjnflimnaaGreat
open Go.RowKit

/-- What stands while connect.used runs: the packet, the result, the new packet. -/
structure UsS (w : World) (p : Pk) (a : Ad) (x : Pk) (b : Ad) (W : World) : Prop where
  low : Below w.heap.size w W
  box : W.heap[w.heap.size]? = some (.cells (pkC p a) 28 (0, 0))
  res : W.heap[w.heap.size + 1]? = some (.cells pkZ 28 (0, 0))
  new : W.heap[w.heap.size + 1 + 1]? = some (.cells (pkC x b) 28 (0, 0))
section
variable {w W W' : World} {p x : Pk} {a b : Ad}
theorem UsS.cell (h : UsS w p a x b W) (j : Nat) : W.cell? ⟨w.heap.size, j, none⟩ = (pkC p a)[j]? := cell_of_row _ _ j _ _ _ h.box
theorem UsS.fr (h : UsS w p a x b W) (j : Nat) : W.frozen? ⟨w.heap.size + 1 + 1, j, none⟩ = false := frozen_of_row _ _ _ _ _ h.new
theorem UsS.put (h : UsS w p a x b W) (j : Nat) (u : Value) {x' : Pk} {b' : Ad} (he : (pkC x b).setIfInBounds j u = pkC x' b') : UsS w p a x' b' (W.setCell ⟨w.heap.size + 1 + 1, j, none⟩ u) :=
  ⟨h.low.setCell (by show _ ≤ w.heap.size + 1 + 1; omega) u, (heap_setCell_other W ⟨w.heap.size + 1 + 1, j, none⟩ _ u (by show w.heap.size ≠ w.heap.size + 1 + 1; omega)).trans h.box, (heap_setCell_other W ⟨w.heap.size + 1 + 1, j, none⟩ _ u (by show w.heap.size + 1 ≠ w.heap.size + 1 + 1; omega)).trans h.res,
   by have := setCell_block h.new j u; rw [he] at this; exact this⟩
theorem UsS.call (h : UsS w p a x b W) (hb : Below W.heap.size W W') : UsS w p a x b W' :=
  ⟨below_then h.low hb, (hb.block _ (lt_of_block h.box)).trans h.box, (hb.block _ (lt_of_block h.res)).trans h.res, (hb.block _ (lt_of_block h.new)).trans h.new⟩
theorem UsS.drew (h : UsS w p a x b W) : UsS w p a x b W.drew := ⟨h.low.drew, h.box, h.res, h.new⟩
end
end Go.Proofs.YtaahhbjnflimnaaGreat
namespace Go.Proofs.YtaahhbjnflimnaaGreat
open Go.RowKit

/-- varint.next. -/
theorem next_any (b : UInt8) (n : Nat) (w : World) :
    Calls Tryz.prog 252 #[.int .u8 b.toNat, .int .i64 n] w fun e w' => e = .returned (.int .i64 (nxt b n)) ∧ w = w' := by
  have hb := b.toNat_lt
  have ha := and_hi b
  by_cases h1 : 128 ≤ b.toNat
  · rw [if_pos h1] at ha
    by_cases h2 : n = 4
    · subst h2
      have e : nxt b 4 = 2 := nxt_two.2 (.inl ⟨h1, rfl⟩)
      rw [e]; clear e
      go_enter Tryz.func252, Tryz.ntmps252
      go_wp2
      go_ret
      exact ⟨rfl, rfl⟩
    · have e : nxt b n = 0 := nxt_zero.2 ⟨h1, h2⟩
      rw [e]; clear e
      have h3 : ((n : Int) == 4) = false := by simp; omega
      go_enter Tryz.func252, Tryz.ntmps252
      go_wp2
      go_ret
      exact ⟨rfl, rfl⟩
  · rw [if_neg h1] at ha
    by_cases h2 : b.toNat = 0
    · by_cases h3 : 1 < n
      · have e : nxt b n = 2 := nxt_two.2 (.inr ⟨h2, h3⟩)
        rw [e]; clear e
        rw [h2] at ha
        rw [h2]
        have h4 : decide ((1 : Int) < (n : Int)) = true := by simp; omega
        go_enter Tryz.func252, Tryz.ntmps252
        go_wp2
        go_ret
        exact ⟨rfl, rfl⟩
      · have e : nxt b n = 1 := nxt_one.2 ⟨by omega, .inr (by omega)⟩
        rw [e]; clear e
        rw [h2] at ha
        rw [h2]
        have h4 : decide ((1 : Int) < (n : Int)) = false := by simp; omega
        go_enter Tryz.func252, Tryz.ntmps252
        go_wp2
        go_ret
        exact ⟨rfl, rfl⟩
    · have e : nxt b n = 1 := nxt_one.2 ⟨by omega, .inl (by omega)⟩
      rw [e]; clear e
      have h4 : ((b.toNat : Int) == 0) = false := by simp; omega
      go_enter Tryz.func252, Tryz.ntmps252
      go_wp2
      go_ret
      exact ⟨rfl, rfl⟩

end Go.Proofs.YtaahhbjnflimnaaGreat
namespace Go.Proofs.YtaahhbjnflimnaaGreat
open Go.RowKit

/-- The cells of a reader that lies in block b. -/
def rdCells (b v n st : Nat) : Array Value := #[.pointer (some ⟨b, 0, none⟩), .int .i64 v, .int .i64 n, .int .i64 st]
/-- Block b is a reader with number v, size n and state st. -/
def Rd (w : World) (b v n st : Nat) : Prop := w.heap[b]? = some (.cells (rdCells b v n st) 212 (0, 0))

section
variable {w w' : World} {b v n st : Nat}
theorem Rd.lt (h : Rd w b v n st) : b < w.heap.size := lt_of_block h
theorem Rd.cell (h : Rd w b v n st) (j : Nat) : w.cell? ⟨b, j, none⟩ = (rdCells b v n st)[j]? := cell_of_row w b j _ _ (0, 0) h
theorem Rd.c0 (h : Rd w b v n st) : w.cell? ⟨b, 0, none⟩ = some (.pointer (some ⟨b, 0, none⟩)) := h.cell 0
theorem Rd.c1 (h : Rd w b v n st) : w.cell? ⟨b, 1, none⟩ = some (.int .i64 v) := h.cell 1
theorem Rd.c2 (h : Rd w b v n st) : w.cell? ⟨b, 2, none⟩ = some (.int .i64 n) := h.cell 2
theorem Rd.c3 (h : Rd w b v n st) : w.cell? ⟨b, 3, none⟩ = some (.int .i64 st) := h.cell 3
theorem Rd.fr (h : Rd w b v n st) (j : Nat) : w.frozen? ⟨b, j, none⟩ = false := by unfold Rd at h; simp [World.frozen?, h]
theorem Rd.draws (h : Rd w b v n st) (k : Nat) : Rd (w.drewN k) b v n st := h
theorem Rd.drew (h : Rd w b v n st) : Rd w.drew b v n st := h
theorem Rd.of_block (h : Rd w b v n st) (hb : w'.heap[b]? = w.heap[b]?) : Rd w' b v n st := hb.trans h
theorem Rd.val (h : Rd w b v n st) (u : Nat) : Rd (w.setCell ⟨b, 1, none⟩ (.int .i64 u)) b u n st := setCell_block h 1 _
theorem Rd.siz (h : Rd w b v n st) (u : Nat) : Rd (w.setCell ⟨b, 2, none⟩ (.int .i64 u)) b v u st := setCell_block h 2 _
theorem Rd.sta (h : Rd w b v n st) (u : Nat) : Rd (w.setCell ⟨b, 3, none⟩ (.int .i64 u)) b v n u := setCell_block h 3 _
end

theorem rd_info : ∃ j, Tryz.prog.info? 212 = some j := Option.isSome_iff_exists.1 (by kernel_rfl)

set_option maxHeartbeats 400000 in
theorem rd_valid {w : World} {b v n st : Nat} (hc : Rd w b v n st) :
    Calls Tryz.prog 251 #[.pointer (some ⟨b, 0, none⟩)] w fun e w' => e = .returned (.bool true) ∧ w = w' := by
  obtain ⟨j, hj⟩ := rd_info
  have heq := fun W : World => run_eql_ptr_same (P := Tryz.prog) W ⟨b, 0, none⟩ Tryz.underlying206 hj
  have h0 := hc.c0
  clear hj
  go_enter Tryz.func251, Tryz.ntmps251
  go_wp2
  go_ret
  exact ⟨rfl, rfl⟩
theorem rd_new (w : World) :
    Calls Tryz.prog 228 #[] w fun e w' => e = .returned (.pointer (some ⟨w.heap.size, 0, none⟩)) ∧ Rd w' w.heap.size 0 0 0 ∧ Below w.heap.size w w' := by
  go_enter Tryz.func228, Tryz.ntmps228
  go_wp2
  go_ret
  exact ⟨rfl, heap_alloc_new w _, (Below.refl _ _).alloc (Nat.le_refl _) _⟩

theorem or_grow (v n : Nat) (x : UInt8) (hv : v < 128 ^ n) (hn : n < 4) : bits .or .i64 (v : Int) (IntKind.i64.wrap ((x.toNat : Int) % 128 * 2 ^ (7 * (n : Int)).toNat)) = ((grow v n x : Nat) : Int) := by
  have e1 : (7 * (n : Int)).toNat = 7 * n := by omega
  have e128 : (128 : Nat) ^ n = 2 ^ (7 * n) := by rw [Nat.pow_mul]
  have hp : (2 : Nat) ^ (7 * n) ≤ 2 ^ 21 := Nat.pow_le_pow_right (by decide) (by omega)
  have hx : x.toNat % 128 ≤ 127 := by omega
  have hm : x.toNat % 128 * 2 ^ (7 * n) ≤ 127 * 2 ^ 21 := Nat.mul_le_mul hx hp
  have e2 : (x.toNat : Int) % 128 * 2 ^ (7 * n) = ((x.toNat % 128 * 2 ^ (7 * n) : Nat) : Int) := by simp
  unfold grow
  rw [e128] at hv ⊢
  rw [e1, e2, IntWalk.i64_in _ (by omega)]
  rw [(bits_nat .i64 28 (by decide) (fun m h0 h1 => IntWalk.i64_in _ (by omega)) v (x.toNat % 128 * 2 ^ (7 * n)) (by omega) (by omega)).2]
  congr 1
  rw [Nat.or_comm, Nat.mul_comm, ← Nat.two_pow_add_eq_or_of_lt hv (x.toNat % 128)]
  omega

set_option maxRecDepth 100000 in
set_option maxHeartbeats 1000000 in
theorem rd_push_more {w : World} {b v n : Nat} (x : UInt8) (hc : Rd w b v n 0) (hv : v < 128 ^ n) (hn : n < 4) (hx : nxt x (n + 1) = 0) :
    Calls Tryz.prog 229 #[.pointer (some ⟨b, 0, none⟩), .int .u8 x.toNat] w fun e w' => e = .returned (.tuple #[.bool false, .int .i64 0]) ∧ Rd w' b (grow v n x) (n + 1) 0 ∧ w.grownBy w' (some b) := by
  have h1 := hc.c1
  have h2 := hc.c2
  have h3 := hc.c3
  have f1 := hc.fr 1
  have f2 := hc.fr 2
  have f3 := hc.fr 3
  have ha := and_lo x
  have e1 : IntKind.i64.wrap ((x.toNat : Int) % 128) = (x.toNat : Int) % 128 := IntWalk.i64_in _ (by omega)
  have e2 : IntKind.i64.wrap (7 * (n : Int)) = 7 * (n : Int) := IntWalk.i64_in _ (by omega)
  have e3 : (0 : Int) ≤ 7 * (n : Int) := by omega
  have e4 := or_grow v n x hv hn
  have NX := Lib.hid (show ∀ W, Calls Tryz.prog 252 #[.int .u8 x.toNat, .int .i64 ((n : Int) + 1)] W fun e w' => e = .returned (.int .i64 0) ∧ W = w' from fun W => by
    have h := next_any x (n + 1) W
    rw [hx] at h
    exact h)
  clear hx
  generalize grow v n x = u at e4
  go_enter Tryz.func229, Tryz.ntmps229
  go_wp2_with (go_at_call 251; refine (rd_valid hc).mono ?_; rintro e' w' ⟨rfl, rfl⟩)
  go_still_tail 16, (by kernel_rfl)
  change wpList _ _ _ _ _ w.drew
  have hd : Rd w.drew b v n 0 := hc.drew
  have hg : w.grownBy w.drew (some b) := ⟨rfl, rfl, rfl, Nat.le_refl _, fun _ _ _ => rfl⟩
  generalize w.drew = W at hd hg
  clear h1 h2 h3 f1 f2 f3
  have h1 := hd.c1
  have h2 := hd.c2
  have h3 := hd.c3
  have f1 := hd.fr 1
  have f2 := hd.fr 2
  have f3 := hd.fr 3
  go_wp2_with (go_at_call 252; refine (NX.out _).mono ?_; rintro e' w' ⟨rfl, rfl⟩)
  go_ret2
  exact ⟨rfl, ((hd.val u).siz (n + 1)).sta 0, grown_then hg (grown_then (grown_then (block_kept _ _ _ _) (block_kept _ _ _ _)) (block_kept _ _ _ _))⟩
set_option maxRecDepth 100000 in
set_option maxHeartbeats 1000000 in
theorem rd_push_last {w : World} {b v n : Nat} (x : UInt8) (hc : Rd w b v n 0) (hv : v < 128 ^ n) (hn : n < 4) (hx : nxt x (n + 1) = 1) :
    Calls Tryz.prog 229 #[.pointer (some ⟨b, 0, none⟩), .int .u8 x.toNat] w fun e w' => e = .returned (.tuple #[.bool true, .int .i64 0]) ∧ Rd w' b (grow v n x) (n + 1) 1 ∧ w.grownBy w' (some b) := by
  have h1 := hc.c1
  have h2 := hc.c2
  have h3 := hc.c3
  have f1 := hc.fr 1
  have f2 := hc.fr 2
  have f3 := hc.fr 3
  have ha := and_lo x
  have e1 : IntKind.i64.wrap ((x.toNat : Int) % 128) = (x.toNat : Int) % 128 := IntWalk.i64_in _ (by omega)
  have e2 : IntKind.i64.wrap (7 * (n : Int)) = 7 * (n : Int) := IntWalk.i64_in _ (by omega)
  have e3 : (0 : Int) ≤ 7 * (n : Int) := by omega
  have e4 := or_grow v n x hv hn
  have NX := Lib.hid (show ∀ W, Calls Tryz.prog 252 #[.int .u8 x.toNat, .int .i64 ((n : Int) + 1)] W fun e w' => e = .returned (.int .i64 1) ∧ W = w' from fun W => by
    have h := next_any x (n + 1) W
    rw [hx] at h
    exact h)
  clear hx
  generalize grow v n x = u at e4
  go_enter Tryz.func229, Tryz.ntmps229
  go_wp2_with (go_at_call 251; refine (rd_valid hc).mono ?_; rintro e' w' ⟨rfl, rfl⟩)
  go_still_tail 16, (by kernel_rfl)
  change wpList _ _ _ _ _ w.drew
  have hd : Rd w.drew b v n 0 := hc.drew
  have hg : w.grownBy w.drew (some b) := ⟨rfl, rfl, rfl, Nat.le_refl _, fun _ _ _ => rfl⟩
  generalize w.drew = W at hd hg
  clear h1 h2 h3 f1 f2 f3
  have h1 := hd.c1
  have h2 := hd.c2
  have h3 := hd.c3
  have f1 := hd.fr 1
  have f2 := hd.fr 2
  have f3 := hd.fr 3
  go_wp2_with (go_at_call 252; refine (NX.out _).mono ?_; rintro e' w' ⟨rfl, rfl⟩)
  go_ret2
  exact ⟨rfl, ((hd.val u).siz (n + 1)).sta 1, grown_then hg (grown_then (grown_then (block_kept _ _ _ _) (block_kept _ _ _ _)) (block_kept _ _ _ _))⟩
set_option maxRecDepth 100000 in
set_option maxHeartbeats 1000000 in
theorem rd_push_bad {w : World} {b v n : Nat} (x : UInt8) (hc : Rd w b v n 0) (hv : v < 128 ^ n) (hn : n < 4) (hx : nxt x (n + 1) = 2) :
    Calls Tryz.prog 229 #[.pointer (some ⟨b, 0, none⟩), .int .u8 x.toNat] w fun e w' => e = .returned (.tuple #[.bool false, .int .i64 5]) ∧ Rd w' b (grow v n x) (n + 1) 2 ∧ w.grownBy w' (some b) := by
  have h1 := hc.c1
  have h2 := hc.c2
  have h3 := hc.c3
  have f1 := hc.fr 1
  have f2 := hc.fr 2
  have f3 := hc.fr 3
  have ha := and_lo x
  have e1 : IntKind.i64.wrap ((x.toNat : Int) % 128) = (x.toNat : Int) % 128 := IntWalk.i64_in _ (by omega)
  have e2 : IntKind.i64.wrap (7 * (n : Int)) = 7 * (n : Int) := IntWalk.i64_in _ (by omega)
  have e3 : (0 : Int) ≤ 7 * (n : Int) := by omega
  have e4 := or_grow v n x hv hn
  have NX := Lib.hid (show ∀ W, Calls Tryz.prog 252 #[.int .u8 x.toNat, .int .i64 ((n : Int) + 1)] W fun e w' => e = .returned (.int .i64 2) ∧ W = w' from fun W => by
    have h := next_any x (n + 1) W
    rw [hx] at h
    exact h)
  clear hx
  generalize grow v n x = u at e4
  go_enter Tryz.func229, Tryz.ntmps229
  go_wp2_with (go_at_call 251; refine (rd_valid hc).mono ?_; rintro e' w' ⟨rfl, rfl⟩)
  go_still_tail 16, (by kernel_rfl)
  change wpList _ _ _ _ _ w.drew
  have hd : Rd w.drew b v n 0 := hc.drew
  have hg : w.grownBy w.drew (some b) := ⟨rfl, rfl, rfl, Nat.le_refl _, fun _ _ _ => rfl⟩
  generalize w.drew = W at hd hg
  clear h1 h2 h3 f1 f2 f3
  have h1 := hd.c1
  have h2 := hd.c2
  have h3 := hd.c3
  have f1 := hd.fr 1
  have f2 := hd.fr 2
  have f3 := hd.fr 3
  go_wp2_with (go_at_call 252; refine (NX.out _).mono ?_; rintro e' w' ⟨rfl, rfl⟩)
  go_ret2
  exact ⟨rfl, ((hd.val u).siz (n + 1)).sta 2, grown_then hg (grown_then (grown_then (block_kept _ _ _ _) (block_kept _ _ _ _)) (block_kept _ _ _ _))⟩
end Go.Proofs.YtaahhbjnflimnaaGreat
namespace Go.Proofs.YtaahhbjnflimnaaGreat
open Go.RowKit

theorem drop_byte (s : ByteArray) (k : Nat) (h : k < s.size) : s.data.toList.drop k = s[k] :: s.data.toList.drop (k + 1) := by
  rw [List.drop_eq_getElem_cons (by simpa using h)]; rfl
theorem drop_all (s : ByteArray) : s.data.toList.drop s.size = [] := List.drop_of_length_le (by simp)

/-- What Read returns. -/
def ReadRet (l : List UInt8) : Ending := .returned (.tuple #[.int .i64 (rdV l), .int .i64 (rdN l), .int .i64 (rdE l)])
theorem readRet_of {l : List UInt8} {v n st : Nat} {a b c : Int} (h : run 0 0 l = (v, n, st)) (ha : ((if st = 1 then v else 0 : Nat) : Int) = a) (hb : ((if st = 1 then n else 0 : Nat) : Int) = b)
    (hc : ((if st = 0 then 3 else if st = 1 then 0 else 5 : Nat) : Int) = c) : Ending.returned (.tuple #[.int .i64 a, .int .i64 b, .int .i64 c]) = ReadRet l := by
  obtain ⟨h1, h2, h3⟩ := rd_of h
  rw [← ha, ← hb, ← hc, ← h1, ← h2, ← h3]; rfl
def ReadPost (l : List UInt8) (w : World) (e : Ending) (w' : World) : Prop := e = ReadRet l ∧ Below w.heap.size w w'

/-- At the head of a round: k bytes are pushed, and the reader is open. -/
def ReadAt (w : World) (l : List UInt8) (k : Nat) (wr : World) : Prop := ∃ v, k < 4 ∧ v < 128 ^ k ∧ Rd wr w.heap.size v k 0 ∧ Below w.heap.size w wr ∧ run 0 0 l = run v k (l.drop k)

theorem read_step {w wr w1 : World} (hb : Below w.heap.size w wr) (hg : wr.grownBy w1 (some w.heap.size)) : Below w.heap.size w w1 :=
  hb.grown hg hb.size (fun k hk => by cases hk; exact Nat.le_refl _)

set_option maxHeartbeats 1000000 in
theorem read_any (s : ByteArray) (w : World) (_hm : s.size ≤ 9223372036854775807) :
    Calls Tryz.prog 199 #[.string s] w (ReadPost s.data.toList w) := by
  go_enter Tryz.func199, Tryz.ntmps199
  go_wp2_with fail
  refine (rd_new _).mono ?_
  rintro e w1 ⟨rfl, hr, hb⟩
  have H := Lib.hid (show ReadAt w s.data.toList 0 w1 from ⟨0, by decide, by decide, hr, hb, rfl⟩)
  clear hr hb
  go_wp2_with fail
  go_loopw [12] (fun i wr => ∃ k : Nat, k ≤ s.size ∧ i = .int .i64 k ∧ ReadAt w s.data.toList k wr) (fun i _ => s.size - (intOf i).toNat)
  case atStart => exact ⟨0, Nat.zero_le _, rfl, H.out⟩
  case round =>
    obtain ⟨k, hk, rfl, v, hk4, hv, hr, hb, hrun⟩ := hrel
    clear H
    by_cases hlt : k < s.size
    · have hd := drop_byte s k hlt
      have RUN := Lib.hid hrun
      have D := Lib.hid hd
      clear hrun hd
      rcases nxt_cases s[k] (k + 1) with hx | hx | hx
      · have NX := Lib.hid hx
        clear hx
        go_wp2_with fail
        refine (rd_push_more s[k] hr hv hk4 NX.out).mono ?_
        rintro e w2 ⟨rfl, hr2, hg⟩
        have hb2 := read_step hb hg
        go_wp2_with fail
        go_roundw
        case rel =>
          have h4 := (nxt_zero.1 NX.out).2
          refine ⟨k + 1, by omega, by go_num, _, by omega, grow_lt _ hv, hr2, hb2, ?_⟩
          rw [RUN.out, D.out, run_open _ NX.out]
        case measure => simp [intOf]; omega
      · have NX := Lib.hid hx
        clear hx
        go_wp2_with fail
        refine (rd_push_last s[k] hr hv hk4 NX.out).mono ?_
        rintro e w2 ⟨rfl, hr2, hg⟩
        have hb2 := read_step hb hg
        have RR := Lib.hid (readRet_of (l := s.data.toList) (v := grow v k s[k]) (n := k + 1) (st := 1) (by rw [RUN.out, D.out, run_shut _ (by rw [NX.out]; decide), NX.out]) rfl rfl rfl)
        have h1 := hr2.c1
        have h2 := hr2.c2
        go_wp2_with fail
        go_quiet (fail)
        go_wp2
        go_ret3
        exact ⟨RR.out, below_draws hb2 _⟩
      · have NX := Lib.hid hx
        clear hx
        go_wp2_with fail
        refine (rd_push_bad s[k] hr hv hk4 NX.out).mono ?_
        rintro e w2 ⟨rfl, hr2, hg⟩
        have hb2 := read_step hb hg
        have RR := Lib.hid (readRet_of (l := s.data.toList) (v := grow v k s[k]) (n := k + 1) (st := 2) (by rw [RUN.out, D.out, run_shut _ (by rw [NX.out]; decide), NX.out]) rfl rfl rfl)
        go_wp2_with fail
        go_ret3
        exact ⟨RR.out, hb2⟩
    · obtain rfl : k = s.size := by omega
      have RR := Lib.hid (readRet_of (l := s.data.toList) (v := v) (n := s.size) (st := 0) (by rw [hrun, drop_all]; rfl) rfl rfl rfl)
      clear hrun
      go_wp2
      go_ret3
      exact ⟨RR.out, hb⟩
end Go.Proofs.YtaahhbjnflimnaaGreat
namespace Go.Proofs.YtaahhbjnflimnaaGreat
open Go.RowKit

/-- A header as a value. -/
def hdV (h : Hd) : Value := .agg #[.int .i64 h.kind, .int .i64 h.flags, .int .i64 h.length]
def DesRet (k : Int) (d r : Bool) (q : Int) (w : World) (e : Ending) (w' : World) : Prop :=
  ∃ c : Array Value, e = .returned (.agg c) ∧ c.size = 25 ∧ c[0]? = some (.int .i64 k) ∧ c[1]? = some (.bool d) ∧ c[2]? = some (.bool r) ∧ c[3]? = some (.int .i64 q) ∧ Below w.heap.size w w'
set_option maxRecDepth 100000 in
set_option maxHeartbeats 1000000 in
theorem described_any (h : Hd) (w : World) : Calls Tryz.prog 195 #[hdV h] w (DesRet h.kind (bits .and .i64 h.flags 8 != 0) (bits .and .i64 h.flags 1 != 0) (wrap64 ((bits .and .i64 h.flags 6).tdiv 2)) w) := by
  have hzv := zero_pk
  have HZ := Lib.hid pkZ_size
  have HB := Lib.hid (fun o o' => below_then (below_box (w := w) o) (below_box o'))
  have HN := Lib.hid (fun o o' => heap_alloc2_new w o o')
  have hne : ¬ pkZ = #[] := by intro h; have := pkZ_size; rw [h] at this; cases this
  generalize pkZ = Z at hzv HZ hne
  generalize hD : pkD h.kind (bits .and .i64 h.flags 8 != 0) (bits .and .i64 h.flags 1 != 0) (wrap64 ((bits .and .i64 h.flags 6).tdiv 2)) = D
  have HD := Lib.hid hD
  clear hD
  unfold hdV
  go_enter Tryz.func195, Tryz.ntmps195
  go_wp2_with (first
    | (refine wpList_buildTo rfl 28 _ rfl (some 17) rfl D (by rw [← HD.out]; kernel_rfl) ?_)
    | (refine wpList_store_row rfl _ _ _ rfl (w.heap.size + 1) D rfl rfl 28 _ (HN.out _ _) ?c1 ?c2 ?c3 ?_))
  case c1 => rw [← HD.out]; exact info_pk
  case c2 => rw [HZ.out, ← HD.out]; rfl
  case c3 => rw [← HD.out]; exact pkD_one _ _ _ _
  refine ret_row (cs := D) rfl rfl rfl Tryz.underlying28 rfl (by rw [← HD.out]; exact info_pk) (setRow_heap _ _ _ _ _ _ (HN.out _ _)) ?_
  rw [← HD.out]
  exact ⟨_, rfl, rfl, rfl, rfl, rfl, rfl, belowRow (HB.out _ _) (by omega) _⟩

/-- Which flags a packet can have: those that the packet that they describe has. -/
def fitH (k f : Int) : Bool := (flagsO k (bits .and .i64 f 8 != 0) (bits .and .i64 f 1 != 0) (wrap64 ((bits .and .i64 f 6).tdiv 2))).2 == 0 && (flagsO k (bits .and .i64 f 8 != 0) (bits .and .i64 f 1 != 0) (wrap64 ((bits .and .i64 f 6).tdiv 2))).1 == f
theorem flagsO_range (k : Int) (d r : Bool) (q : Int) : 0 ≤ (flagsO k d r q).1 ∧ (flagsO k d r q).1 ≤ 15 := by
  unfold flagsO
  split
  · exact ⟨by decide, by decide⟩
  split
  · cases h : qosOk d q
    · exact ⟨Int.le_refl 0, show (0 : Int) ≤ 15 by decide⟩
    · rw [if_pos rfl]
      unfold qosOk at h
      simp only [Bool.and_eq_true, decide_eq_true_eq, Bool.not_eq_true'] at h
      obtain ⟨⟨q0, q2⟩, _⟩ := h
      unfold packF
      cases d <;> cases r <;> simp <;> omega
  · exact ⟨by decide, by decide⟩
theorem fit_flags (k f : Int) : fitH k f = flagsH k f := by
  by_cases hf : 0 ≤ f ∧ f ≤ 15
  · have : f = 0 ∨ f = 1 ∨ f = 2 ∨ f = 3 ∨ f = 4 ∨ f = 5 ∨ f = 6 ∨ f = 7 ∨ f = 8 ∨ f = 9 ∨ f = 10 ∨ f = 11 ∨ f = 12 ∨ f = 13 ∨ f = 14 ∨ f = 15 := by omega
    by_cases h3 : k = 3
    · subst h3
      rcases this with rfl | rfl | rfl | rfl | rfl | rfl | rfl | rfl | rfl | rfl | rfl | rfl | rfl | rfl | rfl | rfl <;> decide +kernel
    by_cases h6 : k = 6 ∨ k = 8 ∨ k = 10
    · unfold fitH flagsO flagsH
      rw [if_pos h6, if_neg h3, if_pos h6, beq_self_eq_true, Bool.true_and, Bool.eq_iff_iff, beq_iff_eq, beq_iff_eq]
      exact eq_comm
    · unfold fitH flagsO flagsH
      rw [if_neg h6, if_neg h3, if_neg h3, if_neg h6, beq_self_eq_true, Bool.true_and, Bool.eq_iff_iff, beq_iff_eq, beq_iff_eq]
      exact eq_comm
  · have h1 : fitH k f = false := by
      unfold fitH
      have := flagsO_range k (bits .and .i64 f 8 != 0) (bits .and .i64 f 1 != 0) (wrap64 ((bits .and .i64 f 6).tdiv 2))
      generalize flagsO k (bits .and .i64 f 8 != 0) (bits .and .i64 f 1 != 0) (wrap64 ((bits .and .i64 f 6).tdiv 2)) = z at *
      rw [Bool.and_eq_false_iff]
      right
      rw [beq_eq_false_iff_ne]
      omega
    rw [h1]
    cases h : flagsH k f
    · rfl
    · exact absurd (flags_range h) hf

/-- head.flagsFit. -/
theorem flags_fit_any (h : Hd) (w : World) : Calls Tryz.prog 139 #[hdV h] w fun e w' => e = .returned (.bool (flagsH h.kind h.flags)) ∧ Below w.heap.size w w' := by
  rw [← fit_flags]
  unfold fitH
  have D := Lib.hid (described_any h)
  generalize (bits .and .i64 h.flags 8 != 0) = d at *
  generalize (bits .and .i64 h.flags 1 != 0) = r at *
  generalize (wrap64 ((bits .and .i64 h.flags 6).tdiv 2)) = q at *
  have HB := Lib.hid (fun o => below_box (w := w) o)
  have F := Lib.hid (fun (c : Array Value) (W : World) (hs : c.size = 25) (h0 : c[0]? = some (.int .i64 h.kind)) (h1 : c[1]? = some (.bool d)) (h2 : c[2]? = some (.bool r)) (h3 : c[3]? = some (.int .i64 q)) => flags_of W hs h0 h1 h2 h3)
  generalize flagsO h.kind d r q = z at *
  obtain ⟨k, f, l⟩ := h
  obtain ⟨B, hB⟩ : ∃ B, (z.2 == 0 && z.1 == (⟨k, f, l⟩ : Hd).flags) = B := ⟨_, rfl⟩
  rw [hB]
  have EB := Lib.hid hB
  clear hB
  unfold hdV at *
  go_enter Tryz.func139, Tryz.ntmps139
  go_wp2_with fail
  refine (D.out _).mono ?_
  rintro e w' ⟨c, rfl, hs, h0, h1, h2, h3, hb⟩
  have FF := Lib.hid (F.out c w' hs h0 h1 h2 h3)
  have B2 := Lib.hid (below_then (HB.out _) hb)
  clear hs h0 h1 h2 h3
  obtain ⟨x, y⟩ := z
  have hc := hb.cell (p := ⟨w.heap.size, 1, none⟩) (by simp)
  rw [World.cell?_alloc_at _ _ _ _ rfl] at hc
  have HS := Lib.hid (show w.heap.size < w'.heap.size by have := hb.size; rw [World.size_alloc] at this; omega)
  clear hb
  go_wp2_with fail
  refine (FF.out).mono ?_
  rintro e w2 ⟨rfl, hb⟩
  have B3 := Lib.hid (below_then B2.out hb)
  have hc2 := (hb.cell (p := ⟨w.heap.size, 1, none⟩) HS.out).trans hc
  clear hc hb
  by_cases hy : y = 0
  · subst hy
    have hx : (x == f) = B := EB.out
    have HX := Lib.hid hx
    clear hx
    go_wp2_with fail
    go_ret
    exact ⟨congrArg (fun b => Ending.returned (Value.bool b)) HX.out, B3.out⟩
  · have hy2 : ((y : Int) == 0) = false := by simp; omega
    have hy3 : false = B := by rw [← EB.out]; show false = ((y == 0) && (x == f)); simp [hy]
    have HX := Lib.hid hy3
    clear hy3 hy
    go_wp2_with fail
    go_ret
    exact ⟨congrArg (fun b => Ending.returned (Value.bool b)) HX.out, B3.out⟩

/-- head.Check. -/
theorem hcheck_any (v : Int) (h : Hd) (w : World) : Calls Tryz.prog 79 #[.int .i64 v, hdV h] w fun e w' => e = .returned (.int .i64 (checkH v h : Nat)) ∧ Below w.heap.size w w' := by
  have K := Lib.hid (check_kind v h.kind)
  have F := Lib.hid (flags_fit_any h)
  have S := Lib.hid (size_any h.length)
  have HB := Lib.hid (fun o => below_box (w := w) o)
  by_cases hk : kindE v h.kind = 0
  · rw [hk] at K
    cases hf : flagsH h.kind h.flags
    · have e : checkH v h = 7 := by
        unfold kindE at hk
        unfold checkH
        cases hv : verH v
        · rw [hv] at hk; cases hk
        · cases hv2 : kindH v h.kind
          · rw [hv, hv2] at hk; cases hk
          · rw [hf]; rfl
      rw [e]
      rw [hf] at F
      clear e hf hk
      obtain ⟨k, f, l⟩ := h
      unfold hdV at *
      go_enter Tryz.func79, Tryz.ntmps79
      go_wp2_with fail
      refine (K.out _).mono ?_
      rintro e w' ⟨rfl, rfl⟩
      go_wp2_with fail
      refine (F.out _).mono ?_
      rintro e w' ⟨rfl, hb⟩
      have B2 := Lib.hid (below_then (HB.out _) hb)
      clear hb
      go_wp2_with fail
      go_ret
      exact ⟨rfl, B2.out⟩
    · rw [hf] at F
      have e : checkH v h = if sz h.length = 0 then 2 else 0 := by
        unfold kindE at hk
        unfold checkH
        cases hv : verH v
        · rw [hv] at hk; cases hk
        · cases hv2 : kindH v h.kind
          · rw [hv, hv2] at hk; cases hk
          · rw [hf]
            simp only [Bool.true_eq_false, if_false]
            by_cases hl : h.length < 0 ∨ 268435455 < h.length
            · rw [if_pos hl, if_pos (sz_zero.2 hl)]
            · rw [if_neg hl, if_neg (fun h0 => hl (sz_zero.1 h0))]
      rw [e]
      clear e hf hk
      obtain ⟨k, f, l⟩ := h
      unfold hdV at *
      by_cases h0 : sz l = 0
      · rw [if_pos h0]
        rw [show sz (⟨k, f, l⟩ : Hd).length = sz l from rfl, h0] at S
        clear h0
        go_enter Tryz.func79, Tryz.ntmps79
        go_wp2_with fail
        refine (K.out _).mono ?_
        rintro e w' ⟨rfl, rfl⟩
        go_wp2_with fail
        refine (F.out _).mono ?_
        rintro e w' ⟨rfl, hb⟩
        have B2 := Lib.hid (below_then (HB.out _) hb)
        have hc := hb.cell (p := ⟨w.heap.size, 2, none⟩) (by simp)
        rw [World.cell?_alloc_at _ _ _ _ rfl] at hc
        clear hb
        go_wp2_with fail
        refine (S.out _).mono ?_
        rintro e w' ⟨rfl, rfl⟩
        go_wp2_with fail
        go_ret
        exact ⟨rfl, B2.out⟩
      · rw [if_neg h0]
        have hn : ((sz l : Int) == 0) = false := by simp; omega
        clear h0
        go_enter Tryz.func79, Tryz.ntmps79
        go_wp2_with fail
        refine (K.out _).mono ?_
        rintro e w' ⟨rfl, rfl⟩
        go_wp2_with fail
        refine (F.out _).mono ?_
        rintro e w' ⟨rfl, hb⟩
        have B2 := Lib.hid (below_then (HB.out _) hb)
        have hc := hb.cell (p := ⟨w.heap.size, 2, none⟩) (by simp)
        rw [World.cell?_alloc_at _ _ _ _ rfl] at hc
        clear hb
        go_wp2_with fail
        refine (S.out _).mono ?_
        rintro e w' ⟨rfl, rfl⟩
        go_wp2_with fail
        go_ret
        exact ⟨rfl, B2.out⟩
  · have e : ((checkH v h : Nat) : Int) = kindE v h.kind := by
      unfold kindE at hk ⊢
      unfold checkH
      cases hv : verH v
      · rfl
      · cases hv2 : kindH v h.kind
        · rfl
        · rw [hv, hv2] at hk; exact absurd rfl hk
    rw [e]
    have hn : (kindE v h.kind == 0) = false := by rw [beq_eq_false_iff_ne]; exact hk
    clear e hk F S
    obtain ⟨k, f, l⟩ := h
    unfold hdV at *
    generalize kindE v k = z at *
    go_enter Tryz.func79, Tryz.ntmps79
    go_wp2_with fail
    refine (K.out _).mono ?_
    rintro e w' ⟨rfl, rfl⟩
    go_wp2_with fail
    go_ret
    exact ⟨rfl, HB.out _⟩
end Go.Proofs.YtaahhbjnflimnaaGreat
