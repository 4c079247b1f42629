/-
  The contract of varint.next: a reader's next state. Condition: none.
  The contracts of varint's reader. No condition.
  The contract of varint.Read. No condition but the length of a string.
  The contracts of polyglotkit.LightProps and what it calls. Condition: strings no longer than memory allows.
-/
import Derived.StillTailTactics
import Derived.IntWalk
import Derived.Deep.LoopGhost
import Derived.Deep.QuietTactic
import Derived.WalkSmall
import Derived.Test.YtaahhbjnflimnaaGreatK22
import Derived.Test.YtaahhbjnflimnaaGreatK13
import Derived.Test.YtaahhbjnflimnaaGreatK14
namespace Go.Proofs.YtaahhbjnflimnaaGreat
open Go.RowKit

/-- varint.next. -/
theorem next_any (b : UInt8) (n : Nat) (w : World) :
    Calls Tryz.prog 252 #[.int .u8 b.toNat, .int .i64 n] w fun e w' => e = .returned (.int .i64 (nxt b n)) ∧ w = w' := by
  have hb := b.toNat_lt
  have ha := and_hi b
  by_cases h1 : 128 ≤ b.toNat
  · rw [if_pos h1] at ha
    by_cases h2 : n = 4
    · subst h2
      have e : nxt b 4 = 2 := nxt_two.2 (.inl ⟨h1, rfl⟩)
      rw [e]; clear e
      go_enter Tryz.func252, Tryz.ntmps252
      go_wp2
      go_ret
      exact ⟨rfl, rfl⟩
    · have e : nxt b n = 0 := nxt_zero.2 ⟨h1, h2⟩
      rw [e]; clear e
      have h3 : ((n : Int) == 4) = false := by simp; omega
      go_enter Tryz.func252, Tryz.ntmps252
      go_wp2
      go_ret
      exact ⟨rfl, rfl⟩
  · rw [if_neg h1] at ha
    by_cases h2 : b.toNat = 0
    · by_cases h3 : 1 < n
      · have e : nxt b n = 2 := nxt_two.2 (.inr ⟨h2, h3⟩)
        rw [e]; clear e
        rw [h2] at ha
        rw [h2]
        have h4 : decide ((1 : Int) < (n : Int)) = true := by simp; omega
        go_enter Tryz.func252, Tryz.ntmps252
        go_wp2
        go_ret
        exact ⟨rfl, rfl⟩
      · have e : nxt b n = 1 := nxt_one.2 ⟨by omega, .inr (by omega)⟩
        rw [e]; clear e
        rw [h2] at ha
        rw [h2]
        have h4 : decide ((1 : Int) < (n : Int)) = false := by simp; omega
        go_enter Tryz.func252, Tryz.ntmps252
        go_wp2
        go_ret
        exact ⟨rfl, rfl⟩
    · have e : nxt b n = 1 := nxt_one.2 ⟨by omega, .inl (by omega)⟩
      rw [e]; clear e
      have h4 : ((b.toNat : Int) == 0) = false := by simp; omega
      go_enter Tryz.func252, Tryz.ntmps252
      go_wp2
      go_ret
      exact ⟨rfl, rfl⟩

end Go.Proofs.YtaahhbjnflimnaaGreat
namespace Go.Proofs.YtaahhbjnflimnaaGreat
open Go.RowKit

/-- The cells of a reader that lies in block b. -/
def rdCells (b v n st : Nat) : Array Value := #[.pointer (some ⟨b, 0, none⟩), .int .i64 v, .int .i64 n, .int .i64 st]
/-- Block b is a reader with number v, size n and state st. -/
def Rd (w : World) (b v n st : Nat) : Prop := w.heap[b]? = some (.cells (rdCells b v n st) 212 (0, 0))

section
variable {w w' : World} {b v n st : Nat}
theorem Rd.lt (h : Rd w b v n st) : b < w.heap.size := lt_of_block h
theorem Rd.cell (h : Rd w b v n st) (j : Nat) : w.cell? ⟨b, j, none⟩ = (rdCells b v n st)[j]? := cell_of_row w b j _ _ (0, 0) h
theorem Rd.c0 (h : Rd w b v n st) : w.cell? ⟨b, 0, none⟩ = some (.pointer (some ⟨b, 0, none⟩)) := h.cell 0
theorem Rd.c1 (h : Rd w b v n st) : w.cell? ⟨b, 1, none⟩ = some (.int .i64 v) := h.cell 1
theorem Rd.c2 (h : Rd w b v n st) : w.cell? ⟨b, 2, none⟩ = some (.int .i64 n) := h.cell 2
theorem Rd.c3 (h : Rd w b v n st) : w.cell? ⟨b, 3, none⟩ = some (.int .i64 st) := h.cell 3
theorem Rd.fr (h : Rd w b v n st) (j : Nat) : w.frozen? ⟨b, j, none⟩ = false := by unfold Rd at h; simp [World.frozen?, h]
theorem Rd.draws (h : Rd w b v n st) (k : Nat) : Rd (w.drewN k) b v n st := h
theorem Rd.drew (h : Rd w b v n st) : Rd w.drew b v n st := h
theorem Rd.of_block (h : Rd w b v n st) (hb : w'.heap[b]? = w.heap[b]?) : Rd w' b v n st := hb.trans h
theorem Rd.val (h : Rd w b v n st) (u : Nat) : Rd (w.setCell ⟨b, 1, none⟩ (.int .i64 u)) b u n st := setCell_block h 1 _
theorem Rd.siz (h : Rd w b v n st) (u : Nat) : Rd (w.setCell ⟨b, 2, none⟩ (.int .i64 u)) b v u st := setCell_block h 2 _
theorem Rd.sta (h : Rd w b v n st) (u : Nat) : Rd (w.setCell ⟨b, 3, none⟩ (.int .i64 u)) b v n u := setCell_block h 3 _
end

theorem rd_info : ∃ j, Tryz.prog.info? 212 = some j := Option.isSome_iff_exists.1 (by kernel_rfl)

set_option maxHeartbeats 400000 in
theorem rd_valid {w : World} {b v n st : Nat} (hc : Rd w b v n st) :
    Calls Tryz.prog 251 #[.pointer (some ⟨b, 0, none⟩)] w fun e w' => e = .returned (.bool true) ∧ w = w' := by
  obtain ⟨j, hj⟩ := rd_info
  have heq := fun W : World => run_eql_ptr_same (P := Tryz.prog) W ⟨b, 0, none⟩ Tryz.underlying206 hj
  have h0 := hc.c0
  clear hj
  go_enter Tryz.func251, Tryz.ntmps251
  go_wp2
  go_ret
  exact ⟨rfl, rfl⟩
theorem rd_valid_nil (w : World) :
    Calls Tryz.prog 251 #[.pointer none] w fun e w' => e = .returned (.bool false) ∧ w = w' := by
  go_enter Tryz.func251, Tryz.ntmps251
  go_wp2
  go_ret
  exact ⟨rfl, rfl⟩

theorem rd_new (w : World) :
    Calls Tryz.prog 228 #[] w fun e w' => e = .returned (.pointer (some ⟨w.heap.size, 0, none⟩)) ∧ Rd w' w.heap.size 0 0 0 ∧ Below w.heap.size w w' := by
  go_enter Tryz.func228, Tryz.ntmps228
  go_wp2
  go_ret
  exact ⟨rfl, heap_alloc_new w _, (Below.refl _ _).alloc (Nat.le_refl _) _⟩

theorem rd_push_shut {w : World} {b v n st : Nat} (x : UInt8) (hc : Rd w b v n st) (hs : ((st : Int) != 0) = true) :
    Calls Tryz.prog 229 #[.pointer (some ⟨b, 0, none⟩), .int .u8 x.toNat] w fun e w' => e = .returned (.tuple #[.bool false, .int .i64 13]) ∧ w = w' := by
  have h3 := hc.c3
  go_enter Tryz.func229, Tryz.ntmps229
  go_wp2_with (go_at_call 251; refine (rd_valid hc).mono ?_; rintro e' w' ⟨rfl, rfl⟩)
  go_ret2
  exact ⟨rfl, rfl⟩
theorem rd_push_nil (x : Int) (w : World) :
    Calls Tryz.prog 229 #[.pointer none, .int .u8 x] w fun e w' => e = .returned (.tuple #[.bool false, .int .i64 1]) ∧ w = w' := by
  go_enter Tryz.func229, Tryz.ntmps229
  go_wp2_with (go_at_call 251; refine (rd_valid_nil _).mono ?_; rintro e' w' ⟨rfl, rfl⟩)
  go_ret2
  exact ⟨rfl, rfl⟩

theorem or_grow (v n : Nat) (x : UInt8) (hv : v < 128 ^ n) (hn : n < 4) : bits .or .i64 (v : Int) (IntKind.i64.wrap ((x.toNat : Int) % 128 * 2 ^ (7 * (n : Int)).toNat)) = ((grow v n x : Nat) : Int) := by
  have e1 : (7 * (n : Int)).toNat = 7 * n := by omega
  have e128 : (128 : Nat) ^ n = 2 ^ (7 * n) := by rw [Nat.pow_mul]
  have hp : (2 : Nat) ^ (7 * n) ≤ 2 ^ 21 := Nat.pow_le_pow_right (by decide) (by omega)
  have hx : x.toNat % 128 ≤ 127 := by omega
  have hm : x.toNat % 128 * 2 ^ (7 * n) ≤ 127 * 2 ^ 21 := Nat.mul_le_mul hx hp
  have e2 : (x.toNat : Int) % 128 * 2 ^ (7 * n) = ((x.toNat % 128 * 2 ^ (7 * n) : Nat) : Int) := by simp
  unfold grow
  rw [e128] at hv ⊢
  rw [e1, e2, IntWalk.i64_in _ (by omega)]
  rw [(bits_nat .i64 28 (by decide) (fun m h0 h1 => IntWalk.i64_in _ (by omega)) v (x.toNat % 128 * 2 ^ (7 * n)) (by omega) (by omega)).2]
  congr 1
  rw [Nat.or_comm, Nat.mul_comm, ← Nat.two_pow_add_eq_or_of_lt hv (x.toNat % 128)]
  omega

set_option maxRecDepth 100000 in
set_option maxHeartbeats 1000000 in
theorem rd_push_more {w : World} {b v n : Nat} (x : UInt8) (hc : Rd w b v n 0) (hv : v < 128 ^ n) (hn : n < 4) (hx : nxt x (n + 1) = 0) :
    Calls Tryz.prog 229 #[.pointer (some ⟨b, 0, none⟩), .int .u8 x.toNat] w fun e w' => e = .returned (.tuple #[.bool false, .int .i64 0]) ∧ Rd w' b (grow v n x) (n + 1) 0 ∧ w.grownBy w' (some b) := by
  have h1 := hc.c1
  have h2 := hc.c2
  have h3 := hc.c3
  have f1 := hc.fr 1
  have f2 := hc.fr 2
  have f3 := hc.fr 3
  have ha := and_lo x
  have e1 : IntKind.i64.wrap ((x.toNat : Int) % 128) = (x.toNat : Int) % 128 := IntWalk.i64_in _ (by omega)
  have e2 : IntKind.i64.wrap (7 * (n : Int)) = 7 * (n : Int) := IntWalk.i64_in _ (by omega)
  have e3 : (0 : Int) ≤ 7 * (n : Int) := by omega
  have e4 := or_grow v n x hv hn
  have NX := Lib.hid (show ∀ W, Calls Tryz.prog 252 #[.int .u8 x.toNat, .int .i64 ((n : Int) + 1)] W fun e w' => e = .returned (.int .i64 0) ∧ W = w' from fun W => by
    have h := next_any x (n + 1) W
    rw [hx] at h
    exact h)
  clear hx
  generalize grow v n x = u at e4
  go_enter Tryz.func229, Tryz.ntmps229
  go_wp2_with (go_at_call 251; refine (rd_valid hc).mono ?_; rintro e' w' ⟨rfl, rfl⟩)
  go_still_tail 16, (by kernel_rfl)
  change wpList _ _ _ _ _ w.drew
  have hd : Rd w.drew b v n 0 := hc.drew
  have hg : w.grownBy w.drew (some b) := ⟨rfl, rfl, rfl, Nat.le_refl _, fun _ _ _ => rfl⟩
  generalize w.drew = W at hd hg
  clear h1 h2 h3 f1 f2 f3
  have h1 := hd.c1
  have h2 := hd.c2
  have h3 := hd.c3
  have f1 := hd.fr 1
  have f2 := hd.fr 2
  have f3 := hd.fr 3
  go_wp2_with (go_at_call 252; refine (NX.out _).mono ?_; rintro e' w' ⟨rfl, rfl⟩)
  go_ret2
  exact ⟨rfl, ((hd.val u).siz (n + 1)).sta 0, grown_then hg (grown_then (grown_then (block_kept _ _ _ _) (block_kept _ _ _ _)) (block_kept _ _ _ _))⟩
set_option maxRecDepth 100000 in
set_option maxHeartbeats 1000000 in
theorem rd_push_last {w : World} {b v n : Nat} (x : UInt8) (hc : Rd w b v n 0) (hv : v < 128 ^ n) (hn : n < 4) (hx : nxt x (n + 1) = 1) :
    Calls Tryz.prog 229 #[.pointer (some ⟨b, 0, none⟩), .int .u8 x.toNat] w fun e w' => e = .returned (.tuple #[.bool true, .int .i64 0]) ∧ Rd w' b (grow v n x) (n + 1) 1 ∧ w.grownBy w' (some b) := by
  have h1 := hc.c1
  have h2 := hc.c2
  have h3 := hc.c3
  have f1 := hc.fr 1
  have f2 := hc.fr 2
  have f3 := hc.fr 3
  have ha := and_lo x
  have e1 : IntKind.i64.wrap ((x.toNat : Int) % 128) = (x.toNat : Int) % 128 := IntWalk.i64_in _ (by omega)
  have e2 : IntKind.i64.wrap (7 * (n : Int)) = 7 * (n : Int) := IntWalk.i64_in _ (by omega)
  have e3 : (0 : Int) ≤ 7 * (n : Int) := by omega
  have e4 := or_grow v n x hv hn
  have NX := Lib.hid (show ∀ W, Calls Tryz.prog 252 #[.int .u8 x.toNat, .int .i64 ((n : Int) + 1)] W fun e w' => e = .returned (.int .i64 1) ∧ W = w' from fun W => by
    have h := next_any x (n + 1) W
    rw [hx] at h
    exact h)
  clear hx
  generalize grow v n x = u at e4
  go_enter Tryz.func229, Tryz.ntmps229
  go_wp2_with (go_at_call 251; refine (rd_valid hc).mono ?_; rintro e' w' ⟨rfl, rfl⟩)
  go_still_tail 16, (by kernel_rfl)
  change wpList _ _ _ _ _ w.drew
  have hd : Rd w.drew b v n 0 := hc.drew
  have hg : w.grownBy w.drew (some b) := ⟨rfl, rfl, rfl, Nat.le_refl _, fun _ _ _ => rfl⟩
  generalize w.drew = W at hd hg
  clear h1 h2 h3 f1 f2 f3
  have h1 := hd.c1
  have h2 := hd.c2
  have h3 := hd.c3
  have f1 := hd.fr 1
  have f2 := hd.fr 2
  have f3 := hd.fr 3
  go_wp2_with (go_at_call 252; refine (NX.out _).mono ?_; rintro e' w' ⟨rfl, rfl⟩)
  go_ret2
  exact ⟨rfl, ((hd.val u).siz (n + 1)).sta 1, grown_then hg (grown_then (grown_then (block_kept _ _ _ _) (block_kept _ _ _ _)) (block_kept _ _ _ _))⟩
set_option maxRecDepth 100000 in
set_option maxHeartbeats 1000000 in
theorem rd_push_bad {w : World} {b v n : Nat} (x : UInt8) (hc : Rd w b v n 0) (hv : v < 128 ^ n) (hn : n < 4) (hx : nxt x (n + 1) = 2) :
    Calls Tryz.prog 229 #[.pointer (some ⟨b, 0, none⟩), .int .u8 x.toNat] w fun e w' => e = .returned (.tuple #[.bool false, .int .i64 5]) ∧ Rd w' b (grow v n x) (n + 1) 2 ∧ w.grownBy w' (some b) := by
  have h1 := hc.c1
  have h2 := hc.c2
  have h3 := hc.c3
  have f1 := hc.fr 1
  have f2 := hc.fr 2
  have f3 := hc.fr 3
  have ha := and_lo x
  have e1 : IntKind.i64.wrap ((x.toNat : Int) % 128) = (x.toNat : Int) % 128 := IntWalk.i64_in _ (by omega)
  have e2 : IntKind.i64.wrap (7 * (n : Int)) = 7 * (n : Int) := IntWalk.i64_in _ (by omega)
  have e3 : (0 : Int) ≤ 7 * (n : Int) := by omega
  have e4 := or_grow v n x hv hn
  have NX := Lib.hid (show ∀ W, Calls Tryz.prog 252 #[.int .u8 x.toNat, .int .i64 ((n : Int) + 1)] W fun e w' => e = .returned (.int .i64 2) ∧ W = w' from fun W => by
    have h := next_any x (n + 1) W
    rw [hx] at h
    exact h)
  clear hx
  generalize grow v n x = u at e4
  go_enter Tryz.func229, Tryz.ntmps229
  go_wp2_with (go_at_call 251; refine (rd_valid hc).mono ?_; rintro e' w' ⟨rfl, rfl⟩)
  go_still_tail 16, (by kernel_rfl)
  change wpList _ _ _ _ _ w.drew
  have hd : Rd w.drew b v n 0 := hc.drew
  have hg : w.grownBy w.drew (some b) := ⟨rfl, rfl, rfl, Nat.le_refl _, fun _ _ _ => rfl⟩
  generalize w.drew = W at hd hg
  clear h1 h2 h3 f1 f2 f3
  have h1 := hd.c1
  have h2 := hd.c2
  have h3 := hd.c3
  have f1 := hd.fr 1
  have f2 := hd.fr 2
  have f3 := hd.fr 3
  go_wp2_with (go_at_call 252; refine (NX.out _).mono ?_; rintro e' w' ⟨rfl, rfl⟩)
  go_ret2
  exact ⟨rfl, ((hd.val u).siz (n + 1)).sta 2, grown_then hg (grown_then (grown_then (block_kept _ _ _ _) (block_kept _ _ _ _)) (block_kept _ _ _ _))⟩
end Go.Proofs.YtaahhbjnflimnaaGreat
namespace Go.Proofs.YtaahhbjnflimnaaGreat
open Go.RowKit

theorem drop_byte (s : ByteArray) (k : Nat) (h : k < s.size) : s.data.toList.drop k = s[k] :: s.data.toList.drop (k + 1) := by
  rw [List.drop_eq_getElem_cons (by simpa using h)]; rfl
theorem drop_all (s : ByteArray) : s.data.toList.drop s.size = [] := List.drop_of_length_le (by simp)

/-- What Read returns. -/
def ReadRet (l : List UInt8) : Ending := .returned (.tuple #[.int .i64 (rdV l), .int .i64 (rdN l), .int .i64 (rdE l)])
theorem readRet_of {l : List UInt8} {v n st : Nat} {a b c : Int} (h : run 0 0 l = (v, n, st)) (ha : ((if st = 1 then v else 0 : Nat) : Int) = a) (hb : ((if st = 1 then n else 0 : Nat) : Int) = b)
    (hc : ((if st = 0 then 3 else if st = 1 then 0 else 5 : Nat) : Int) = c) : Ending.returned (.tuple #[.int .i64 a, .int .i64 b, .int .i64 c]) = ReadRet l := by
  obtain ⟨h1, h2, h3⟩ := rd_of h
  rw [← ha, ← hb, ← hc, ← h1, ← h2, ← h3]; rfl
def ReadPost (l : List UInt8) (w : World) (e : Ending) (w' : World) : Prop := e = ReadRet l ∧ Below w.heap.size w w'

/-- At the head of a round: k bytes are pushed, and the reader is open. -/
def ReadAt (w : World) (l : List UInt8) (k : Nat) (wr : World) : Prop := ∃ v, k < 4 ∧ v < 128 ^ k ∧ Rd wr w.heap.size v k 0 ∧ Below w.heap.size w wr ∧ run 0 0 l = run v k (l.drop k)

theorem read_step {w wr w1 : World} (hb : Below w.heap.size w wr) (hg : wr.grownBy w1 (some w.heap.size)) : Below w.heap.size w w1 :=
  hb.grown hg hb.size (fun k hk => by cases hk; exact Nat.le_refl _)

set_option maxHeartbeats 1000000 in
theorem read_any (s : ByteArray) (w : World) (_hm : s.size ≤ 9223372036854775807) :
    Calls Tryz.prog 199 #[.string s] w (ReadPost s.data.toList w) := by
  go_enter Tryz.func199, Tryz.ntmps199
  go_wp2_with fail
  refine (rd_new _).mono ?_
  rintro e w1 ⟨rfl, hr, hb⟩
  have H := Lib.hid (show ReadAt w s.data.toList 0 w1 from ⟨0, by decide, by decide, hr, hb, rfl⟩)
  clear hr hb
  go_wp2_with fail
  go_loopw [12] (fun i wr => ∃ k : Nat, k ≤ s.size ∧ i = .int .i64 k ∧ ReadAt w s.data.toList k wr) (fun i _ => s.size - (intOf i).toNat)
  case atStart => exact ⟨0, Nat.zero_le _, rfl, H.out⟩
  case round =>
    obtain ⟨k, hk, rfl, v, hk4, hv, hr, hb, hrun⟩ := hrel
    clear H
    by_cases hlt : k < s.size
    · have hd := drop_byte s k hlt
      have RUN := Lib.hid hrun
      have D := Lib.hid hd
      clear hrun hd
      rcases nxt_cases s[k] (k + 1) with hx | hx | hx
      · have NX := Lib.hid hx
        clear hx
        go_wp2_with fail
        refine (rd_push_more s[k] hr hv hk4 NX.out).mono ?_
        rintro e w2 ⟨rfl, hr2, hg⟩
        have hb2 := read_step hb hg
        go_wp2_with fail
        go_roundw
        case rel =>
          have h4 := (nxt_zero.1 NX.out).2
          refine ⟨k + 1, by omega, by go_num, _, by omega, grow_lt _ hv, hr2, hb2, ?_⟩
          rw [RUN.out, D.out, run_open _ NX.out]
        case measure => simp [intOf]; omega
      · have NX := Lib.hid hx
        clear hx
        go_wp2_with fail
        refine (rd_push_last s[k] hr hv hk4 NX.out).mono ?_
        rintro e w2 ⟨rfl, hr2, hg⟩
        have hb2 := read_step hb hg
        have RR := Lib.hid (readRet_of (l := s.data.toList) (v := grow v k s[k]) (n := k + 1) (st := 1) (by rw [RUN.out, D.out, run_shut _ (by rw [NX.out]; decide), NX.out]) rfl rfl rfl)
        have h1 := hr2.c1
        have h2 := hr2.c2
        go_wp2_with fail
        go_quiet (fail)
        go_wp2
        go_ret3
        exact ⟨RR.out, below_draws hb2 _⟩
      · have NX := Lib.hid hx
        clear hx
        go_wp2_with fail
        refine (rd_push_bad s[k] hr hv hk4 NX.out).mono ?_
        rintro e w2 ⟨rfl, hr2, hg⟩
        have hb2 := read_step hb hg
        have RR := Lib.hid (readRet_of (l := s.data.toList) (v := grow v k s[k]) (n := k + 1) (st := 2) (by rw [RUN.out, D.out, run_shut _ (by rw [NX.out]; decide), NX.out]) rfl rfl rfl)
        go_wp2_with fail
        go_ret3
        exact ⟨RR.out, hb2⟩
    · obtain rfl : k = s.size := by omega
      have RR := Lib.hid (readRet_of (l := s.data.toList) (v := v) (n := s.size) (st := 0) (by rw [hrun, drop_all]; rfl) rfl rfl rfl)
      clear hrun
      go_wp2
      go_ret3
      exact ⟨RR.out, hb⟩
end Go.Proofs.YtaahhbjnflimnaaGreat
namespace Go.Proofs.YtaahhbjnflimnaaGreat
open Go.RowKit

/-- How many bytes the strings have. -/
def weightP (l : List Pr) : Nat := (l.map fun p => p.text.length + p.value.length).sum
theorem weightP_snoc (l : List Pr) (p : Pr) : weightP (l ++ [p]) = weightP l + p.text.length + p.value.length := by simp [weightP]; omega
def lightP (l : List Pr) : Bool := decide (l.length ≤ 1010) && decide (weightP l ≤ 140000)
theorem weight_nothing (A : Option Addr) (c : Nat) (w : World) :
    Calls Tryz.prog 108 #[.slice A 0 c] w fun e w' => e = .returned (.int .i64 0) ∧ ∃ m, w' = w.drewN m := by
  go_enter Tryz.func108, Tryz.ntmps108
  go_wp2
  refine wp_loop_rounds 1 ?_
  rw [rounds_succ]
  go_wp2
  go_ret
  exact ⟨rfl, 0, rfl⟩
set_option maxHeartbeats 1000000 in
theorem weight_cells (g i c : Nat) (l : List Pr) (w : World) (ha : PL w (some ⟨g, i, none⟩) l) (hl : l.length ≤ 1010) (hm : ∀ p ∈ l, p.text.length ≤ 140737488351232 ∧ p.value.length ≤ 140737488351232) :
    Calls Tryz.prog 108 #[.slice (some ⟨g, i, none⟩) l.length c] w fun e w' => e = .returned (.int .i64 ((weightP l : Nat) : Int)) ∧ ∃ m, w' = w.drewN m := by
  have HA := Lib.hid ha
  have HM := Lib.hid hm
  obtain ⟨n, hn⟩ : ∃ n, l.length = n := ⟨_, rfl⟩
  have HN := Lib.hid hn
  rw [hn] at hl ⊢
  clear ha hm hn
  have hl' : (n : Int) ≤ 1010 := by omega
  obtain ⟨V, hV⟩ : ∃ V, weightP l = V := ⟨_, rfl⟩
  rw [hV]
  have HV := Lib.hid hV
  clear hV
  go_enter Tryz.func108, Tryz.ntmps108
  go_wp2
  go_loopg [4, 3] n (fun gk s4 s3 wr => ∃ k t m : Nat, k ≤ n ∧ gk = n - k ∧ s4 = .int .i64 (k : Int) ∧ s3 = .int .i64 (t : Int) ∧ t = weightP (l.take k) ∧ t ≤ k * 281474976710656 ∧ wr = w.drewN m)
  case atStart => exact ⟨0, 0, 0, by omega, by omega, rfl, rfl, rfl, by omega, rfl⟩
  case round =>
    obtain ⟨k, t, m, hk, hgk, rfl, rfl, ht, ht2, rfl⟩ := hrel
    by_cases hlt : k < n
    · have hkl : k < l.length := by rw [HN.out]; exact hlt
      obtain ⟨p, hp⟩ : ∃ p, l[k]? = some p := ⟨_, List.getElem?_eq_getElem hkl⟩
      obtain ⟨g', i', e', _, a0, a1, a2, a3⟩ := HA.out.at hp
      cases e'
      have htk : l.take (k + 1) = l.take k ++ [p] := by rw [List.take_add_one, hp]; rfl
      have hpm := HM.out p (List.mem_of_getElem? hp)
      have ht3 := weightP_snoc (l.take k) p
      rw [← htk, ← ht] at ht3
      obtain ⟨x, hx⟩ : ∃ x : Int, ((bs p.text).size : Int) = x := ⟨_, rfl⟩
      obtain ⟨y, hy⟩ : ∃ x : Int, ((bs p.value).size : Int) = x := ⟨_, rfl⟩
      have z1 := bs_len p.text
      have z2 := bs_len p.value
      obtain ⟨u, hu⟩ : ∃ u, weightP (l.take (k + 1)) = u := ⟨_, rfl⟩
      rw [hu] at ht3
      have w1 : IntKind.i64.wrap ((t : Int) + x) = (t : Int) + x := by simp only [IntKind.wrap_i64]; omega
      have w2 : IntKind.i64.wrap ((t : Int) + x + y) = (u : Int) := by simp only [IntKind.wrap_i64]; omega
      have hu2 : u ≤ (k + 1) * 281474976710656 := by omega
      generalize bs p.text = x2 at *
      generalize bs p.value = x3 at *
      have g1 : (k : Int) < (n : Int) := by omega
      have HU := Lib.hid hu
      have HU2 := Lib.hid hu2
      clear a0 a1 hp hkl htk hpm ht3 z1 z2 hu hu2 ht ht2
      go_wp2
      go_quiet (fail)
      go_wp2
      go_roundg (n - (k + 1))
      case measure => omega
      case rel => exact ⟨k + 1, u, _, by omega, rfl, by go_num, rfl, HU.out.symm, HU2.out, rfl⟩
    · obtain rfl : k = n := by omega
      have ht1 : l.take k = l := List.take_of_length_le (by rw [HN.out]; omega)
      rw [ht1, HV.out] at ht
      subst ht
      clear ht2
      go_wp2
      go_ret
      exact ⟨rfl, m, rfl⟩
theorem light_any (A : Option Addr) (n c : Nat) (l : List Pr) (w : World) (ha : PL w A l) (hn : l.length = n) (hm : ∀ p ∈ l, p.text.length ≤ 140737488351232 ∧ p.value.length ≤ 140737488351232) :
    Calls Tryz.prog 34 #[.slice A n c] w fun e w' => e = .returned (.bool (lightP l)) ∧ ∃ m, w' = w.drewN m := by
  unfold lightP
  rw [hn]
  by_cases h1 : n ≤ 1010
  · rw [decide_eq_true h1, Bool.true_and]
    have WT : Calls Tryz.prog 108 #[.slice A n c] w fun e w' => e = .returned (.int .i64 ((weightP l : Nat) : Int)) ∧ ∃ m, w' = w.drewN m := by
      by_cases h0 : l = []
      · subst h0
        obtain rfl : 0 = n := hn
        exact weight_nothing A c w
      · obtain ⟨g, i, rfl, _⟩ := ha.addr h0
        subst hn
        exact weight_cells g i c l w ha h1 hm
    have g1 : (n : Int) ≤ 1010 := by omega
    have WT := Lib.hid WT
    obtain ⟨B, hB⟩ : ∃ B, decide (weightP l ≤ 140000) = B := ⟨_, rfl⟩
    rw [hB]
    have HB := Lib.hid (show decide (((weightP l : Nat) : Int) ≤ 140000) = B by rw [← hB, decide_eq_decide]; omega)
    generalize ((weightP l : Nat) : Int) = t at *
    clear ha hm h1 hn hB
    go_enter Tryz.func34, Tryz.ntmps34
    go_wp2_with fail
    refine (WT.out).mono ?_
    rintro e w1 ⟨rfl, m, rfl⟩
    go_wp2_with fail
    go_ret
    exact ⟨congrArg (fun b => Ending.returned (Value.bool b)) HB.out, m, rfl⟩
  · rw [decide_eq_false h1, Bool.false_and]
    have g1 : ¬ (n : Int) ≤ 1010 := by omega
    clear ha hm h1 hn
    go_enter Tryz.func34, Tryz.ntmps34
    go_wp2_with fail
    go_ret
    exact ⟨rfl, 0, rfl⟩
end Go.Proofs.YtaahhbjnflimnaaGreat
