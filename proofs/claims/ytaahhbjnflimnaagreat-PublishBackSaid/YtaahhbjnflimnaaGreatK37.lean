/-
  The contracts of varint's reader. No condition.
  The contract of varint.Read. No condition but the length of a string.
-/
import Derived.StillTailTactics
import Derived.IntWalk
import Derived.Test.YtaahhbjnflimnaaGreatK18
namespace Go.Proofs.YtaahhbjnflimnaaGreat
open Go.RowKit

/-- The cells of a reader that lies in block b. -/
def rdCells (b v n st : Nat) : Array Value := #[.pointer (some ⟨b, 0, none⟩), .int .i64 v, .int .i64 n, .int .i64 st]
/-- Block b is a reader with number v, size n and state st. -/
def Rd (w : World) (b v n st : Nat) : Prop := w.heap[b]? = some (.cells (rdCells b v n st) 212 (0, 0))

section
variable {w w' : World} {b v n st : Nat}
theorem Rd.lt (h : Rd w b v n st) : b < w.heap.size := lt_of_block h
theorem Rd.cell (h : Rd w b v n st) (j : Nat) : w.cell? ⟨b, j, none⟩ = (rdCells b v n st)[j]? := cell_of_row w b j _ _ (0, 0) h
theorem Rd.c0 (h : Rd w b v n st) : w.cell? ⟨b, 0, none⟩ = some (.pointer (some ⟨b, 0, none⟩)) := h.cell 0
theorem Rd.c1 (h : Rd w b v n st) : w.cell? ⟨b, 1, none⟩ = some (.int .i64 v) := h.cell 1
theorem Rd.c2 (h : Rd w b v n st) : w.cell? ⟨b, 2, none⟩ = some (.int .i64 n) := h.cell 2
theorem Rd.c3 (h : Rd w b v n st) : w.cell? ⟨b, 3, none⟩ = some (.int .i64 st) := h.cell 3
theorem Rd.fr (h : Rd w b v n st) (j : Nat) : w.frozen? ⟨b, j, none⟩ = false := by unfold Rd at h; simp [World.frozen?, h]
theorem Rd.draws (h : Rd w b v n st) (k : Nat) : Rd (w.drewN k) b v n st := h
theorem Rd.drew (h : Rd w b v n st) : Rd w.drew b v n st := h
theorem Rd.of_block (h : Rd w b v n st) (hb : w'.heap[b]? = w.heap[b]?) : Rd w' b v n st := hb.trans h
theorem Rd.val (h : Rd w b v n st) (u : Nat) : Rd (w.setCell ⟨b, 1, none⟩ (.int .i64 u)) b u n st := setCell_block h 1 _
theorem Rd.siz (h : Rd w b v n st) (u : Nat) : Rd (w.setCell ⟨b, 2, none⟩ (.int .i64 u)) b v u st := setCell_block h 2 _
theorem Rd.sta (h : Rd w b v n st) (u : Nat) : Rd (w.setCell ⟨b, 3, none⟩ (.int .i64 u)) b v n u := setCell_block h 3 _
end

theorem rd_info : ∃ j, Tryz.prog.info? 212 = some j := Option.isSome_iff_exists.1 (by kernel_rfl)

set_option maxHeartbeats 400000 in
theorem rd_valid {w : World} {b v n st : Nat} (hc : Rd w b v n st) :
    Calls Tryz.prog 251 #[.pointer (some ⟨b, 0, none⟩)] w fun e w' => e = .returned (.bool true) ∧ w = w' := by
  obtain ⟨j, hj⟩ := rd_info
  have heq := fun W : World => run_eql_ptr_same (P := Tryz.prog) W ⟨b, 0, none⟩ Tryz.underlying206 hj
  have h0 := hc.c0
  clear hj
  go_enter Tryz.func251, Tryz.ntmps251
  go_wp2
  go_ret
  exact ⟨rfl, rfl⟩
theorem rd_valid_nil (w : World) :
    Calls Tryz.prog 251 #[.pointer none] w fun e w' => e = .returned (.bool false) ∧ w = w' := by
  go_enter Tryz.func251, Tryz.ntmps251
  go_wp2
  go_ret
  exact ⟨rfl, rfl⟩

theorem rd_new (w : World) :
    Calls Tryz.prog 228 #[] w fun e w' => e = .returned (.pointer (some ⟨w.heap.size, 0, none⟩)) ∧ Rd w' w.heap.size 0 0 0 ∧ Below w.heap.size w w' := by
  go_enter Tryz.func228, Tryz.ntmps228
  go_wp2
  go_ret
  exact ⟨rfl, heap_alloc_new w _, (Below.refl _ _).alloc (Nat.le_refl _) _⟩

theorem rd_push_shut {w : World} {b v n st : Nat} (x : UInt8) (hc : Rd w b v n st) (hs : ((st : Int) != 0) = true) :
    Calls Tryz.prog 229 #[.pointer (some ⟨b, 0, none⟩), .int .u8 x.toNat] w fun e w' => e = .returned (.tuple #[.bool false, .int .i64 13]) ∧ w = w' := by
  have h3 := hc.c3
  go_enter Tryz.func229, Tryz.ntmps229
  go_wp2_with (go_at_call 251; refine (rd_valid hc).mono ?_; rintro e' w' ⟨rfl, rfl⟩)
  go_ret2
  exact ⟨rfl, rfl⟩
theorem rd_push_nil (x : Int) (w : World) :
    Calls Tryz.prog 229 #[.pointer none, .int .u8 x] w fun e w' => e = .returned (.tuple #[.bool false, .int .i64 1]) ∧ w = w' := by
  go_enter Tryz.func229, Tryz.ntmps229
  go_wp2_with (go_at_call 251; refine (rd_valid_nil _).mono ?_; rintro e' w' ⟨rfl, rfl⟩)
  go_ret2
  exact ⟨rfl, rfl⟩

theorem or_grow (v n : Nat) (x : UInt8) (hv : v < 128 ^ n) (hn : n < 4) : bits .or .i64 (v : Int) (IntKind.i64.wrap ((x.toNat : Int) % 128 * 2 ^ (7 * (n : Int)).toNat)) = ((grow v n x : Nat) : Int) := by
  have e1 : (7 * (n : Int)).toNat = 7 * n := by omega
  have e128 : (128 : Nat) ^ n = 2 ^ (7 * n) := by rw [Nat.pow_mul]
  have hp : (2 : Nat) ^ (7 * n) ≤ 2 ^ 21 := Nat.pow_le_pow_right (by decide) (by omega)
  have hx : x.toNat % 128 ≤ 127 := by omega
  have hm : x.toNat % 128 * 2 ^ (7 * n) ≤ 127 * 2 ^ 21 := Nat.mul_le_mul hx hp
  have e2 : (x.toNat : Int) % 128 * 2 ^ (7 * n) = ((x.toNat % 128 * 2 ^ (7 * n) : Nat) : Int) := by simp
  unfold grow
  rw [e128] at hv ⊢
  rw [e1, e2, IntWalk.i64_in _ (by omega)]
  rw [(bits_nat .i64 28 (by decide) (fun m h0 h1 => IntWalk.i64_in _ (by omega)) v (x.toNat % 128 * 2 ^ (7 * n)) (by omega) (by omega)).2]
  congr 1
  rw [Nat.or_comm, Nat.mul_comm, ← Nat.two_pow_add_eq_or_of_lt hv (x.toNat % 128)]
  omega

set_option maxRecDepth 100000 in
set_option maxHeartbeats 1000000 in
theorem rd_push_more {w : World} {b v n : Nat} (x : UInt8) (hc : Rd w b v n 0) (hv : v < 128 ^ n) (hn : n < 4) (hx : nxt x (n + 1) = 0) :
    Calls Tryz.prog 229 #[.pointer (some ⟨b, 0, none⟩), .int .u8 x.toNat] w fun e w' => e = .returned (.tuple #[.bool false, .int .i64 0]) ∧ Rd w' b (grow v n x) (n + 1) 0 ∧ w.grownBy w' (some b) := by
  have h1 := hc.c1
  have h2 := hc.c2
  have h3 := hc.c3
  have f1 := hc.fr 1
  have f2 := hc.fr 2
  have f3 := hc.fr 3
  have ha := and_lo x
  have e1 : IntKind.i64.wrap ((x.toNat : Int) % 128) = (x.toNat : Int) % 128 := IntWalk.i64_in _ (by omega)
  have e2 : IntKind.i64.wrap (7 * (n : Int)) = 7 * (n : Int) := IntWalk.i64_in _ (by omega)
  have e3 : (0 : Int) ≤ 7 * (n : Int) := by omega
  have e4 := or_grow v n x hv hn
  have NX := Lib.hid (show ∀ W, Calls Tryz.prog 252 #[.int .u8 x.toNat, .int .i64 ((n : Int) + 1)] W fun e w' => e = .returned (.int .i64 0) ∧ W = w' from fun W => by
    have h := next_any x (n + 1) W
    rw [hx] at h
    exact h)
  clear hx
  generalize grow v n x = u at e4
  go_enter Tryz.func229, Tryz.ntmps229
  go_wp2_with (go_at_call 251; refine (rd_valid hc).mono ?_; rintro e' w' ⟨rfl, rfl⟩)
  go_still_tail 16, (by kernel_rfl)
  change wpList _ _ _ _ _ w.drew
  have hd : Rd w.drew b v n 0 := hc.drew
  have hg : w.grownBy w.drew (some b) := ⟨rfl, rfl, rfl, Nat.le_refl _, fun _ _ _ => rfl⟩
  generalize w.drew = W at hd hg
  clear h1 h2 h3 f1 f2 f3
  have h1 := hd.c1
  have h2 := hd.c2
  have h3 := hd.c3
  have f1 := hd.fr 1
  have f2 := hd.fr 2
  have f3 := hd.fr 3
  go_wp2_with (go_at_call 252; refine (NX.out _).mono ?_; rintro e' w' ⟨rfl, rfl⟩)
  go_ret2
  exact ⟨rfl, ((hd.val u).siz (n + 1)).sta 0, grown_then hg (grown_then (grown_then (block_kept _ _ _ _) (block_kept _ _ _ _)) (block_kept _ _ _ _))⟩
set_option maxRecDepth 100000 in
set_option maxHeartbeats 1000000 in
theorem rd_push_last {w : World} {b v n : Nat} (x : UInt8) (hc : Rd w b v n 0) (hv : v < 128 ^ n) (hn : n < 4) (hx : nxt x (n + 1) = 1) :
    Calls Tryz.prog 229 #[.pointer (some ⟨b, 0, none⟩), .int .u8 x.toNat] w fun e w' => e = .returned (.tuple #[.bool true, .int .i64 0]) ∧ Rd w' b (grow v n x) (n + 1) 1 ∧ w.grownBy w' (some b) := by
  have h1 := hc.c1
  have h2 := hc.c2
  have h3 := hc.c3
  have f1 := hc.fr 1
  have f2 := hc.fr 2
  have f3 := hc.fr 3
  have ha := and_lo x
  have e1 : IntKind.i64.wrap ((x.toNat : Int) % 128) = (x.toNat : Int) % 128 := IntWalk.i64_in _ (by omega)
  have e2 : IntKind.i64.wrap (7 * (n : Int)) = 7 * (n : Int) := IntWalk.i64_in _ (by omega)
  have e3 : (0 : Int) ≤ 7 * (n : Int) := by omega
  have e4 := or_grow v n x hv hn
  have NX := Lib.hid (show ∀ W, Calls Tryz.prog 252 #[.int .u8 x.toNat, .int .i64 ((n : Int) + 1)] W fun e w' => e = .returned (.int .i64 1) ∧ W = w' from fun W => by
    have h := next_any x (n + 1) W
    rw [hx] at h
    exact h)
  clear hx
  generalize grow v n x = u at e4
  go_enter Tryz.func229, Tryz.ntmps229
  go_wp2_with (go_at_call 251; refine (rd_valid hc).mono ?_; rintro e' w' ⟨rfl, rfl⟩)
  go_still_tail 16, (by kernel_rfl)
  change wpList _ _ _ _ _ w.drew
  have hd : Rd w.drew b v n 0 := hc.drew
  have hg : w.grownBy w.drew (some b) := ⟨rfl, rfl, rfl, Nat.le_refl _, fun _ _ _ => rfl⟩
  generalize w.drew = W at hd hg
  clear h1 h2 h3 f1 f2 f3
  have h1 := hd.c1
  have h2 := hd.c2
  have h3 := hd.c3
  have f1 := hd.fr 1
  have f2 := hd.fr 2
  have f3 := hd.fr 3
  go_wp2_with (go_at_call 252; refine (NX.out _).mono ?_; rintro e' w' ⟨rfl, rfl⟩)
  go_ret2
  exact ⟨rfl, ((hd.val u).siz (n + 1)).sta 1, grown_then hg (grown_then (grown_then (block_kept _ _ _ _) (block_kept _ _ _ _)) (block_kept _ _ _ _))⟩
set_option maxRecDepth 100000 in
set_option maxHeartbeats 1000000 in
theorem rd_push_bad {w : World} {b v n : Nat} (x : UInt8) (hc : Rd w b v n 0) (hv : v < 128 ^ n) (hn : n < 4) (hx : nxt x (n + 1) = 2) :
    Calls Tryz.prog 229 #[.pointer (some ⟨b, 0, none⟩), .int .u8 x.toNat] w fun e w' => e = .returned (.tuple #[.bool false, .int .i64 5]) ∧ Rd w' b (grow v n x) (n + 1) 2 ∧ w.grownBy w' (some b) := by
  have h1 := hc.c1
  have h2 := hc.c2
  have h3 := hc.c3
  have f1 := hc.fr 1
  have f2 := hc.fr 2
  have f3 := hc.fr 3
  have ha := and_lo x
  have e1 : IntKind.i64.wrap ((x.toNat : Int) % 128) = (x.toNat : Int) % 128 := IntWalk.i64_in _ (by omega)
  have e2 : IntKind.i64.wrap (7 * (n : Int)) = 7 * (n : Int) := IntWalk.i64_in _ (by omega)
  have e3 : (0 : Int) ≤ 7 * (n : Int) := by omega
  have e4 := or_grow v n x hv hn
  have NX := Lib.hid (show ∀ W, Calls Tryz.prog 252 #[.int .u8 x.toNat, .int .i64 ((n : Int) + 1)] W fun e w' => e = .returned (.int .i64 2) ∧ W = w' from fun W => by
    have h := next_any x (n + 1) W
    rw [hx] at h
    exact h)
  clear hx
  generalize grow v n x = u at e4
  go_enter Tryz.func229, Tryz.ntmps229
  go_wp2_with (go_at_call 251; refine (rd_valid hc).mono ?_; rintro e' w' ⟨rfl, rfl⟩)
  go_still_tail 16, (by kernel_rfl)
  change wpList _ _ _ _ _ w.drew
  have hd : Rd w.drew b v n 0 := hc.drew
  have hg : w.grownBy w.drew (some b) := ⟨rfl, rfl, rfl, Nat.le_refl _, fun _ _ _ => rfl⟩
  generalize w.drew = W at hd hg
  clear h1 h2 h3 f1 f2 f3
  have h1 := hd.c1
  have h2 := hd.c2
  have h3 := hd.c3
  have f1 := hd.fr 1
  have f2 := hd.fr 2
  have f3 := hd.fr 3
  go_wp2_with (go_at_call 252; refine (NX.out _).mono ?_; rintro e' w' ⟨rfl, rfl⟩)
  go_ret2
  exact ⟨rfl, ((hd.val u).siz (n + 1)).sta 2, grown_then hg (grown_then (grown_then (block_kept _ _ _ _) (block_kept _ _ _ _)) (block_kept _ _ _ _))⟩
end Go.Proofs.YtaahhbjnflimnaaGreat
namespace Go.Proofs.YtaahhbjnflimnaaGreat
open Go.RowKit

theorem drop_byte (s : ByteArray) (k : Nat) (h : k < s.size) : s.data.toList.drop k = s[k] :: s.data.toList.drop (k + 1) := by
  rw [List.drop_eq_getElem_cons (by simpa using h)]; rfl
theorem drop_all (s : ByteArray) : s.data.toList.drop s.size = [] := List.drop_of_length_le (by simp)

/-- What Read returns. -/
def ReadRet (l : List UInt8) : Ending := .returned (.tuple #[.int .i64 (rdV l), .int .i64 (rdN l), .int .i64 (rdE l)])
theorem readRet_of {l : List UInt8} {v n st : Nat} {a b c : Int} (h : run 0 0 l = (v, n, st)) (ha : ((if st = 1 then v else 0 : Nat) : Int) = a) (hb : ((if st = 1 then n else 0 : Nat) : Int) = b)
    (hc : ((if st = 0 then 3 else if st = 1 then 0 else 5 : Nat) : Int) = c) : Ending.returned (.tuple #[.int .i64 a, .int .i64 b, .int .i64 c]) = ReadRet l := by
  obtain ⟨h1, h2, h3⟩ := rd_of h
  rw [← ha, ← hb, ← hc, ← h1, ← h2, ← h3]; rfl
def ReadPost (l : List UInt8) (w : World) (e : Ending) (w' : World) : Prop := e = ReadRet l ∧ Below w.heap.size w w'

/-- At the head of a round: k bytes are pushed, and the reader is open. -/
def ReadAt (w : World) (l : List UInt8) (k : Nat) (wr : World) : Prop := ∃ v, k < 4 ∧ v < 128 ^ k ∧ Rd wr w.heap.size v k 0 ∧ Below w.heap.size w wr ∧ run 0 0 l = run v k (l.drop k)

theorem read_step {w wr w1 : World} (hb : Below w.heap.size w wr) (hg : wr.grownBy w1 (some w.heap.size)) : Below w.heap.size w w1 :=
  hb.grown hg hb.size (fun k hk => by cases hk; exact Nat.le_refl _)

set_option maxHeartbeats 1000000 in
theorem read_any (s : ByteArray) (w : World) (_hm : s.size ≤ 9223372036854775807) :
    Calls Tryz.prog 199 #[.string s] w (ReadPost s.data.toList w) := by
  go_enter Tryz.func199, Tryz.ntmps199
  go_wp2_with fail
  refine (rd_new _).mono ?_
  rintro e w1 ⟨rfl, hr, hb⟩
  have H := Lib.hid (show ReadAt w s.data.toList 0 w1 from ⟨0, by decide, by decide, hr, hb, rfl⟩)
  clear hr hb
  go_wp2_with fail
  go_loopw [12] (fun i wr => ∃ k : Nat, k ≤ s.size ∧ i = .int .i64 k ∧ ReadAt w s.data.toList k wr) (fun i _ => s.size - (intOf i).toNat)
  case atStart => exact ⟨0, Nat.zero_le _, rfl, H.out⟩
  case round =>
    obtain ⟨k, hk, rfl, v, hk4, hv, hr, hb, hrun⟩ := hrel
    clear H
    by_cases hlt : k < s.size
    · have hd := drop_byte s k hlt
      have RUN := Lib.hid hrun
      have D := Lib.hid hd
      clear hrun hd
      rcases nxt_cases s[k] (k + 1) with hx | hx | hx
      · have NX := Lib.hid hx
        clear hx
        go_wp2_with fail
        refine (rd_push_more s[k] hr hv hk4 NX.out).mono ?_
        rintro e w2 ⟨rfl, hr2, hg⟩
        have hb2 := read_step hb hg
        go_wp2_with fail
        go_roundw
        case rel =>
          have h4 := (nxt_zero.1 NX.out).2
          refine ⟨k + 1, by omega, by go_num, _, by omega, grow_lt _ hv, hr2, hb2, ?_⟩
          rw [RUN.out, D.out, run_open _ NX.out]
        case measure => simp [intOf]; omega
      · have NX := Lib.hid hx
        clear hx
        go_wp2_with fail
        refine (rd_push_last s[k] hr hv hk4 NX.out).mono ?_
        rintro e w2 ⟨rfl, hr2, hg⟩
        have hb2 := read_step hb hg
        have RR := Lib.hid (readRet_of (l := s.data.toList) (v := grow v k s[k]) (n := k + 1) (st := 1) (by rw [RUN.out, D.out, run_shut _ (by rw [NX.out]; decide), NX.out]) rfl rfl rfl)
        have h1 := hr2.c1
        have h2 := hr2.c2
        go_wp2_with fail
        go_quiet (fail)
        go_wp2
        go_ret3
        exact ⟨RR.out, below_draws hb2 _⟩
      · have NX := Lib.hid hx
        clear hx
        go_wp2_with fail
        refine (rd_push_bad s[k] hr hv hk4 NX.out).mono ?_
        rintro e w2 ⟨rfl, hr2, hg⟩
        have hb2 := read_step hb hg
        have RR := Lib.hid (readRet_of (l := s.data.toList) (v := grow v k s[k]) (n := k + 1) (st := 2) (by rw [RUN.out, D.out, run_shut _ (by rw [NX.out]; decide), NX.out]) rfl rfl rfl)
        go_wp2_with fail
        go_ret3
        exact ⟨RR.out, hb2⟩
    · obtain rfl : k = s.size := by omega
      have RR := Lib.hid (readRet_of (l := s.data.toList) (v := v) (n := s.size) (st := 0) (by rw [hrun, drop_all]; rfl) rfl rfl rfl)
      clear hrun
      go_wp2
      go_ret3
      exact ⟨RR.out, hb⟩
end Go.Proofs.YtaahhbjnflimnaaGreat
