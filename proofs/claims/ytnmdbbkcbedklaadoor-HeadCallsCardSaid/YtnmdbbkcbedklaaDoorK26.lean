/-
  The contract of varint.Read. No condition but the length of a string.
-/
import Derived.Test.YtnmdbbkcbedklaaDoorK25
namespace Go.Proofs.YtnmdbbkcbedklaaDoor
open Go.RowKit

theorem drop_byte (s : ByteArray) (k : Nat) (h : k < s.size) : s.data.toList.drop k = s[k] :: s.data.toList.drop (k + 1) := by
  rw [List.drop_eq_getElem_cons (by simpa using h)]; rfl
theorem drop_all (s : ByteArray) : s.data.toList.drop s.size = [] := List.drop_of_length_le (by simp)

/-- What Read returns. -/
def ReadRet (l : List UInt8) : Ending := .returned (.tuple #[.int .i64 (rdV l), .int .i64 (rdN l), .int .i64 (rdE l)])
theorem readRet_of {l : List UInt8} {v n st : Nat} {a b c : Int} (h : run 0 0 l = (v, n, st)) (ha : ((if st = 1 then v else 0 : Nat) : Int) = a) (hb : ((if st = 1 then n else 0 : Nat) : Int) = b)
    (hc : ((if st = 0 then 3 else if st = 1 then 0 else 5 : Nat) : Int) = c) : Ending.returned (.tuple #[.int .i64 a, .int .i64 b, .int .i64 c]) = ReadRet l := by
  obtain ⟨h1, h2, h3⟩ := rd_of h
  rw [← ha, ← hb, ← hc, ← h1, ← h2, ← h3]; rfl
def ReadPost (l : List UInt8) (w : World) (e : Ending) (w' : World) : Prop := e = ReadRet l ∧ Below w.heap.size w w'

/-- At the head of a round: k bytes are pushed, and the reader is open. -/
def ReadAt (w : World) (l : List UInt8) (k : Nat) (wr : World) : Prop := ∃ v, k < 4 ∧ v < 128 ^ k ∧ Rd wr w.heap.size v k 0 ∧ Below w.heap.size w wr ∧ run 0 0 l = run v k (l.drop k)

theorem read_step {w wr w1 : World} (hb : Below w.heap.size w wr) (hg : wr.grownBy w1 (some w.heap.size)) : Below w.heap.size w w1 :=
  hb.grown hg hb.size (fun k hk => by cases hk; exact Nat.le_refl _)

set_option maxHeartbeats 1000000 in
theorem read_any (s : ByteArray) (w : World) (_hm : s.size ≤ 9223372036854775807) :
    Calls Tryd.prog 29 #[.string s] w (ReadPost s.data.toList w) := by
  go_enter Tryd.func29, Tryd.ntmps29
  go_wp2_with fail
  refine (rd_new _).mono ?_
  rintro e w1 ⟨rfl, hr, hb⟩
  have H := Lib.hid (show ReadAt w s.data.toList 0 w1 from ⟨0, by decide, by decide, hr, hb, rfl⟩)
  clear hr hb
  go_wp2_with fail
  go_loopw [12] (fun i wr => ∃ k : Nat, k ≤ s.size ∧ i = .int .i64 k ∧ ReadAt w s.data.toList k wr) (fun i _ => s.size - (intOf i).toNat)
  case atStart => exact ⟨0, Nat.zero_le _, rfl, H.out⟩
  case round =>
    obtain ⟨k, hk, rfl, v, hk4, hv, hr, hb, hrun⟩ := hrel
    clear H
    by_cases hlt : k < s.size
    · have hd := drop_byte s k hlt
      have RUN := Lib.hid hrun
      have D := Lib.hid hd
      clear hrun hd
      rcases nxt_cases s[k] (k + 1) with hx | hx | hx
      · have NX := Lib.hid hx
        clear hx
        go_wp2_with fail
        refine (rd_push_more s[k] hr hv hk4 NX.out).mono ?_
        rintro e w2 ⟨rfl, hr2, hg⟩
        have hb2 := read_step hb hg
        go_wp2_with fail
        go_roundw
        case rel =>
          have h4 := (nxt_zero.1 NX.out).2
          refine ⟨k + 1, by omega, by go_num, _, by omega, grow_lt _ hv, hr2, hb2, ?_⟩
          rw [RUN.out, D.out, run_open _ NX.out]
        case measure => simp [intOf]; omega
      · have NX := Lib.hid hx
        clear hx
        go_wp2_with fail
        refine (rd_push_last s[k] hr hv hk4 NX.out).mono ?_
        rintro e w2 ⟨rfl, hr2, hg⟩
        have hb2 := read_step hb hg
        have RR := Lib.hid (readRet_of (l := s.data.toList) (v := grow v k s[k]) (n := k + 1) (st := 1) (by rw [RUN.out, D.out, run_shut _ (by rw [NX.out]; decide), NX.out]) rfl rfl rfl)
        have h1 := hr2.c1
        have h2 := hr2.c2
        go_wp2_with fail
        go_quiet (fail)
        go_wp2
        go_ret3
        exact ⟨RR.out, below_draws hb2 _⟩
      · have NX := Lib.hid hx
        clear hx
        go_wp2_with fail
        refine (rd_push_bad s[k] hr hv hk4 NX.out).mono ?_
        rintro e w2 ⟨rfl, hr2, hg⟩
        have hb2 := read_step hb hg
        have RR := Lib.hid (readRet_of (l := s.data.toList) (v := grow v k s[k]) (n := k + 1) (st := 2) (by rw [RUN.out, D.out, run_shut _ (by rw [NX.out]; decide), NX.out]) rfl rfl rfl)
        go_wp2_with fail
        go_ret3
        exact ⟨RR.out, hb2⟩
    · obtain rfl : k = s.size := by omega
      have RR := Lib.hid (readRet_of (l := s.data.toList) (v := v) (n := s.size) (st := 0) (by rw [hrun, drop_all]; rfl) rfl rfl rfl)
      clear hrun
      go_wp2
      go_ret3
      exact ⟨RR.out, hb⟩
end Go.Proofs.YtnmdbbkcbedklaaDoor
