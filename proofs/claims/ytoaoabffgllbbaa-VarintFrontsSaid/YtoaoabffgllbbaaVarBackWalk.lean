/-
  The walk of VarintBack. No condition but the length of the strings.
-/
import Derived.Test.YtoaoabffgllbbaaVarLive
import Derived.Test.YtoaoabffgllbbaaPick
namespace Go.Proofs.Ytoaoabffgllbbaa
open Go.RowKit

/-- varint.Read where the run is known. -/
theorem read_of {s : ByteArray} {v n st : Nat} {a c d : Int} (w : World) (hm : s.size ≤ 9223372036854775807) (h : run 0 0 s.data.toList = (v, n, st)) (ha : ((if st = 1 then v else 0 : Nat) : Int) = a)
    (hc : ((if st = 1 then n else 0 : Nat) : Int) = c) (hd : ((if st = 0 then 3 else if st = 1 then 0 else 5 : Nat) : Int) = d) :
    Calls Try.prog 10 #[.string s] w fun e w' => e = .returned (.tuple #[.int .i64 a, .int .i64 c, .int .i64 d]) ∧ Below w.heap.size w w' :=
  (read_any s w hm).mono fun _ _ ⟨h1, h2⟩ => ⟨h1.trans (readRet_of h ha hc hd).symm, h2⟩

def BytesOf (n : Nat) (B : ByteArray) : Prop := ∀ W, Calls Try.prog 9 #[.int .i64 n] W fun e w' => e = .returned (.tuple #[.string B, .int .i64 0]) ∧ Below W.heap.size W w'
def ReadsAs (s : ByteArray) (v n : Nat) (e : Int) : Prop := ∀ W, Calls Try.prog 10 #[.string s] W fun x w' => x = .returned (.tuple #[.int .i64 v, .int .i64 n, .int .i64 e]) ∧ Below W.heap.size W w'

set_option maxRecDepth 100000 in
theorem back_long (n : Int) (behind s : ByteArray) (w : World) (h : 60 < behind.size ∨ 60 < s.size) :
    Calls Try.prog 6 #[.int .i64 n, .string behind, .string s] w fun e w' => e = .returned (.bool true) ∧ Below w.heap.size w w' := by
  by_cases h1 : 60 < behind.size
  · have hd : decide ((60 : Int) < (behind.size : Int)) = true := decide_eq_true (by omega)
    clear h h1
    go_enter Try.func6, Try.ntmps6
    go_wp2_with fail
    refine (lives2 _).mono ?_
    rintro e W ⟨rfl, hb⟩
    go_wp2_with fail
    go_ret
    exact ⟨rfl, hb⟩
  · have hd : decide ((60 : Int) < (behind.size : Int)) = false := decide_eq_false (by omega)
    have hd2 : decide ((60 : Int) < (s.size : Int)) = true := decide_eq_true (by omega)
    clear h h1
    go_enter Try.func6, Try.ntmps6
    go_wp2_with fail
    refine (lives2 _).mono ?_
    rintro e W ⟨rfl, hb⟩
    go_wp2_with fail
    go_ret
    exact ⟨rfl, hb⟩

set_option maxRecDepth 100000 in
set_option maxHeartbeats 4000000 in
theorem back_short (n : Int) (behind s : ByteArray) (N c L : Nat) (B : ByteArray) (w : World) (hbe : behind.size ≤ 60) (hse : s.size ≤ 60)
    (hN : n % 268435456 = N) (hc0 : 1 ≤ c) (hc4 : c ≤ 4) (hB : B.size = c) (hL : 128 ^ c = L) (hNL : N < L) (hLN : 1 < c → L / 128 ≤ N)
    (hby : BytesOf N B) (hsi : ∀ W, Calls Try.prog 16 #[.int .i64 N] W fun e w' => e = .returned (.int .i64 c) ∧ W = w')
    (hre : ReadsAs (B ++ behind) N c 0)
    (hlast : (ReadsAs s 0 0 3) ∨ (ReadsAs s 0 0 5) ∨ (∃ (v u : Nat) (D : ByteArray), ReadsAs s v u 0 ∧ BytesOf v D ∧ u ≤ s.size ∧ s.extract 0 u = D)) :
    Calls Try.prog 6 #[.int .i64 n, .string behind, .string s] w fun e w' => e = .returned (.bool true) ∧ Below w.heap.size w w' := by
    have hd : decide ((60 : Int) < (behind.size : Int)) = false := decide_eq_false (by omega)
    have hd2 : decide ((60 : Int) < (s.size : Int)) = false := decide_eq_false (by omega)
    have HN := Lib.hid hN
    have HB := Lib.hid hB
    have HL := Lib.hid hL
    have BY := Lib.hid hby
    have SI := Lib.hid hsi
    have RE := Lib.hid hre
    have LA := Lib.hid hlast
    have hcat : ¬ 9223372036854775807 < B.size + behind.size := by omega
    have hge : decide (L ≤ N) = false := decide_eq_false (by omega)
    have hge2 : ¬ L ≤ N := by omega
    have hLmax : (L : Int) ≤ 268435456 := by have : 128 ^ c ≤ 128 ^ 4 := Nat.pow_le_pow_right (by decide) hc4
                                             omega
    have HLN := Lib.hid hLN
    clear hN hB hL hby hsi hre hlast hNL hLN hbe
    go_enter Try.func6, Try.ntmps6
    go_wp2_with fail
    refine (lives2 _).mono ?_
    rintro e W ⟨rfl, hb⟩
    go_wp2_with fail
    refine (pick_any _ 268435456 _ (by decide) (by decide)).mono ?_
    rintro e W ⟨rfl, rfl⟩
    rw [HN.out]
    go_wp2_with fail
    refine (BY.out _).mono ?_
    rintro e W ⟨rfl, h⟩
    replace hb := hb.trans (h.mono hb.size)
    clear h
    go_wp2_with fail
    refine (RE.out _).mono ?_
    rintro e W ⟨rfl, h⟩
    replace hb := hb.trans (h.mono hb.size)
    clear h
    have hB := HB.out
    go_wp2_with fail
    refine (SI.out _).mono ?_
    rintro e W ⟨rfl, rfl⟩
    go_wp2_with fail
    go_loop [12, 13] (fun t i => ∃ k : Nat, k ≤ c ∧ t = .int .i64 ((128 ^ k : Nat) : Int) ∧ i = .int .i64 k) (fun _ i => c - (intOf i).toNat)
    case atStart => exact ⟨0, Nat.zero_le _, rfl, rfl⟩
    case round =>
      obtain ⟨k, hk, rfl, rfl⟩ := hrel
      by_cases hlt : k < c
      · have hp : 128 ^ k ≤ 128 ^ 3 := Nat.pow_le_pow_right (by decide) (by omega)
        have E := Lib.hid (Nat.pow_succ (n := 128) (m := k))
        generalize 128 ^ k = t at hp E
        have hp1 : (t : Int) ≤ 2097152 := by omega
        clear hp
        go_wp2_with fail
        go_round
        case rel => exact ⟨k + 1, by omega, by rw [E.out]; simp, by go_num⟩
        case measure => simp [intOf]; omega
      · obtain rfl : k = c := by omega
        rw [HL.out]
        by_cases h1 : 1 < k
        · have hg : decide ((1 : Int) < (k : Int)) = true := decide_eq_true (by omega)
          have hdl : ¬ N < L / 128 := by have := HLN.out h1; omega
          have hdl2 : ¬ (N : Int) < (L : Int) / 128 := by omega
          clear h1
          rcases LA.out with h3 | h3 | ⟨v, u, D, h3, h4, h5, h6⟩
          · have H3 := Lib.hid h3; clear h3
            go_wp2_with fail
            refine (H3.out _).mono ?_
            rintro e W ⟨rfl, h⟩
            replace hb := hb.trans (h.mono hb.size)
            clear h
            go_wp2_with fail
            go_ret
            exact ⟨rfl, hb⟩
          · have H3 := Lib.hid h3; clear h3
            go_wp2_with fail
            refine (H3.out _).mono ?_
            rintro e W ⟨rfl, h⟩
            replace hb := hb.trans (h.mono hb.size)
            clear h
            go_wp2_with fail
            go_ret
            exact ⟨rfl, hb⟩
          · have H3 := Lib.hid h3; clear h3
            have H4 := Lib.hid h4; clear h4
            have h5' : (u : Int) ≤ (s.size : Int) := by omega
            go_wp2_with fail
            refine (H3.out _).mono ?_
            rintro e W ⟨rfl, h⟩
            replace hb := hb.trans (h.mono hb.size)
            clear h
            go_wp2_with fail
            refine (H4.out _).mono ?_
            rintro e W ⟨rfl, h⟩
            replace hb := hb.trans (h.mono hb.size)
            clear h
            go_wp2_with fail
            go_ret
            exact ⟨rfl, hb⟩
        · have hg : decide ((1 : Int) < (k : Int)) = false := decide_eq_false (by omega)
          clear h1
          rcases LA.out with h3 | h3 | ⟨v, u, D, h3, h4, h5, h6⟩
          · have H3 := Lib.hid h3; clear h3
            go_wp2_with fail
            refine (H3.out _).mono ?_
            rintro e W ⟨rfl, h⟩
            replace hb := hb.trans (h.mono hb.size)
            clear h
            go_wp2_with fail
            go_ret
            exact ⟨rfl, hb⟩
          · have H3 := Lib.hid h3; clear h3
            go_wp2_with fail
            refine (H3.out _).mono ?_
            rintro e W ⟨rfl, h⟩
            replace hb := hb.trans (h.mono hb.size)
            clear h
            go_wp2_with fail
            go_ret
            exact ⟨rfl, hb⟩
          · have H3 := Lib.hid h3; clear h3
            have H4 := Lib.hid h4; clear h4
            have h5' : (u : Int) ≤ (s.size : Int) := by omega
            go_wp2_with fail
            refine (H3.out _).mono ?_
            rintro e W ⟨rfl, h⟩
            replace hb := hb.trans (h.mono hb.size)
            clear h
            go_wp2_with fail
            refine (H4.out _).mono ?_
            rintro e W ⟨rfl, h⟩
            replace hb := hb.trans (h.mono hb.size)
            clear h
            go_wp2_with fail
            go_ret
            exact ⟨rfl, hb⟩

theorem run_back_of (n : Nat) (hn : n ≤ 268435455) (t : ByteArray) : run 0 0 (bs (vb n (sz n)) ++ t : ByteArray).data.toList = (n, sz n, 1) := by
  have e : (bs (vb n (sz n)) ++ t : ByteArray).data.toList = vb n (sz n) ++ t.data.toList := by simp [bs]
  rw [e]
  exact run_vb n hn _
end Go.Proofs.Ytoaoabffgllbbaa
