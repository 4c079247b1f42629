/-
  The contracts of varint's functions on numbers and bytes alone: next, Size. No condition.
  The contracts of head's functions on versions, kinds and flags, and of head.Check and head.Flags. No condition.
-/
import Derived.Lib.BitFns
import Derived.Lib.Walk
import Derived.Test.YtaahhbjnflimnaaGreatK13
import Derived.Test.YtaahhbjnflimnaaGreatK06
import Derived.Test.YtaahhbjnflimnaaGreatK11
import Derived.Test.YtaahhbjnflimnaaGreatK20
namespace Go.Proofs.YtaahhbjnflimnaaGreat
open Go.RowKit

theorem and_hi (b : UInt8) : bits .and .u8 (b.toNat : Int) 128 = if 128 ≤ b.toNat then 128 else 0 := by
  have all : ∀ x : Fin 256, bits .and .u8 (x.val : Int) 128 = if 128 ≤ x.val then 128 else 0 := by decide +kernel
  exact all ⟨b.toNat, b.toNat_lt⟩
theorem and_lo (b : UInt8) : bits .and .u8 (b.toNat : Int) 127 = ((b.toNat % 128 : Nat) : Int) := by
  have all : ∀ x : Fin 256, bits .and .u8 (x.val : Int) 127 = ((x.val % 128 : Nat) : Int) := by decide +kernel
  exact all ⟨b.toNat, b.toNat_lt⟩
theorem or_hi (x : Nat) (h : x < 128) : bits .or .u8 (x : Int) 128 = ((x + 128 : Nat) : Int) := by
  have all : ∀ x : Fin 128, bits .or .u8 (x.val : Int) 128 = ((x.val + 128 : Nat) : Int) := by decide +kernel
  exact all ⟨x, h⟩

set_option maxHeartbeats 1000000 in
set_option maxRecDepth 100000 in
/-- math/bits.Len64 below 2^28: one walk for each number of bytes. -/
theorem len64_small (x : Int) (w : World) (h0 : 0 ≤ x) (h1 : x ≤ 268435455) :
    Calls Tryz.prog 226 #[.int .u64 x] w fun e w' => e = .returned (.int .i64 (Lib.bitLen x.toNat)) ∧ w = w' := by
  have h32 : x < 4294967296 := by omega
  by_cases c1 : x < 256
  · have l := Lib.bitLen_le8' x h0 (by omega)
    have g0 : x ≤ 255 := by omega
    go_enter Tryz.func226, Tryz.ntmps226
    go_wp2
    go_ret
    refine ⟨congrArg Ending.returned (congrArg (Value.int IntKind.i64) ?_), rfl⟩
    rw [Lib.len8_of x h0 g0]
    unfold wrap64
    omega
  by_cases c2 : x < 65536
  · have l := Lib.bitLen_le8' (x / 256) (by omega) (by omega)
    have s := Lib.bitLen_shift8 x.toNat (by omega) (by omega)
    have g0 : 0 ≤ x / 256 := by omega
    have g1 : x / 256 ≤ 255 := by omega
    have e : (x / 256).toNat = x.toNat / 256 := by omega
    rw [e] at l
    have E := Lib.hid e
    have S := Lib.hid s
    clear e s
    go_enter Tryz.func226, Tryz.ntmps226
    go_wp2
    go_ret
    refine ⟨congrArg Ending.returned (congrArg (Value.int IntKind.i64) ?_), rfl⟩
    rw [Lib.len8_of (x / 256) g0 g1, E.out, S.out]
    unfold wrap64
    omega
  by_cases c3 : x < 16777216
  · have l := Lib.bitLen_le8' (x / 65536) (by omega) (by omega)
    have s := Lib.bitLen_shift16 x.toNat (by omega) (by omega)
    have g0 : 0 ≤ x / 65536 := by omega
    have g1 : x / 65536 ≤ 255 := by omega
    have e : (x / 65536).toNat = x.toNat / 65536 := by omega
    rw [e] at l
    have E := Lib.hid e
    have S := Lib.hid s
    clear e s
    go_enter Tryz.func226, Tryz.ntmps226
    go_wp2
    go_ret
    refine ⟨congrArg Ending.returned (congrArg (Value.int IntKind.i64) ?_), rfl⟩
    rw [Lib.len8_of (x / 65536) g0 g1, E.out, S.out]
    unfold wrap64
    omega
  · have l := Lib.bitLen_le8' (x / 65536 / 256) (by omega) (by omega)
    have s := Lib.bitLen_shift24 x.toNat (by omega) (by omega)
    have g0 : 0 ≤ x / 65536 / 256 := by omega
    have g1 : x / 65536 / 256 ≤ 255 := by omega
    have e : (x / 65536 / 256).toNat = x.toNat / 16777216 := by omega
    rw [e] at l
    have E := Lib.hid e
    have S := Lib.hid s
    clear e s
    go_enter Tryz.func226, Tryz.ntmps226
    go_wp2
    go_ret
    refine ⟨congrArg Ending.returned (congrArg (Value.int IntKind.i64) ?_), rfl⟩
    rw [Lib.len8_of (x / 65536 / 256) g0 g1, E.out, S.out]
    unfold wrap64
    omega
theorem len_small (x : Int) (w : World) (h0 : 0 ≤ x) (h1 : x ≤ 268435455) :
    Calls Tryz.prog 196 #[.int .u64 x] w fun e w' => e = .returned (.int .i64 (Lib.bitLen x.toNat)) ∧ w = w' := by
  go_enter Tryz.func196, Tryz.ntmps196
  go_wp2_with (go_at_call 226; refine (len64_small x _ h0 h1).mono ?_; rintro e w' ⟨rfl, rfl⟩)
  go_ret
  exact ⟨rfl, rfl⟩

theorem sz_len (n : Nat) (h : n ≤ 268435455) : (max 1 (Lib.bitLen n) + 6) / 7 = sz n := by
  have low : ∀ k, k ≤ 63 → 2 ^ k ≤ n → k < Lib.bitLen n := fun k hk hn => by
    have hpos : n / 2 ^ k ≠ 0 := by have := Nat.div_pos hn (Nat.two_pow_pos k); omega
    have h64 : n < 2 ^ 64 := by have : (268435455 : Nat) < 2 ^ 64 := by decide
                                omega
    rw [Lib.bitLen_shift k n hn h64, Lib.bitLen_half _ hpos (Nat.lt_of_le_of_lt (Nat.div_le_self _ _) h64)]
    omega
  rcases sz_cases n h with ⟨e, h1⟩ | ⟨e, h1, h2⟩ | ⟨e, h1, h2⟩ | ⟨e, h1⟩ <;> rw [e]
  · have := Lib.bitLen_le n 7 (by decide) h1
    omega
  · have := Lib.bitLen_le n 14 (by decide) h2
    have := low 7 (by decide) h1
    omega
  · have := Lib.bitLen_le n 21 (by decide) h2
    have := low 14 (by decide) h1
    omega
  · have := Lib.bitLen_le n 28 (by decide) (by omega)
    have := low 21 (by decide) h1
    omega

theorem sz_int (n : Nat) (h : n ≤ 268435455) : (max 1 (Lib.bitLen n : Int) + 7 - 1) / 7 = sz n := by
  rw [← sz_len n h]
  generalize Lib.bitLen n = b
  rcases Nat.le_total 1 b with h | h
  · rw [Nat.max_eq_right h, Int.max_eq_right (by omega)]; omega
  · rw [Nat.max_eq_left h, Int.max_eq_left (by omega)]; omega

/-- varint.Size. -/
theorem size_any (n : Int) (w : World) :
    Calls Tryz.prog 140 #[.int .i64 n] w fun e w' => e = .returned (.int .i64 (sz n)) ∧ w = w' := by
  by_cases h1 : n < 0
  · rw [sz_zero.2 (.inl h1)]
    go_enter Tryz.func140, Tryz.ntmps140
    go_wp2
    go_ret
    exact ⟨rfl, rfl⟩
  by_cases h2 : 268435455 < n
  · rw [sz_zero.2 (.inr h2)]
    go_enter Tryz.func140, Tryz.ntmps140
    go_wp2
    go_ret
    exact ⟨rfl, rfl⟩
  · obtain ⟨k, rfl⟩ := Int.eq_ofNat_of_zero_le (show 0 ≤ n by omega)
    have e := sz_int k (by omega)
    have b := Lib.bitLen_le k 28 (by decide) (by omega)
    have E := Lib.hid e
    clear e
    go_enter Tryz.func140, Tryz.ntmps140
    go_wp2_with (go_at_call 196; refine (len_small k _ (by omega) (by omega)).mono ?_; rintro e w' ⟨rfl, rfl⟩)
    go_ret
    exact ⟨congrArg Ending.returned (congrArg (Value.int IntKind.i64) E.out), rfl⟩
end Go.Proofs.YtaahhbjnflimnaaGreat
namespace Go.Proofs.YtaahhbjnflimnaaGreat
open Go.RowKit

def lastK (v : Int) : Int := if v = 4 then 14 else if v = 5 then 15 else 0
theorem last_kind (v : Int) (w : World) : Calls Tryz.prog 193 #[.int .i64 v] w fun e w' => e = .returned (.int .i64 (lastK v)) ∧ w = w' := by
  unfold lastK
  by_cases h4 : v = 4
  · subst h4
    go_enter Tryz.func193, Tryz.ntmps193
    go_wp2
    go_ret
    exact ⟨rfl, rfl⟩
  by_cases h5 : v = 5
  · subst h5
    go_enter Tryz.func193, Tryz.ntmps193
    go_wp2
    go_ret
    exact ⟨rfl, rfl⟩
  rw [if_neg h4, if_neg h5]
  have e4 : (v == 4) = false := by rw [beq_eq_false_iff_ne]; exact h4
  have e5 : (v == 5) = false := by rw [beq_eq_false_iff_ne]; exact h5
  clear h4 h5
  go_enter Tryz.func193, Tryz.ntmps193
  go_wp2
  go_ret
  exact ⟨rfl, rfl⟩
theorem verH_yes {v : Int} (h : verH v = true) : v = 4 ∨ v = 5 := by
  unfold verH at h
  simpa only [Bool.or_eq_true, beq_iff_eq] using h
theorem verH_no {v : Int} (h : verH v = false) : v ≠ 4 ∧ v ≠ 5 := by
  unfold verH at h
  simpa only [Bool.or_eq_false_iff, beq_eq_false_iff_ne] using h
def verE (v : Int) : Int := if verH v = false then 2 else 0
theorem check_version (v : Int) (w : World) : Calls Tryz.prog 192 #[.int .i64 v] w fun e w' => e = .returned (.int .i64 (verE v)) ∧ w = w' := by
  have L := Lib.hid (last_kind v)
  cases h : verH v
  · have hv := verH_no h
    have hl : lastK v = 0 := by unfold lastK; rw [if_neg hv.1, if_neg hv.2]
    have he : verE v = 2 := by unfold verE; rw [h]; rfl
    rw [he]
    rw [hl] at L
    clear hl he hv h
    go_enter Tryz.func192, Tryz.ntmps192
    go_wp2_with fail
    refine (L.out _).mono ?_
    rintro e w' ⟨rfl, rfl⟩
    go_wp2_with fail
    go_ret
    exact ⟨rfl, rfl⟩
  · have he : verE v = 0 := by unfold verE; rw [h]; rfl
    rw [he]
    rcases verH_yes h with rfl | rfl
    all_goals
      clear he h
      go_enter Tryz.func192, Tryz.ntmps192
      go_wp2_with fail
      refine (L.out _).mono ?_
      rintro e w' ⟨rfl, rfl⟩
      go_wp2_with fail
      go_ret
      exact ⟨rfl, rfl⟩
def kindE (v k : Int) : Int := if verH v = false then 2 else if kindH v k = false then 8 else 0
theorem check_kind (v k : Int) (w : World) : Calls Tryz.prog 138 #[.int .i64 v, .int .i64 k] w fun e w' => e = .returned (.int .i64 (kindE v k)) ∧ w = w' := by
  have V := Lib.hid (check_version v)
  have L := Lib.hid (last_kind v)
  cases h : verH v
  · have he : kindE v k = 2 := by unfold kindE; rw [h]; rfl
    have h2 : verE v = 2 := by unfold verE; rw [h]; rfl
    rw [he]
    rw [h2] at V
    clear he h2 h
    go_enter Tryz.func138, Tryz.ntmps138
    go_wp2_with fail
    refine (V.out _).mono ?_
    rintro e w' ⟨rfl, rfl⟩
    go_wp2_with fail
    go_ret
    exact ⟨rfl, rfl⟩
  have h2 : verE v = 0 := by unfold verE; rw [h]; rfl
  rw [h2] at V
  clear h2
  by_cases h1 : k < 1
  · have he : kindE v k = 8 := by unfold kindE kindH; rw [h, if_neg (by simp), decide_eq_false (show ¬ 1 ≤ k by omega)]; rfl
    rw [he]
    have hd : decide (k < 1) = true := decide_eq_true h1
    clear he h h1
    go_enter Tryz.func138, Tryz.ntmps138
    go_wp2_with fail
    refine (V.out _).mono ?_
    rintro e w' ⟨rfl, rfl⟩
    go_wp2_with fail
    go_ret
    exact ⟨rfl, rfl⟩
  have hd : decide (k < 1) = false := decide_eq_false h1
  by_cases h3 : lastK v < k
  · have he : kindE v k = 8 := by
      have hk : kindH v k = false := by
        unfold kindH
        rcases verH_yes h with rfl | rfl
        · have h3' : 14 < k := h3
          rw [decide_eq_false (show ¬ k < 15 by omega)]; simp
        · have h3' : 15 < k := h3
          rw [decide_eq_false (show ¬ k < 15 by omega), show (k == 15) = false by rw [beq_eq_false_iff_ne]; omega]; simp
      unfold kindE; rw [h, hk]; rfl
    rw [he]
    have hg : decide (lastK v < k) = true := decide_eq_true h3
    generalize lastK v = z at *
    clear he h h1 h3
    go_enter Tryz.func138, Tryz.ntmps138
    go_wp2_with fail
    refine (V.out _).mono ?_
    rintro e w' ⟨rfl, rfl⟩
    go_wp2_with fail
    refine (L.out _).mono ?_
    rintro e w' ⟨rfl, rfl⟩
    go_wp2_with fail
    go_ret
    exact ⟨rfl, rfl⟩
  · have he : kindE v k = 0 := by
      have hk : kindH v k = true := by
        unfold kindH
        rw [decide_eq_true (show 1 ≤ k by omega)]
        rcases verH_yes h with rfl | rfl
        · have h3' : ¬ 14 < k := h3
          rw [decide_eq_true (show k < 15 by omega)]; rfl
        · have h3' : ¬ 15 < k := h3
          by_cases h15 : k = 15
          · subst h15; rfl
          · rw [decide_eq_true (show k < 15 by omega)]; rfl
      unfold kindE; rw [h, hk]; rfl
    rw [he]
    have hg : decide (lastK v < k) = false := decide_eq_false h3
    generalize lastK v = z at *
    clear he h h1 h3
    go_enter Tryz.func138, Tryz.ntmps138
    go_wp2_with fail
    refine (V.out _).mono ?_
    rintro e w' ⟨rfl, rfl⟩
    go_wp2_with fail
    refine (L.out _).mono ?_
    rintro e w' ⟨rfl, rfl⟩
    go_wp2_with fail
    go_ret
    exact ⟨rfl, rfl⟩

/-- A packet's flags, of one whose kind exists. -/
def flagsO (k : Int) (d r : Bool) (q : Int) : Int × Nat :=
  if k = 6 ∨ k = 8 ∨ k = 10 then (2, 0) else if k = 3 then (if qosOk d q then (packF d r q, 0) else (0, 7)) else (0, 0)
theorem flagsF_O (v k : Int) (d r : Bool) (q : Int) : flagsF v k d r q = if kindE v k = 0 then flagsO k d r q else (0, (kindE v k).toNat) := by
  unfold flagsF kindE flagsO
  cases verH v
  · rfl
  · cases kindH v k
    · rfl
    · rfl
def FlRet (x : Int × Nat) (w : World) (e : Ending) (w' : World) : Prop := e = .returned (.tuple #[.int .i64 x.1, .int .i64 (x.2 : Nat)]) ∧ Below w.heap.size w w'

set_option maxRecDepth 100000 in
set_option maxHeartbeats 1000000 in
theorem publish_flags {q : Int} {d r : Bool} {c : Array Value} (w : World) (h1 : c[1]? = some (.bool d)) (h2 : c[2]? = some (.bool r)) (h3 : c[3]? = some (.int .i64 q)) : Calls Tryz.prog 224 #[.agg c] w (FlRet (if qosOk d q then (packF d r q, 0) else (0, 7)) w) := by
  have hb : ∀ o, Below w.heap.size w (w.alloc o) := fun o => (Below.refl _ _).alloc (Nat.le_refl _) _
  have HB := Lib.hid hb
  clear hb
  by_cases hq0 : q < 0
  · have e : qosOk d q = false := by unfold qosOk; rw [decide_eq_false (show ¬ 0 ≤ q by omega)]; rfl
    rw [e]; clear e
    go_enter Tryz.func224, Tryz.ntmps224
    go_wp2
    go_ret2
    exact ⟨rfl, HB.out _⟩
  by_cases hq2 : 2 < q
  · have e : qosOk d q = false := by unfold qosOk; rw [decide_eq_false (show ¬ q ≤ 2 by omega)]; simp
    rw [e]; clear e
    go_enter Tryz.func224, Tryz.ntmps224
    go_wp2
    go_ret2
    exact ⟨rfl, HB.out _⟩
  obtain rfl | rfl | rfl : q = 0 ∨ q = 1 ∨ q = 2 := by omega
  all_goals
    clear hq0 hq2
    cases d <;> cases r
  all_goals
    go_enter Tryz.func224, Tryz.ntmps224
    go_wp2
    go_ret2
    exact ⟨rfl, HB.out _⟩
set_option maxRecDepth 100000 in
set_option maxHeartbeats 1000000 in
theorem flags_of {k q : Int} {d r : Bool} {c : Array Value} (w : World) (hs : c.size = 25) (h0 : c[0]? = some (.int .i64 k)) (h1 : c[1]? = some (.bool d)) (h2 : c[2]? = some (.bool r)) (h3 : c[3]? = some (.int .i64 q)) : Calls Tryz.prog 194 #[.agg c] w (FlRet (flagsO k d r q) w) := by
  have hb : ∀ o, Below w.heap.size w (w.alloc o) := fun o => (Below.refl _ _).alloc (Nat.le_refl _) _
  have HB := Lib.hid hb
  clear hb
  have P := Lib.hid (fun W => publish_flags W h1 h2 h3)
  unfold flagsO
  have HS := Lib.hid hs
  clear h1 h2 h3 hs
  by_cases hk3 : k = 3
  · subst hk3
    rw [if_neg (by decide), if_pos rfl]
    generalize (if qosOk d q then (packF d r q, 0) else ((0, 7) : Int × Nat)) = z at *
    go_enter Tryz.func194, Tryz.ntmps194
    go_wp2_with (refine wpList_load_row rfl _ _ rfl w.heap.size rfl 28 _ (0, 0) _ (heap_alloc_new w _) Tryz.underlying28 rfl (by rw [HS.out]; exact info_pk) ?_)
    go_wp2_with fail
    refine (P.out _).mono ?_
    rintro e w' ⟨rfl, h⟩
    go_wp2_with fail
    go_ret2
    exact ⟨rfl, (HB.out _).trans (h.mono (HB.out _).size)⟩
  by_cases h6 : k = 6
  · subst h6
    go_enter Tryz.func194, Tryz.ntmps194
    go_wp2
    go_ret2
    exact ⟨rfl, HB.out _⟩
  by_cases h8 : k = 8
  · subst h8
    go_enter Tryz.func194, Tryz.ntmps194
    go_wp2
    go_ret2
    exact ⟨rfl, HB.out _⟩
  by_cases h10 : k = 10
  · subst h10
    go_enter Tryz.func194, Tryz.ntmps194
    go_wp2
    go_ret2
    exact ⟨rfl, HB.out _⟩
  rw [if_neg (by omega), if_neg hk3]
  have e3 : (k == 3) = false := by rw [beq_eq_false_iff_ne]; exact hk3
  have e6 : (k == 6) = false := by rw [beq_eq_false_iff_ne]; exact h6
  have e8 : (k == 8) = false := by rw [beq_eq_false_iff_ne]; exact h8
  have e10 : (k == 10) = false := by rw [beq_eq_false_iff_ne]; exact h10
  clear hk3 h6 h8 h10
  go_enter Tryz.func194, Tryz.ntmps194
  go_wp2
  go_ret2
  exact ⟨rfl, HB.out _⟩
set_option maxRecDepth 100000 in
set_option maxHeartbeats 1000000 in
/-- head.Flags. -/
theorem flags_any (v : Int) {k q : Int} {d r : Bool} {c : Array Value} (w : World) (hs : c.size = 25) (h0 : c[0]? = some (.int .i64 k)) (h1 : c[1]? = some (.bool d)) (h2 : c[2]? = some (.bool r)) (h3 : c[3]? = some (.int .i64 q)) : Calls Tryz.prog 144 #[.int .i64 v, .agg c] w (FlRet (flagsF v k d r q) w) := by
  have hb : ∀ o, Below w.heap.size w (w.alloc o) := fun o => (Below.refl _ _).alloc (Nat.le_refl _) _
  have HB := Lib.hid hb
  clear hb
  rw [flagsF_O]
  have K := Lib.hid (check_kind v k)
  have F := Lib.hid (fun W => flags_of W hs h0 h1 h2 h3)
  have HS := Lib.hid hs
  clear h1 h2 h3 hs
  by_cases h : kindE v k = 0
  · rw [if_pos h]
    rw [h] at K
    clear h
    generalize flagsO k d r q = z at *
    go_enter Tryz.func144, Tryz.ntmps144
    go_wp2_with fail
    refine (K.out _).mono ?_
    rintro e w' ⟨rfl, rfl⟩
    go_wp2_with (refine wpList_load_row rfl _ _ rfl w.heap.size rfl 28 _ (0, 0) _ (heap_alloc_new w _) Tryz.underlying28 rfl (by rw [HS.out]; exact info_pk) ?_)
    go_wp2_with fail
    refine (F.out _).mono ?_
    rintro e w' ⟨rfl, h⟩
    go_wp2_with fail
    go_ret2
    exact ⟨rfl, (HB.out _).trans (h.mono (HB.out _).size)⟩
  · rw [if_neg h]
    have hz : ((kindE v k).toNat : Int) = kindE v k := by
      have : 0 ≤ kindE v k := by unfold kindE; split; · decide
                                 split <;> decide
      omega
    unfold FlRet
    show Calls _ _ _ _ fun e w' => e = .returned (.tuple #[.int .i64 0, .int .i64 ((kindE v k).toNat : Int)]) ∧ Below w.heap.size w w'
    rw [hz]
    have hn : (kindE v k == 0) = false := by rw [beq_eq_false_iff_ne]; exact h
    clear F hz h
    generalize kindE v k = z at *
    go_enter Tryz.func144, Tryz.ntmps144
    go_wp2_with fail
    refine (K.out _).mono ?_
    rintro e w' ⟨rfl, rfl⟩
    go_wp2_with fail
    go_ret2
    exact ⟨rfl, HB.out _⟩
end Go.Proofs.YtaahhbjnflimnaaGreat
