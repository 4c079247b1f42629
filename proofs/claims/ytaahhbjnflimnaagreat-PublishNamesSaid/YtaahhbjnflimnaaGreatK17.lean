/-
  Plain facts on prop's rules: what stands at an id is the row of the document's table; the kinds as bits. No condition.
  The contracts of prop.rule.may, Shape, May, Many, repeats. Condition: a kind and an id are ints.
  Plain facts on bytes and numbers, and on a world in which blocks from a number on belong to the call. No condition.
  The contract of octet.Put. No condition.
  The contract of ustring.Binary. Condition: none.
-/
import Derived.Test.YtaahhbjnflimnaaGreatK08
import Derived.Test.YtaahhbjnflimnaaGreatK16
import Derived.Test.YtaahhbjnflimnaaGreatK13
import Derived.Test.YtaahhbjnflimnaaGreatK06
import Derived.Test.YtaahhbjnflimnaaGreatK15
namespace Go.Proofs.YtaahhbjnflimnaaGreat
open Go.RowKit

/-- The kinds as bits. -/
def maskP (id : Int) : Nat := (prow id).kinds.foldr (fun k m => m + 2 ^ k.toNat) 0
theorem lookK_none (z : Value) : ∀ (l : List (Int × Value)) (i : Int), (∀ p ∈ l, i ≠ p.1) → lookK z l i = z
  | [], _, _ => rfl
  | p :: l, i, h => by
    rw [lookK, if_neg (h p (List.mem_cons_self ..))]
    exact lookK_none z l i (fun q hq => h q (List.mem_cons_of_mem _ hq))
theorem rules_keys : ∀ p ∈ rulesL, 1 ≤ p.1 ∧ p.1 ≤ 42 := by
  intro p hp
  have h := List.mem_map_of_mem (f := Prod.fst) hp
  have : ∀ k ∈ rulesL.map Prod.fst, 1 ≤ k ∧ k ≤ 42 := by decide
  exact this _ h
theorem rule_at (id : Int) : lookK zeroRule rulesL id = ruleV (prow id).shape (maskP id) (prow id).least := by
  rcases Int.lt_or_le id 1 with h | h
  · rw [lookK_none _ _ _ (fun p hp e => by have := rules_keys p hp; omega)]
    unfold maskP
    rw [prow_out (.inl h)]; rfl
  · rcases Int.lt_or_le 42 id with h2 | h2
    · rw [lookK_none _ _ _ (fun p hp e => by have := rules_keys p hp; omega)]
      unfold maskP
      rw [prow_out (.inr h2)]; rfl
    · obtain ⟨n, rfl⟩ := Int.eq_ofNat_of_zero_le (show 0 ≤ id by omega)
      have hn : n ≤ 42 := by omega
      clear h h2
      match n, hn with
      | 0, _ => rfl
      | 1, _ => rfl
      | 2, _ => rfl
      | 3, _ => rfl
      | 4, _ => rfl
      | 5, _ => rfl
      | 6, _ => rfl
      | 7, _ => rfl
      | 8, _ => rfl
      | 9, _ => rfl
      | 10, _ => rfl
      | 11, _ => rfl
      | 12, _ => rfl
      | 13, _ => rfl
      | 14, _ => rfl
      | 15, _ => rfl
      | 16, _ => rfl
      | 17, _ => rfl
      | 18, _ => rfl
      | 19, _ => rfl
      | 20, _ => rfl
      | 21, _ => rfl
      | 22, _ => rfl
      | 23, _ => rfl
      | 24, _ => rfl
      | 25, _ => rfl
      | 26, _ => rfl
      | 27, _ => rfl
      | 28, _ => rfl
      | 29, _ => rfl
      | 30, _ => rfl
      | 31, _ => rfl
      | 32, _ => rfl
      | 33, _ => rfl
      | 34, _ => rfl
      | 35, _ => rfl
      | 36, _ => rfl
      | 37, _ => rfl
      | 38, _ => rfl
      | 39, _ => rfl
      | 40, _ => rfl
      | 41, _ => rfl
      | 42, _ => rfl
      | n + 43, h => exact absurd h (by omega)

/-- A kind's bit. -/
def bitP (m : Nat) (kind : Int) : Bool := decide (0 ≤ kind ∧ kind < 32) && decide (m / 2 ^ kind.toNat % 2 = 1)
theorem bits_row (ks : List Int) (h : (List.range 32).all (fun k => decide ((ks.foldr (fun k m => m + 2 ^ k.toNat) 0) / 2 ^ k % 2 = 1) == ks.contains (k : Int)) = true) (hk : ∀ k ∈ ks, 0 ≤ k ∧ k < 32) (kind : Int) :
    bitP (ks.foldr (fun k m => m + 2 ^ k.toNat) 0) kind = ks.contains kind := by
  unfold bitP
  by_cases hr : 0 ≤ kind ∧ kind < 32
  · rw [decide_eq_true hr, Bool.true_and]
    obtain ⟨n, rfl⟩ := Int.eq_ofNat_of_zero_le hr.1
    have := List.all_eq_true.1 h n (List.mem_range.2 (by omega))
    rw [beq_iff_eq] at this
    exact this
  · rw [decide_eq_false hr, Bool.false_and]
    cases hc : ks.contains kind with
    | false => rfl
    | true => exact absurd (hk kind (by simpa using hc)) hr
theorem bit_may (kind id : Int) : bitP (maskP id) kind = mayP kind id := by
  unfold maskP mayP
  have key : ∀ r : PRow, (decide (r.kinds.all fun k => decide (0 ≤ k) && decide (k < 32)) && (List.range 32).all (fun k => decide ((r.kinds.foldr (fun k m => m + 2 ^ k.toNat) 0) / 2 ^ k % 2 = 1) == r.kinds.contains (k : Int))) = true →
      bitP (r.kinds.foldr (fun k m => m + 2 ^ k.toNat) 0) kind = r.kinds.contains kind := fun r h => by
    rw [Bool.and_eq_true, decide_eq_true_eq] at h
    exact bits_row r.kinds h.2 (fun k hk => by
      have := List.all_eq_true.1 h.1 k hk
      rw [Bool.and_eq_true, decide_eq_true_eq, decide_eq_true_eq] at this
      exact this) kind
  rcases Int.lt_or_le id 1 with h | h
  · rw [prow_out (.inl h)]; exact key _ (by decide)
  · rcases Int.lt_or_le 42 id with h2 | h2
    · rw [prow_out (.inr h2)]; exact key _ (by decide)
    · exact key _ (prow_all (fun _ r => decide (r.kinds.all fun k => decide (0 ≤ k) && decide (k < 32)) && (List.range 32).all (fun k => decide ((r.kinds.foldr (fun k m => m + 2 ^ k.toNat) 0) / 2 ^ k % 2 = 1) == r.kinds.contains (k : Int))) (by decide +kernel) ⟨h, h2⟩)
theorem mask_lt (id : Int) : maskP id < 131072 := by
  unfold maskP
  rcases Int.lt_or_le id 1 with h | h
  · rw [prow_out (.inl h)]; decide
  · rcases Int.lt_or_le 42 id with h2 | h2
    · rw [prow_out (.inr h2)]; decide
    · have := prow_all (fun _ r => decide (r.kinds.foldr (fun k m => m + 2 ^ k.toNat) 0 < 131072)) (by decide +kernel) ⟨h, h2⟩
      exact of_decide_eq_true this
end Go.Proofs.YtaahhbjnflimnaaGreat
namespace Go.Proofs.YtaahhbjnflimnaaGreat
open Go.RowKit

theorem bit_test (k : Nat) (kind : Int) (hk : k < 4294967296) (hi : -9223372036854775808 ≤ kind) (hj : kind ≤ 9223372036854775807) :
    (bits BinOp.and IntKind.u32 ((k : Int) / 2 ^ min (IntKind.u64.wrap kind).toNat 32) 1 != 0) = bitP k kind := by
  obtain ⟨m, hm⟩ : ∃ m : Nat, (k : Int) / 2 ^ min (IntKind.u64.wrap kind).toNat 32 = (m : Int) ∧ m = k / 2 ^ min (IntKind.u64.wrap kind).toNat 32 := ⟨_, by simp, rfl⟩
  rw [hm.1]
  have hlt : m < 4294967296 := by rw [hm.2]; exact Nat.lt_of_le_of_lt (Nat.div_le_self _ _) hk
  have e1 : bits BinOp.and IntKind.u32 (m : Int) 1 = (m : Int) % 2 := by
    have := bits_mask .u32 32 (by decide) (fun n h0 h1 => by rw [IntKind.wrap_u32]; omega) 1 (by decide) (m : Int) (by omega) (by omega)
    simpa using this
  rw [e1]
  unfold bitP
  rw [IntKind.wrap_u64] at hm
  by_cases hr : 0 ≤ kind ∧ kind < 32
  · rw [decide_eq_true hr, Bool.true_and]
    have e2 : min (kind % 18446744073709551616).toNat 32 = kind.toNat := by omega
    rw [e2] at hm
    rw [← hm.2]
    rcases Nat.mod_two_eq_zero_or_one m with h | h
    · have : (m : Int) % 2 = 0 := by omega
      rw [this, h]; rfl
    · have : (m : Int) % 2 = 1 := by omega
      rw [this, h]; rfl
  · rw [decide_eq_false hr, Bool.false_and]
    have e2 : min (kind % 18446744073709551616).toNat 32 = 32 := by omega
    rw [e2, Nat.div_eq_of_lt (by simpa using hk)] at hm
    rw [hm.2]; rfl

theorem may_any (s k l : Nat) (kind : Int) (w : World) (hk : k < 4294967296) (hi : -9223372036854775808 ≤ kind) (hj : kind ≤ 9223372036854775807) :
    Calls Tryz.prog 246 #[ruleV s k l, .int .i64 kind] w fun e w' => e = .returned (.bool (bitP k kind)) ∧ Below w.heap.size w w' := by
  have hb := Lib.hid (bit_test k kind hk hi hj)
  unfold ruleV
  go_enter Tryz.func246, Tryz.ntmps246
  go_wp2
  go_ret
  exact ⟨congrArg (fun b => Ending.returned (Value.bool b)) hb.out, (Below.refl _ _).alloc (Nat.le_refl _) _⟩

def repeatsP (kind id : Int) : Bool := id == 38 || (id == 11 && kind == 3)
theorem repeats_any (kind id : Int) (w : World) :
    Calls Tryz.prog 221 #[.int .i64 kind, .int .i64 id] w fun e w' => e = .returned (.bool (repeatsP kind id)) ∧ w = w' := by
  unfold repeatsP
  obtain ⟨b1, h1⟩ : ∃ b, (id == 38) = b := ⟨_, rfl⟩
  obtain ⟨b2, h2⟩ : ∃ b, (id == 11) = b := ⟨_, rfl⟩
  obtain ⟨b3, h3⟩ : ∃ b, (kind == 3) = b := ⟨_, rfl⟩
  rw [h1, h2, h3]
  cases b1 <;> cases b2 <;> cases b3 <;>
  · go_enter Tryz.func221, Tryz.ntmps221
    go_wp2
    go_ret
    exact ⟨rfl, rfl⟩

theorem zero_rule (W : World) : (zeroValue 157).run Tryz.prog W = .ok zeroRule W := by kernel_rfl
theorem i64_wf {n : Int} (h0 : -9223372036854775808 ≤ n) (h1 : n ≤ 9223372036854775807) : (Lit.int .i64 n).wf = true := by
  simp [Lit.wf, IntKind.min, IntKind.max, IntKind.signed, IntKind.bits]; omega
theorem Rules.look {w : World} {b : Nat} (h : Rules w b) {id : Int} (h0 : -9223372036854775808 ≤ id) (h1 : id ≤ 9223372036854775807) :
    (Instr.lookup 158 (.map (some b)) (.int .i64 id) false).run Tryz.prog w = .ok (ruleV (shapeP id) (maskP id) (prow id).least) w := by
  have := MapAt.look h Tryz.underlying3 Tryz.underlying158 (zero_rule w) (i64_wf h0 h1)
  rw [rule_at] at this
  exact this
theorem rule_field0 (s k l : Nat) (W : World) : (Instr.field 157 (ruleV s k l) 0).run Tryz.prog W = .ok (.int .i64 s) W := by kernel_rfl

end Go.Proofs.YtaahhbjnflimnaaGreat
namespace Go.Proofs.YtaahhbjnflimnaaGreat
open Go.RowKit

theorem shr_be (n j : Nat) (hn : n < 18446744073709551616) : Op.shift .shr .u64 (n : Int) .i64 ((8 * j : Nat) : Int) = pure (.int .u64 ((n / 256 ^ j : Nat) : Int)) := by
  have e256 : (256 : Nat) ^ j = 2 ^ (8 * j) := by rw [Nat.pow_mul]
  rw [shift_shr_any _ _ _ _ (by omega), e256]
  congr 2
  have e1 : ((8 * j : Nat) : Int).toNat = 8 * j := by omega
  rw [e1]
  show (n : Int) / 2 ^ min (8 * j) 64 = _
  rcases Nat.lt_or_ge (8 * j) 64 with h | h
  · rw [Nat.min_eq_left (by omega)]; simp
  · rw [Nat.min_eq_right h]
    have h2 : 2 ^ 64 ≤ 2 ^ (8 * j) := Nat.pow_le_pow_right (by decide) h
    rw [Nat.div_eq_of_lt (by omega)]
    show (n : Int) / 18446744073709551616 = 0
    omega

end Go.Proofs.YtaahhbjnflimnaaGreat
namespace Go.Proofs.YtaahhbjnflimnaaGreat
open Go.RowKit

set_option maxHeartbeats 400000 in
theorem put_mid (n c : Nat) (w : World) (hn : n < 18446744073709551616) (h0 : 0 < c) (h1 : c ≤ 16) :
    Calls Tryz.prog 39 #[.int .u64 n, .int .i64 c] w fun e w' => e = .returned (.string (bs (be n c))) ∧ Below w.heap.size w w' := by
  obtain ⟨i0, hi, hz0, hz1, hz2⟩ := info_parts info5
  go_enter Tryz.func39, Tryz.ntmps39
  go_wp2
  go_loopw [6, 11] (fun v i wr => ∃ k : Nat, k ≤ c ∧ i = .int .i64 k ∧ wr.ownsRow w.heap.size 5 1 v k ((be (n / 256 ^ (c - k)) k).map u8v) ∧ Below w.heap.size w wr) (fun _ i _ => c - (intOf i).toNat)
  case atStart => exact ⟨0, Nat.zero_le _, rfl, World.ownsRow_nil _ _ _ _, Below.refl _ _⟩
  case round =>
    obtain ⟨k, hk, rfl, hown, hb⟩ := hrel
    by_cases hlt : k < c
    · have hst := be_step n c k hlt
      have hsh0 := shr_be n (c - (k + 1)) hn
      rw [show (((8 * (c - (k + 1)) : Nat)) : Int) = 8 * ((c : Int) - 1 - k) from by omega] at hsh0
      generalize hm : n / 256 ^ (c - (k + 1)) = m at hst hsh0
      have HM := Lib.hid hm; clear hm
      have HS := Lib.hid hst; clear hst
      have hsh : Op.shift .shr .u64 (n : Int) .i64 (8 * ((c : Int) - 1 - k)) = pure (.int .u64 (m : Int)) := hsh0
      clear hsh0
      have hbs : w.heap.size ≤ wr.heap.size := hb.size
      go_wp2_with (at_builtin; refine wpList_append_own _ rfl _ _ 51 rfl w.heap.size 5 i0 (.int .u8 0) 1 1 Tryz.underlying51 hi hz0 hz1 hz2 rfl (by decide) _ _ _ rfl (hown.alloc _) ⟨wr.heap.size, 0, none⟩ 1 1 [.int .u8 ((m : Int) % 256)] rfl rfl ?c1 ?c2 ?c3 ?c4 ?c5 ?_)
      case c1 => intro j u hj; cases j <;> simp at hj; subst hj; exact World.cell?_alloc_at _ _ _ _ rfl
      case c2 => intro u hu; simp at hu; subst hu; rfl
      case c3 => unfold maxLen; omega
      case c4 => omega
      case c5 => simp; omega
      intro v' w1 hown' hgrow _
      have hb' : Below w.heap.size w w1 := (hb.alloc hbs _).grown hgrow (by simp; omega) (fun j hj => by have := (hown.lt j hj).1; omega)
      have hown2 : w1.ownsRow w.heap.size 5 1 v' (k + 1) ((be (n / 256 ^ (c - (k + 1))) (k + 1)).map u8v) := by
        rw [HM.out, HS.out]; simpa [u8v] using hown'
      clear hown' hgrow HS HM hown hb hsh
      go_wp2
      go_roundw
      case rel => exact ⟨k + 1, by omega, by go_num, hown2, hb'⟩
      case measure => simp [intOf]; omega
    · obtain rfl : k = c := by omega
      have hcv := conv_own _ hown
      have e0 : n / 256 ^ (k - k) = n := by simp
      rw [e0] at hcv
      go_wp2
      go_ret
      exact ⟨rfl, hb⟩
set_option maxHeartbeats 400000 in
set_option maxRecDepth 100000 in
theorem put_big (n : Nat) (size : Int) (w : World) (hn : n < 18446744073709551616) (h0 : 16 < size) :
    Calls Tryz.prog 39 #[.int .u64 n, .int .i64 size] w fun e w' => e = .returned (.string (bs (be n 16))) ∧ Below w.heap.size w w' := by
  obtain ⟨i0, hi, hz0, hz1, hz2⟩ := info_parts info5
  go_enter Tryz.func39, Tryz.ntmps39
  go_wp2
  go_loopw [6, 11] (fun v i wr => ∃ k : Nat, k ≤ 16 ∧ i = .int .i64 k ∧ wr.ownsRow w.heap.size 5 1 v k ((be (n / 256 ^ (16 - k)) k).map u8v) ∧ Below w.heap.size w wr) (fun _ i _ => 16 - (intOf i).toNat)
  case atStart => exact ⟨0, Nat.zero_le _, rfl, World.ownsRow_nil _ _ _ _, Below.refl _ _⟩
  case round =>
    obtain ⟨k, hk, rfl, hown, hb⟩ := hrel
    by_cases hlt : k < 16
    · have hst := be_step n 16 k hlt
      have hsh0 := shr_be n (16 - (k + 1)) hn
      rw [show (((8 * (16 - (k + 1)) : Nat)) : Int) = 8 * (15 - (k : Int)) from by omega] at hsh0
      generalize hm : n / 256 ^ (16 - (k + 1)) = m at hst hsh0
      have HM := Lib.hid hm; clear hm
      have HS := Lib.hid hst; clear hst
      have hsh : Op.shift .shr .u64 (n : Int) .i64 (8 * (15 - (k : Int))) = pure (.int .u64 (m : Int)) := hsh0
      clear hsh0
      have hbs : w.heap.size ≤ wr.heap.size := hb.size
      go_wp2_with (at_builtin; refine wpList_append_own _ rfl _ _ 51 rfl w.heap.size 5 i0 (.int .u8 0) 1 1 Tryz.underlying51 hi hz0 hz1 hz2 rfl (by decide) _ _ _ rfl (hown.alloc _) ⟨wr.heap.size, 0, none⟩ 1 1 [.int .u8 ((m : Int) % 256)] rfl rfl ?c1 ?c2 ?c3 ?c4 ?c5 ?_)
      case c1 => intro j u hj; cases j <;> simp at hj; subst hj; exact World.cell?_alloc_at _ _ _ _ rfl
      case c2 => intro u hu; simp at hu; subst hu; rfl
      case c3 => unfold maxLen; omega
      case c4 => omega
      case c5 => simp; omega
      intro v' w1 hown' hgrow _
      have hb' : Below w.heap.size w w1 := (hb.alloc hbs _).grown hgrow (by simp; omega) (fun j hj => by have := (hown.lt j hj).1; omega)
      have hown2 : w1.ownsRow w.heap.size 5 1 v' (k + 1) ((be (n / 256 ^ (16 - (k + 1))) (k + 1)).map u8v) := by
        rw [HM.out, HS.out]; simpa [u8v] using hown'
      clear hown' hgrow HS HM hown hb hsh
      go_wp2
      go_roundw
      case rel => exact ⟨k + 1, by omega, by go_num, hown2, hb'⟩
      case measure => simp [intOf]; omega
    · obtain rfl : k = 16 := by omega
      have hcv := conv_own _ hown
      have e0 : n / 256 ^ (16 - 16) = n := by simp
      rw [e0] at hcv
      go_wp2
      go_ret
      exact ⟨rfl, hb⟩

set_option maxRecDepth 100000 in
theorem put_neg (n : Nat) (size : Int) (w : World) (h0 : size ≤ 0) :
    Calls Tryz.prog 39 #[.int .u64 n, .int .i64 size] w fun e w' => e = .returned (.string (bs (be n 0))) ∧ Below w.heap.size w w' := by
  have hcv := conv_own (w := w) (base := w.heap.size) (v := .slice none 0 0) (n := 0) [] (World.ownsRow_nil _ _ _ _)
  go_enter Tryz.func39, Tryz.ntmps39
  go_wp2
  refine wp_loop_rounds 1 ?_
  rw [rounds_succ]
  go_wp2
  go_ret
  exact ⟨rfl, Below.refl _ _⟩

/-- octet.Put: the lowest bytes of n, the highest first; at most 16. -/
theorem put_any (n : Nat) (size : Int) (w : World) (hn : n < 18446744073709551616) :
    Calls Tryz.prog 39 #[.int .u64 n, .int .i64 size] w fun e w' => e = .returned (.string (bs (be n (min size 16).toNat))) ∧ Below w.heap.size w w' := by
  by_cases h0 : size ≤ 0
  · have e : (min size 16).toNat = 0 := by omega
    rw [e]; exact put_neg n size w h0
  by_cases h1 : size ≤ 16
  · obtain ⟨c, rfl⟩ := Int.eq_ofNat_of_zero_le (show 0 ≤ size by omega)
    have e : (min (c : Int) 16).toNat = c := by omega
    rw [e]; exact put_mid n c w hn (by omega) (by omega)
  · have e : (min size 16).toNat = 16 := by omega
    rw [e]; exact put_big n size w hn (by omega)

end Go.Proofs.YtaahhbjnflimnaaGreat
namespace Go.Proofs.YtaahhbjnflimnaaGreat
open Go.RowKit

theorem bs_append (a b : List UInt8) : bs a ++ bs b = bs (a ++ b) := by
  apply ByteArray.ext
  simp [bs]
theorem bs_append_s (a : List UInt8) (s : ByteArray) : bs a ++ s = bs (a ++ s.data.toList) := bs_append a s.data.toList


theorem binary_yes (s : ByteArray) (w : World) (h : s.size ≤ 65535) :
    Calls Tryz.prog 111 #[.string s] w fun e w' => e = .returned (.tuple #[.string (bs (enc2 s.data.toList)), .int .i64 0]) ∧ Below w.heap.size w w' := by
  have hp := put_any s.size 2 w (by omega)
  have e2 : (min (2 : Int) 16).toNat = 2 := by decide
  rw [e2] at hp
  have hres : bs (be s.size 2) ++ s = bs (enc2 s.data.toList) := by
    rw [bs_append_s, enc2, ← size_list]
  have hsz : (bs (be s.size 2)).size = 2 := by rw [size_list]; exact be_length 2 _
  have hnl : ¬ 9223372036854775807 < (bs (be s.size 2)).size + s.size := by omega
  clear hsz
  have hp := Lib.hid hp
  have hres := Lib.hid hres
  go_enter Tryz.func111, Tryz.ntmps111
  go_wp2_with fail
  refine (hp.out).mono ?_
  rintro e w1 ⟨rfl, hb⟩
  go_wp2_with fail
  go_ret2
  exact ⟨rfl, hb⟩
theorem binary_no (s : ByteArray) (w : World) (h : 65535 < s.size) :
    Calls Tryz.prog 111 #[.string s] w fun e w' => e = .returned (.tuple #[.string ⟨#[]⟩, .int .i64 2]) ∧ w = w' := by
  go_enter Tryz.func111, Tryz.ntmps111
  go_wp2_with fail
  go_ret2
  exact ⟨rfl, rfl⟩
end Go.Proofs.YtaahhbjnflimnaaGreat
