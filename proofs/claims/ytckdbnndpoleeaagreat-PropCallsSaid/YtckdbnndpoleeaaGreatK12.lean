/-
  Plain facts on prop's rules: what stands at an id is the row of the document's table; the kinds as bits. No condition.
  The contracts of prop.rule.may, Shape, May, Many, repeats. Condition: a kind and an id are ints.
  A list of strings as it lies in memory. No condition.
  A string made of an owned row of bytes. No condition.
-/
import Derived.Test.YtckdbnndpoleeaaGreatK05
import Derived.Test.YtckdbnndpoleeaaGreatK11
import Derived.Test.YtckdbnndpoleeaaGreatK10
namespace Go.Proofs.YtckdbnndpoleeaaGreat
open Go.RowKit

/-- The kinds as bits. -/
def maskP (id : Int) : Nat := (prow id).kinds.foldr (fun k m => m + 2 ^ k.toNat) 0
theorem lookK_none (z : Value) : ∀ (l : List (Int × Value)) (i : Int), (∀ p ∈ l, i ≠ p.1) → lookK z l i = z
  | [], _, _ => rfl
  | p :: l, i, h => by
    rw [lookK, if_neg (h p (List.mem_cons_self ..))]
    exact lookK_none z l i (fun q hq => h q (List.mem_cons_of_mem _ hq))
theorem rules_keys : ∀ p ∈ rulesL, 1 ≤ p.1 ∧ p.1 ≤ 42 := by
  intro p hp
  have h := List.mem_map_of_mem (f := Prod.fst) hp
  have : ∀ k ∈ rulesL.map Prod.fst, 1 ≤ k ∧ k ≤ 42 := by decide
  exact this _ h
theorem rule_at (id : Int) : lookK zeroRule rulesL id = ruleV (prow id).shape (maskP id) (prow id).least := by
  rcases Int.lt_or_le id 1 with h | h
  · rw [lookK_none _ _ _ (fun p hp e => by have := rules_keys p hp; omega)]
    unfold maskP
    rw [prow_out (.inl h)]; rfl
  · rcases Int.lt_or_le 42 id with h2 | h2
    · rw [lookK_none _ _ _ (fun p hp e => by have := rules_keys p hp; omega)]
      unfold maskP
      rw [prow_out (.inr h2)]; rfl
    · obtain ⟨n, rfl⟩ := Int.eq_ofNat_of_zero_le (show 0 ≤ id by omega)
      have hn : n ≤ 42 := by omega
      clear h h2
      match n, hn with
      | 0, _ => rfl
      | 1, _ => rfl
      | 2, _ => rfl
      | 3, _ => rfl
      | 4, _ => rfl
      | 5, _ => rfl
      | 6, _ => rfl
      | 7, _ => rfl
      | 8, _ => rfl
      | 9, _ => rfl
      | 10, _ => rfl
      | 11, _ => rfl
      | 12, _ => rfl
      | 13, _ => rfl
      | 14, _ => rfl
      | 15, _ => rfl
      | 16, _ => rfl
      | 17, _ => rfl
      | 18, _ => rfl
      | 19, _ => rfl
      | 20, _ => rfl
      | 21, _ => rfl
      | 22, _ => rfl
      | 23, _ => rfl
      | 24, _ => rfl
      | 25, _ => rfl
      | 26, _ => rfl
      | 27, _ => rfl
      | 28, _ => rfl
      | 29, _ => rfl
      | 30, _ => rfl
      | 31, _ => rfl
      | 32, _ => rfl
      | 33, _ => rfl
      | 34, _ => rfl
      | 35, _ => rfl
      | 36, _ => rfl
      | 37, _ => rfl
      | 38, _ => rfl
      | 39, _ => rfl
      | 40, _ => rfl
      | 41, _ => rfl
      | 42, _ => rfl
      | n + 43, h => exact absurd h (by omega)

/-- A kind's bit. -/
def bitP (m : Nat) (kind : Int) : Bool := decide (0 ≤ kind ∧ kind < 32) && decide (m / 2 ^ kind.toNat % 2 = 1)
theorem bits_row (ks : List Int) (h : (List.range 32).all (fun k => decide ((ks.foldr (fun k m => m + 2 ^ k.toNat) 0) / 2 ^ k % 2 = 1) == ks.contains (k : Int)) = true) (hk : ∀ k ∈ ks, 0 ≤ k ∧ k < 32) (kind : Int) :
    bitP (ks.foldr (fun k m => m + 2 ^ k.toNat) 0) kind = ks.contains kind := by
  unfold bitP
  by_cases hr : 0 ≤ kind ∧ kind < 32
  · rw [decide_eq_true hr, Bool.true_and]
    obtain ⟨n, rfl⟩ := Int.eq_ofNat_of_zero_le hr.1
    have := List.all_eq_true.1 h n (List.mem_range.2 (by omega))
    rw [beq_iff_eq] at this
    exact this
  · rw [decide_eq_false hr, Bool.false_and]
    cases hc : ks.contains kind with
    | false => rfl
    | true => exact absurd (hk kind (by simpa using hc)) hr
theorem bit_may (kind id : Int) : bitP (maskP id) kind = mayP kind id := by
  unfold maskP mayP
  have key : ∀ r : PRow, (decide (r.kinds.all fun k => decide (0 ≤ k) && decide (k < 32)) && (List.range 32).all (fun k => decide ((r.kinds.foldr (fun k m => m + 2 ^ k.toNat) 0) / 2 ^ k % 2 = 1) == r.kinds.contains (k : Int))) = true →
      bitP (r.kinds.foldr (fun k m => m + 2 ^ k.toNat) 0) kind = r.kinds.contains kind := fun r h => by
    rw [Bool.and_eq_true, decide_eq_true_eq] at h
    exact bits_row r.kinds h.2 (fun k hk => by
      have := List.all_eq_true.1 h.1 k hk
      rw [Bool.and_eq_true, decide_eq_true_eq, decide_eq_true_eq] at this
      exact this) kind
  rcases Int.lt_or_le id 1 with h | h
  · rw [prow_out (.inl h)]; exact key _ (by decide)
  · rcases Int.lt_or_le 42 id with h2 | h2
    · rw [prow_out (.inr h2)]; exact key _ (by decide)
    · exact key _ (prow_all (fun _ r => decide (r.kinds.all fun k => decide (0 ≤ k) && decide (k < 32)) && (List.range 32).all (fun k => decide ((r.kinds.foldr (fun k m => m + 2 ^ k.toNat) 0) / 2 ^ k % 2 = 1) == r.kinds.contains (k : Int))) (by decide +kernel) ⟨h, h2⟩)
theorem mask_lt (id : Int) : maskP id < 131072 := by
  unfold maskP
  rcases Int.lt_or_le id 1 with h | h
  · rw [prow_out (.inl h)]; decide
  · rcases Int.lt_or_le 42 id with h2 | h2
    · rw [prow_out (.inr h2)]; decide
    · have := prow_all (fun _ r => decide (r.kinds.foldr (fun k m => m + 2 ^ k.toNat) 0 < 131072)) (by decide +kernel) ⟨h, h2⟩
      exact of_decide_eq_true this
end Go.Proofs.YtckdbnndpoleeaaGreat
namespace Go.Proofs.YtckdbnndpoleeaaGreat
open Go.RowKit

theorem bit_test (k : Nat) (kind : Int) (hk : k < 4294967296) (hi : -9223372036854775808 ≤ kind) (hj : kind ≤ 9223372036854775807) :
    (bits BinOp.and IntKind.u32 ((k : Int) / 2 ^ min (IntKind.u64.wrap kind).toNat 32) 1 != 0) = bitP k kind := by
  obtain ⟨m, hm⟩ : ∃ m : Nat, (k : Int) / 2 ^ min (IntKind.u64.wrap kind).toNat 32 = (m : Int) ∧ m = k / 2 ^ min (IntKind.u64.wrap kind).toNat 32 := ⟨_, by simp, rfl⟩
  rw [hm.1]
  have hlt : m < 4294967296 := by rw [hm.2]; exact Nat.lt_of_le_of_lt (Nat.div_le_self _ _) hk
  have e1 : bits BinOp.and IntKind.u32 (m : Int) 1 = (m : Int) % 2 := by
    have := bits_mask .u32 32 (by decide) (fun n h0 h1 => by rw [IntKind.wrap_u32]; omega) 1 (by decide) (m : Int) (by omega) (by omega)
    simpa using this
  rw [e1]
  unfold bitP
  rw [IntKind.wrap_u64] at hm
  by_cases hr : 0 ≤ kind ∧ kind < 32
  · rw [decide_eq_true hr, Bool.true_and]
    have e2 : min (kind % 18446744073709551616).toNat 32 = kind.toNat := by omega
    rw [e2] at hm
    rw [← hm.2]
    rcases Nat.mod_two_eq_zero_or_one m with h | h
    · have : (m : Int) % 2 = 0 := by omega
      rw [this, h]; rfl
    · have : (m : Int) % 2 = 1 := by omega
      rw [this, h]; rfl
  · rw [decide_eq_false hr, Bool.false_and]
    have e2 : min (kind % 18446744073709551616).toNat 32 = 32 := by omega
    rw [e2, Nat.div_eq_of_lt (by simpa using hk)] at hm
    rw [hm.2]; rfl

theorem may_any (s k l : Nat) (kind : Int) (w : World) (hk : k < 4294967296) (hi : -9223372036854775808 ≤ kind) (hj : kind ≤ 9223372036854775807) :
    Calls Tryz.prog 43 #[ruleV s k l, .int .i64 kind] w fun e w' => e = .returned (.bool (bitP k kind)) ∧ Below w.heap.size w w' := by
  have hb := Lib.hid (bit_test k kind hk hi hj)
  unfold ruleV
  go_enter Tryz.func43, Tryz.ntmps43
  go_wp2
  go_ret
  exact ⟨congrArg (fun b => Ending.returned (Value.bool b)) hb.out, (Below.refl _ _).alloc (Nat.le_refl _) _⟩

def repeatsP (kind id : Int) : Bool := id == 38 || (id == 11 && kind == 3)
theorem repeats_any (kind id : Int) (w : World) :
    Calls Tryz.prog 44 #[.int .i64 kind, .int .i64 id] w fun e w' => e = .returned (.bool (repeatsP kind id)) ∧ w = w' := by
  unfold repeatsP
  obtain ⟨b1, h1⟩ : ∃ b, (id == 38) = b := ⟨_, rfl⟩
  obtain ⟨b2, h2⟩ : ∃ b, (id == 11) = b := ⟨_, rfl⟩
  obtain ⟨b3, h3⟩ : ∃ b, (kind == 3) = b := ⟨_, rfl⟩
  rw [h1, h2, h3]
  cases b1 <;> cases b2 <;> cases b3 <;>
  · go_enter Tryz.func44, Tryz.ntmps44
    go_wp2
    go_ret
    exact ⟨rfl, rfl⟩

theorem zero_rule (W : World) : (zeroValue 53).run Tryz.prog W = .ok zeroRule W := by kernel_rfl
theorem i64_wf {n : Int} (h0 : -9223372036854775808 ≤ n) (h1 : n ≤ 9223372036854775807) : (Lit.int .i64 n).wf = true := by
  simp [Lit.wf, IntKind.min, IntKind.max, IntKind.signed, IntKind.bits]; omega
theorem Rules.look {w : World} {b : Nat} (h : Rules w b) {id : Int} (h0 : -9223372036854775808 ≤ id) (h1 : id ≤ 9223372036854775807) :
    (Instr.lookup 54 (.map (some b)) (.int .i64 id) false).run Tryz.prog w = .ok (ruleV (shapeP id) (maskP id) (prow id).least) w := by
  have := MapAt.look h Tryz.underlying3 Tryz.underlying54 (zero_rule w) (i64_wf h0 h1)
  rw [rule_at] at this
  exact this
theorem rule_field0 (s k l : Nat) (W : World) : (Instr.field 53 (ruleV s k l) 0).run Tryz.prog W = .ok (.int .i64 s) W := by kernel_rfl

theorem shape_any (id : Int) (w : World) (h0 : -9223372036854775808 ≤ id) (h1 : id ≤ 9223372036854775807) :
    Calls Tryz.prog 13 #[.int .i64 id] w fun e w' => e = .returned (.int .i64 (shapeP id)) ∧ Below w.heap.size w w' := by
  have hf := rule_field0 (shapeP id) (maskP id) (prow id).least
  go_enter Tryz.func13, Tryz.ntmps13
  go_wp2_with fail
  refine (rules_any w).mono ?_
  rintro e w' ⟨rfl, hR, hb⟩
  have hl := hR.look h0 h1
  go_wp2_with fail
  go_ret
  exact ⟨rfl, hb⟩
theorem mayf_any (kind id : Int) (w : World) (h0 : -9223372036854775808 ≤ id) (h1 : id ≤ 9223372036854775807) (h2 : -9223372036854775808 ≤ kind) (h3 : kind ≤ 9223372036854775807) :
    Calls Tryz.prog 15 #[.int .i64 kind, .int .i64 id] w fun e w' => e = .returned (.bool (mayP kind id)) ∧ Below w.heap.size w w' := by
  have hm := fun W => may_any (shapeP id) (maskP id) (prow id).least kind W (Nat.lt_trans (mask_lt id) (by decide)) h2 h3
  rw [bit_may] at hm
  have hm := Lib.hid hm
  go_enter Tryz.func15, Tryz.ntmps15
  go_wp2_with fail
  refine (rules_any w).mono ?_
  rintro e w' ⟨rfl, hR, hb⟩
  have hl := hR.look h0 h1
  go_wp2_with fail
  refine (hm.out _).mono ?_
  rintro e w2 ⟨rfl, hb2⟩
  go_wp2_with fail
  go_ret
  exact ⟨rfl, hb.trans (hb2.mono hb.size)⟩
theorem many_any (kind id : Int) (w : World) (h0 : -9223372036854775808 ≤ id) (h1 : id ≤ 9223372036854775807) (h2 : -9223372036854775808 ≤ kind) (h3 : kind ≤ 9223372036854775807) :
    Calls Tryz.prog 17 #[.int .i64 kind, .int .i64 id] w fun e w' => e = .returned (.bool (manyP kind id)) ∧ Below w.heap.size w w' := by
  have hm := mayf_any kind id w h0 h1 h2 h3
  have hr := Lib.hid (fun W => repeats_any kind id W)
  have e1 : manyP kind id = (mayP kind id && repeatsP kind id) := rfl
  rw [e1]
  generalize repeatsP kind id = r at *
  generalize mayP kind id = m at *
  have hm := Lib.hid hm
  clear e1
  cases m with
  | false =>
    go_enter Tryz.func17, Tryz.ntmps17
    go_wp2_with fail
    refine (hm.out).mono ?_
    rintro e w' ⟨rfl, hb⟩
    go_wp2_with fail
    go_ret
    exact ⟨rfl, hb⟩
  | true =>
    go_enter Tryz.func17, Tryz.ntmps17
    go_wp2_with fail
    refine (hm.out).mono ?_
    rintro e w' ⟨rfl, hb⟩
    go_wp2_with fail
    refine (hr.out _).mono ?_
    rintro e w' ⟨rfl, rfl⟩
    go_wp2_with fail
    go_ret
    exact ⟨rfl, hb⟩
end Go.Proofs.YtckdbnndpoleeaaGreat
namespace Go.Proofs.YtckdbnndpoleeaaGreat
open Go.RowKit

/-- A list of strings as cells. -/
def strs (ls : List (List UInt8)) : List Value := ls.map fun l => .string (bs l)
/-- The list of strings ls lies behind the address A. -/
def SR (W : World) (A : Option Addr) (ls : List (List UInt8)) : Prop :=
  ls ≠ [] → ∃ g i, A = some ⟨g, i, none⟩ ∧ g < W.heap.size ∧ ∀ j, j < ls.length → W.cell? ⟨g, i + j, none⟩ = some (.string (bs (ls.getD j [])))
theorem SR.kept {W W' : World} {A : Option Addr} {ls : List (List UInt8)} (h : SR W A ls) (hb : Below W.heap.size W W') : SR W' A ls := fun hne => by
  obtain ⟨g, i, e, hg, hc⟩ := h hne
  exact ⟨g, i, e, Nat.lt_of_lt_of_le hg hb.size, fun j hj => (hb.cell (p := ⟨g, i + j, none⟩) hg).trans (hc j hj)⟩
theorem SR.draws {W : World} {A : Option Addr} {ls : List (List UInt8)} (h : SR W A ls) (n : Nat) : SR (W.drewN n) A ls := h
theorem SR.nil {W : World} {A : Option Addr} : SR W A [] := fun h => absurd rfl h
theorem strs_get (ls : List (List UInt8)) (j : Nat) (h : j < ls.length) : (strs ls).toArray[j]? = some (.string (bs (ls.getD j []))) := by
  simp [strs, List.getD, List.getElem?_eq_getElem h]
theorem SR.alloc {W : World} {ls : List (List UInt8)} (t : TypeId) : SR (W.alloc (.cells (strs ls).toArray t)) (some ⟨W.heap.size, 0, none⟩) ls := fun _ =>
  ⟨_, _, rfl, by simp, fun j hj => by rw [Nat.zero_add, World.cell?_alloc_at _ _ _ _ rfl]; exact strs_get ls j hj⟩
theorem bs_mk (s : ByteArray) : bs s.data.toList = s := rfl
theorem bs_data (l : List UInt8) : (bs l).data.toList = l := rfl
theorem bs_size (l : List UInt8) : (bs l).size = l.length := by simp [bs, ByteArray.size]
end Go.Proofs.YtckdbnndpoleeaaGreat
namespace Go.Proofs.YtckdbnndpoleeaaGreat
open Go.RowKit

theorem info5 : (Tryz.prog.info? 5).map (fun i => (i.zero, i.size, i.bytes)) = some (some (.int .u8 0), 1, 1) := by kernel_rfl

theorem conv_own {w : World} {base : Nat} {v : Value} {n : Nat} (l : List UInt8) (h : w.ownsRow base 5 1 v n (l.map u8v)) :
    (convert 76 9 v).run Tryz.prog w = .ok (.string (bs l)) w := by
  have hl : l.length = n := by have := h.1; simpa using this
  rcases h.2 with ⟨rfl, hn⟩ | ⟨g, cap, cur, rfl, _⟩
  · have : l = [] := List.eq_nil_of_length_eq_zero (by omega)
    subst this
    exact run_convert_bytes_nil w 76 5 Tryz.underlying76 Tryz.underlying5 0 0 9 Tryz.underlying9
  · have hc := h.cells (g := g) rfl
    have e := run_convert_bytes_arg (P := Tryz.prog) w 76 5 Tryz.underlying76 Tryz.underlying5 g 0 n cap (l.map fun b => (b.toNat : Int)) (by simp [hl]) (fun i hi => by
      have := hc i (u8v (l.getD i 0)) (by simp [List.getElem?_eq_getElem (show i < l.length by omega)])
      have hadd : (⟨g, 0, none⟩ : Addr).add i = ⟨g, 0 + i, none⟩ := by unfold Addr.add; split <;> simp_all
      rw [hadd] at this
      rw [this]
      simp [u8v, List.getD, List.getElem?_eq_getElem (show i < l.length by omega)]) 9 Tryz.underlying9
    rw [e]
    simp [bs, strOfNums, Function.comp_def]

end Go.Proofs.YtckdbnndpoleeaaGreat
