/-
  The contract of polyglotref05.next, whole. Condition: at most 70,000 bytes.
-/
import Derived.Test.YtaahhbjnflimnaaGreatK45
namespace Go.Proofs.YtaahhbjnflimnaaGreat
open Go.RowKit

theorem text_le (d : Bool) (r : List UInt8) : (textP d r).2.1 ≤ r.length := by
  have h := (rdB_le r).1
  rcases text_parts d r with ⟨_, h2⟩ | ⟨_, _, _, h2⟩ | ⟨_, _, h2⟩
  · rw [h2]; exact Nat.zero_le _
  · rw [h2]; exact Nat.zero_le _
  · rw [h2]; exact h
/-- What next leaves. -/
def NtP (w : World) (x : UInt8) (r : List UInt8) (e : Ending) (W : World) : Prop :=
  ∃ (p : Pr) (n : Int) (E : Nat), e = .returned (.tuple #[propV p, .int .i64 n, .int .i64 (E : Nat)]) ∧ Below w.heap.size w W ∧ E = (nextP x.toNat r).2.2 ∧ (E = 0 → p = (nextP x.toNat r).1 ∧ n = ((1 + (nextP x.toNat r).2.1 : Nat) : Int) ∧ (nextP x.toNat r).2.1 ≤ r.length)
set_option maxRecDepth 100000 in
set_option maxHeartbeats 1000000 in
theorem ref_next (s : ByteArray) (x : UInt8) (r : List UInt8) (hx : s.data.toList = x :: r) (hs : s.size ≤ 70000) (h1 : 1 ≤ shapeP x.toNat) (h7 : shapeP x.toNat ≤ 7) (w : World) :
    Calls Tryz.prog 176 #[.string s] w (NtP w x r) := by
  have hlen : s.size = r.length + 1 := by rw [size_list, hx, List.length_cons]
  have h0 : 0 < s.size := by omega
  have hsx : s[0]'h0 = x := by
    have e : s.data.toList[0]? = some (s[0]'h0) := by rw [List.getElem?_eq_getElem (by rw [← size_list]; exact h0)]; rfl
    rw [hx] at e
    exact (Option.some.inj e).symm
  have hxx : (((s[0]'h0).toNat : Nat) : Int) = ((x.toNat : Nat) : Int) := by rw [hsx]
  have hlt : x.toNat < 256 := x.toNat_lt
  have wx : IntKind.i64.wrap ((x.toNat : Nat) : Int) = ((x.toNat : Nat) : Int) := by simp only [IntKind.wrap_i64]; omega
  have hd : s.data.toList.drop 1 = r := by rw [hx]; rfl
  have LK := fun W => (look_any ((x.toNat : Nat) : Int) W).mono (R' := fun e w' => ∃ A m y z, e = .returned (.agg #[.int .i64 ((shapeP x.toNat : Nat) : Int), .slice A m m, .int .u32 y, .int .u32 z]) ∧ Below W.heap.size W w') (fun e w' ⟨A, h1, h2, _⟩ => ⟨A, _, _, _, h1, h2⟩)
  have q1 : IntKind.i64.wrap ((s.size : Int) - 1) = (r.length : Int) := by simp only [IntKind.wrap_i64]; omega
  have q3 : (1 : Int) ≤ (s.size : Int) := by omega
  have numc : ∀ (c : Nat), c ≤ 4 → 1 ≤ c → nextP x.toNat r = numP x.toNat c r →
      (r.length < c → Calls Tryz.prog 176 #[.string s] w fun e w' => e = .returned (.tuple #[.agg #[.int .i64 x.toNat, .int .u32 0, .string ⟨#[]⟩, .string ⟨#[]⟩], .int .i64 0, .int .i64 5]) ∧ Below w.heap.size w w') →
      (c ≤ r.length → Calls Tryz.prog 176 #[.string s] w fun e w' => e = .returned (.tuple #[.agg #[.int .i64 x.toNat, .int .u32 (num (r.take c) : Nat), .string ⟨#[]⟩, .string ⟨#[]⟩], .int .i64 ((c + 1 : Nat) : Int), .int .i64 0]) ∧ Below w.heap.size w w') →
      Calls Tryz.prog 176 #[.string s] w (NtP w x r) := by
    intro c hc hc1 hn hno hyes
    by_cases hl : r.length < c
    · refine (hno hl).mono fun e W ⟨he, hb⟩ => ⟨⟨x.toNat, 0, [], []⟩, 0, 5, he, hb, ?_, fun h => by cases h⟩
      rw [hn]; unfold numP; rw [if_pos hl]
    · refine (hyes (by omega)).mono fun e W ⟨he, hb⟩ => ⟨⟨x.toNat, num (r.take c), [], []⟩, _, 0, he, hb, ?_, fun _ => ?_⟩
      · rw [hn]; unfold numP; rw [if_neg hl]
      · rw [hn]; unfold numP; rw [if_neg hl]; exact ⟨rfl, by rw [Nat.add_comm], by show c ≤ _; omega⟩
  have GT : ∀ (c : Nat), c ≤ 4 → c ≤ r.length → ∀ W, Calls Tryz.prog 122 #[.string (s.extract 1 (c + 1))] W fun e w' => e = .returned (.int .u64 (num (r.take c) : Nat)) ∧ W = w' := by
    intro c hc hl W
    have := ref_get (s.extract 1 (c + 1)) W (by simp; omega)
    rw [Nat.add_comm c 1] at this ⊢
    rw [numOf_part s 1 c (by omega) (by omega), hd] at this
    exact this
  have wr : ∀ (c : Nat), c ≤ 4 → IntKind.u32.wrap ((num (r.take c) : Nat) : Int) = ((num (r.take c) : Nat) : Int) := by
    intro c hc
    have h1 := num_lt (r.take c)
    have h2 : 256 ^ (r.take c).length ≤ 256 ^ 4 := Nat.pow_le_pow_right (by decide) (by rw [List.length_take]; omega)
    have h3 : 256 ^ 4 = 4294967296 := by decide
    simp only [IntKind.wrap_u32]; omega
  have hh : shapeP x.toNat = 1 ∨ shapeP x.toNat = 2 ∨ shapeP x.toNat = 3 ∨ shapeP x.toNat = 4 ∨ shapeP x.toNat = 5 ∨ shapeP x.toNat = 6 ∨ shapeP x.toNat = 7 := by omega
  rcases hh with e | e | e | e | e | e | e
  · rw [e] at LK
    exact numc 1 (by decide) (by decide) (by unfold nextP; rw [if_pos e]) (fun hl => nt_n1_no LK h0 hxx wx q1 (by omega) w) (fun hl => nt_n1_yes LK h0 hxx wx q1 (by omega) (by omega) (wr 1 (by decide)) (GT 1 (by decide) hl) w)
  · rw [e] at LK
    exact numc 2 (by decide) (by decide) (by unfold nextP; rw [if_neg (by omega), if_pos e]) (fun hl => nt_n2_no LK h0 hxx wx q1 (by omega) w) (fun hl => nt_n2_yes LK h0 hxx wx q1 (by omega) (by omega) (wr 2 (by decide)) (GT 2 (by decide) hl) w)
  · rw [e] at LK
    exact numc 4 (by decide) (by decide) (by unfold nextP; rw [if_neg (by omega), if_neg (by omega), if_pos e]) (fun hl => nt_n3_no LK h0 hxx wx q1 (by omega) w) (fun hl => nt_n3_yes LK h0 hxx wx q1 (by omega) (by omega) (wr 4 (by decide)) (GT 4 (by decide) hl) w)
  · rw [e] at LK
    have hn : nextP x.toNat r = if rdE r ≠ 0 then (⟨x.toNat, 0, [], []⟩, 0, 5) else (⟨x.toNat, rdV r, [], []⟩, rdN r, 0) := by unfold nextP; rw [if_neg (by omega), if_neg (by omega), if_neg (by omega), if_pos e]
    have RD := fun W => ref_read_any (s.extract 1 s.size) W (by simp; omega)
    unfold ReadSame ReadRet at RD
    rw [rest_list, hd] at RD
    obtain ⟨b1, b2, b3⟩ := rd_facts r
    by_cases hz : rdE r = 0
    · rw [hz] at RD
      refine (nt_v_yes (V := (rdV r : Nat)) (k := (rdN r : Nat)) (k1 := ((1 + rdN r : Nat) : Int)) LK h0 hxx wx (by simp only [IntKind.wrap_u32]; omega) q3 (by simp only [IntKind.wrap_i64]; omega) RD w).mono fun e W ⟨he, hb⟩ => ⟨⟨x.toNat, rdV r, [], []⟩, _, 0, he, hb, ?_, fun _ => ?_⟩
      · rw [hn, if_neg (by simp [hz])]
      · rw [hn, if_neg (by simp [hz])]; exact ⟨rfl, rfl, b1⟩
    · refine (nt_v_no (V := (rdV r : Nat)) (k := (rdN r : Nat)) (z := (rdE r : Nat)) LK h0 hxx wx (by rw [bne_iff_ne]; omega) q3 RD w).mono fun e W ⟨he, hb⟩ => ⟨⟨x.toNat, 0, [], []⟩, 0, 5, he, hb, ?_, fun h => by cases h⟩
      rw [hn, if_pos hz]
  · rw [e] at LK
    have hn : nextP x.toNat r = if (textP false r).2.2 ≠ 0 then (⟨x.toNat, 0, [], []⟩, 0, (textP false r).2.2) else (⟨x.toNat, 0, (textP false r).1, []⟩, (textP false r).2.1, 0) := by
      unfold nextP; rw [if_neg (by omega), if_neg (by omega), if_neg (by omega), if_neg (by omega), if_neg (by omega), e]; rfl
    have TT := fun W => ref_text s 1 5 W hs (by omega) (by decide)
    rw [hd, show ((5 : Nat) == 6) = false from rfl] at TT
    have tl := text_le false r
    refine (nt_t5 (T := bs (textP false r).1) LK h0 hxx wx rfl TT w).mono fun e W ⟨he, hb⟩ => ⟨⟨x.toNat, 0, (textP false r).1, []⟩, _, (textP false r).2.2, he, hb, ?_, fun h => ?_⟩
    · rw [hn]; exact (if_err _ _ _ _).symm
    · rw [hn, h]; exact ⟨by rw [if_neg (by simp)], by rw [if_pos rfl, if_neg (by simp)], by rw [if_neg (by simp)]; exact tl⟩
  · rw [e] at LK
    have hn : nextP x.toNat r = if (textP true r).2.2 ≠ 0 then (⟨x.toNat, 0, [], []⟩, 0, (textP true r).2.2) else (⟨x.toNat, 0, (textP true r).1, []⟩, (textP true r).2.1, 0) := by
      unfold nextP; rw [if_neg (by omega), if_neg (by omega), if_neg (by omega), if_neg (by omega), if_neg (by omega), e]; rfl
    have TT := fun W => ref_text s 1 6 W hs (by omega) (by decide)
    rw [hd, show ((6 : Nat) == 6) = true from rfl] at TT
    have tl := text_le true r
    refine (nt_t6 (T := bs (textP true r).1) LK h0 hxx wx rfl TT w).mono fun e W ⟨he, hb⟩ => ⟨⟨x.toNat, 0, (textP true r).1, []⟩, _, (textP true r).2.2, he, hb, ?_, fun h => ?_⟩
    · rw [hn]; exact (if_err _ _ _ _).symm
    · rw [hn, h]; exact ⟨by rw [if_neg (by simp)], by rw [if_pos rfl, if_neg (by simp)], by rw [if_neg (by simp)]; exact tl⟩
  · rw [e] at LK
    have hn : nextP x.toNat r = (if (textP false r).2.2 ≠ 0 then (⟨x.toNat, 0, [], []⟩, 0, (textP false r).2.2)
     else if (textP false (r.drop (textP false r).2.1)).2.2 ≠ 0 then (⟨x.toNat, 0, [], []⟩, 0, (textP false (r.drop (textP false r).2.1)).2.2)
     else (⟨x.toNat, 0, (textP false r).1, (textP false (r.drop (textP false r).2.1)).1⟩, (textP false r).2.1 + (textP false (r.drop (textP false r).2.1)).2.1, 0)) := by
      unfold nextP; rw [if_neg (by omega), if_neg (by omega), if_neg (by omega), if_neg (by omega), if_pos e]
    have TT := fun W => ref_text s 1 7 W hs (by omega) (by decide)
    rw [hd, show ((7 : Nat) == 6) = false from rfl] at TT
    have tl := text_le false r
    by_cases hz : (textP false r).2.2 = 0
    · rw [hz, if_pos rfl] at TT
      rw [if_neg (by simp [hz])] at hn
      have TU := fun W => ref_text s (1 + (textP false r).2.1) 7 W hs (by omega) (by decide)
      rw [← List.drop_drop, hd, show ((7 : Nat) == 6) = false from rfl] at TU
      have tu := text_le false (r.drop (textP false r).2.1)
      rw [List.length_drop] at tu
      refine (nt_p_yes (T := bs (textP false r).1) (U := bs (textP false (r.drop (textP false r).2.1)).1) LK h0 hxx wx TT TU w).mono fun e W ⟨he, hb⟩ => ⟨⟨x.toNat, 0, (textP false r).1, (textP false (r.drop (textP false r).2.1)).1⟩, _, (textP false (r.drop (textP false r).2.1)).2.2, he, hb, ?_, fun h => ?_⟩
      · rw [hn]; exact (if_err _ _ _ _).symm
      · rw [hn, h]; exact ⟨by rw [if_neg (by simp)], by rw [if_pos rfl, if_neg (by simp)]; show _ = ((1 + (_ + _) : Nat) : Int); rw [Nat.add_assoc], by rw [if_neg (by simp)]; show _ + _ ≤ _; omega⟩
    · rw [if_pos hz] at hn
      rw [if_neg hz] at TT
      refine (nt_p_no (T := bs (textP false r).1) (z := ((textP false r).2.2 : Nat)) LK h0 hxx wx (by rw [beq_eq_false_iff_ne]; omega) TT w).mono fun e W ⟨he, hb⟩ => ⟨⟨x.toNat, 0, (textP false r).1, []⟩, _, (textP false r).2.2, he, hb, ?_, fun h => absurd h hz⟩
      rw [hn]
end Go.Proofs.YtaahhbjnflimnaaGreat
