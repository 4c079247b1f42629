/-
  Plain facts on lists of properties: which are as they should be, whatever their order; what a half, a list with one less, and a list with one more is. No condition.
  A list's bytes are few. No program. No condition.
  What all layers share: bytes as cells, and what a world keeps behind a store, a draw or a call. No condition.
  Bytes one behind the other, and how many. Condition: none.
-/
import Derived.WalkKit
import Derived.WalkSpells
import Derived.WalkLawsBesides
import Derived.Lib.Hide
import Derived.LaidEqlPtr
import Derived.BigQuiet
import Derived.Deep.QuietTactic
import Derived.Test.YtaahhbjnflimnaaGreatK09
import Derived.Test.YtaahhbjnflimnaaGreatK10
import Derived.Test.YtaahhbjnflimnaaGreatRows
namespace Go.Proofs.YtaahhbjnflimnaaGreat

/-- How often an id occurs. -/
def timesP (l : List Pr) (id : Int) : Nat := (l.filter fun p => p.id == id).length
theorem times_nil (id : Int) : timesP [] id = 0 := rfl
theorem times_cons (p : Pr) (l : List Pr) (id : Int) : timesP (p :: l) id = timesP l id + if p.id = id then 1 else 0 := by
  unfold timesP
  rw [List.filter_cons]
  by_cases h : p.id = id
  · simp [h]
  · simp [h]
theorem times_append (a b : List Pr) (id : Int) : timesP (a ++ b) id = timesP a id + timesP b id := by simp [timesP]
theorem has_times (l : List Pr) (id : Int) : hasP l id = decide (0 < timesP l id) := by
  induction l with
  | nil => rfl
  | cons p l ih =>
    rw [times_cons]
    unfold hasP at ih ⊢
    rw [List.any_cons, ih]
    by_cases h : p.id = id
    · simp [h]
    · simp [h]
/-- All are as they should be, and what may not come often comes once. -/
def goodP (kind : Int) (l : List Pr) : Prop := (∀ p ∈ l, checkP kind p = 0) ∧ ∀ id, manyP kind id = false → timesP l id ≤ 1
theorem each_iff (kind : Int) : ∀ (l pre : List Pr), (∀ id, manyP kind id = false → timesP pre id ≤ 1) → (eachP kind pre l = 0 ↔ (∀ p ∈ l, checkP kind p = 0) ∧ ∀ id, manyP kind id = false → timesP (pre ++ l) id ≤ 1)
  | [], pre, hp => by simp [eachP]; exact hp
  | p :: l, pre, hp => by
    rw [eachP]
    by_cases hc : checkP kind p = 0
    · rw [if_neg (by simp [hc])]
      by_cases ht : twiceP kind pre p.id = true
      · rw [if_pos ht]
        constructor
        · intro h; cases h
        · rintro ⟨_, h2⟩
          exfalso
          unfold twiceP at ht
          rw [has_times] at ht
          simp only [Bool.and_eq_true, decide_eq_true_eq, Bool.not_eq_true'] at ht
          have := h2 p.id ht.2
          rw [times_append, times_cons, if_pos rfl] at this
          omega
      · rw [if_neg ht]
        have ht : hasP pre p.id = false ∨ manyP kind p.id = true := by
          unfold twiceP at ht
          cases h1 : hasP pre p.id <;> cases h2 : manyP kind p.id <;> simp_all
        have hp' : ∀ id, manyP kind id = false → timesP (pre ++ [p]) id ≤ 1 := fun id hid => by
          rw [times_append, times_cons, times_nil]
          by_cases e : p.id = id
          · subst e
            rcases ht with h | h
            · rw [has_times, decide_eq_false_iff_not] at h
              rw [if_pos rfl]; omega
            · rw [hid] at h; cases h
          · rw [if_neg e]; have := hp id hid; omega
        rw [each_iff kind l (pre ++ [p]) hp', List.append_assoc, List.singleton_append]
        constructor
        · rintro ⟨h1, h2⟩
          exact ⟨fun q hq => by
            rcases List.mem_cons.1 hq with rfl | hq
            · exact hc
            · exact h1 q hq, h2⟩
        · rintro ⟨h1, h2⟩
          exact ⟨fun q hq => h1 q (List.mem_cons_of_mem _ hq), h2⟩
    · rw [if_pos hc]
      constructor
      · intro h; exact absurd h hc
      · rintro ⟨h1, _⟩; exact absurd (h1 p (List.mem_cons_self ..)) hc
theorem each_good (kind : Int) (l : List Pr) : eachP kind [] l = 0 ↔ goodP kind l := by
  rw [each_iff kind l [] (fun id _ => by rw [times_nil]; omega), List.nil_append]; exact Iff.rfl
theorem valid_good (kind : Int) (l : List Pr) : validP kind l = 0 ↔ l.length ≤ 1000 ∧ goodP kind l ∧ loneP l = false ∧ (bodyP l).length ≤ 268435455 := by
  rw [← each_good]
  constructor
  · exact valid_parts
  · rintro ⟨h1, h2, h3, h4⟩
    unfold validP
    rw [if_neg (by omega), if_neg (by simp [h2]), if_neg (by simp [h3]), if_neg (by omega)]

/-! ### Another order -/
theorem perm_times {a b : List Pr} (h : a.Perm b) (id : Int) : timesP a id = timesP b id := (h.filter _).length_eq
theorem perm_body {a b : List Pr} (h : a.Perm b) : (bodyP a).length = (bodyP b).length := by
  induction h with
  | nil => rfl
  | cons x _ ih => rw [bodyP_cons, bodyP_cons, List.length_append, List.length_append, ih]
  | swap x y l => simp only [bodyP_cons, List.length_append]; omega
  | trans _ _ h1 h2 => exact h1.trans h2
theorem perm_valid {kind : Int} {a b : List Pr} (h : a.Perm b) (hv : validP kind a = 0) : validP kind b = 0 := by
  rw [valid_good] at hv ⊢
  obtain ⟨h1, ⟨h2, h3⟩, h4, h5⟩ := hv
  refine ⟨by rw [← h.length_eq]; exact h1, ⟨fun p hp => h2 p (h.mem_iff.2 hp), fun id hid => by rw [← perm_times h]; exact h3 id hid⟩, ?_, by rw [← perm_body h]; exact h5⟩
  unfold loneP at h4 ⊢
  rw [has_times, has_times] at h4 ⊢
  rwa [← perm_times h, ← perm_times h]
theorem turn_valid {kind : Int} {l : List Pr} (k : Nat) (hv : validP kind l = 0) : validP kind (l.drop k ++ l.take k) = 0 ∧ (bodyP (l.drop k ++ l.take k)).length = (bodyP l).length := by
  have hp : l.Perm (l.drop k ++ l.take k) := by
    have : l.take k ++ l.drop k = l := List.take_append_drop k l
    exact (List.Perm.of_eq this.symm).trans List.perm_append_comm
  exact ⟨perm_valid hp hv, (perm_body hp).symm⟩

/-! ### Parts of a list -/
theorem part_good {kind : Int} {a b c : List Pr} (h : goodP kind (a ++ b ++ c)) : goodP kind (a ++ c) := by
  refine ⟨fun p hp => h.1 p ?_, fun id hid => ?_⟩
  · rcases List.mem_append.1 hp with h1 | h1
    · exact List.mem_append_left _ (List.mem_append_left _ h1)
    · exact List.mem_append_right _ h1
  · have := h.2 id hid
    rw [times_append, times_append] at this
    rw [times_append]; omega
/-- A part of a valid list is valid, but for data without a method. -/
theorem part_valid {kind : Int} {a b c : List Pr} (hv : validP kind (a ++ b ++ c) = 0) : validP kind (a ++ c) = if loneP (a ++ c) then 9 else 0 := by
  obtain ⟨h1, h2, h3, h4⟩ := (valid_good kind _).1 hv
  have hg := (each_good kind _).2 (part_good h2)
  have hl : (a ++ c).length ≤ 1000 := by simp at h1 ⊢; omega
  have hb : (bodyP (a ++ c)).length ≤ 268435455 := by
    rw [bodyP_append, bodyP_append] at h4
    rw [bodyP_append]
    simp at h4 ⊢; omega
  unfold validP
  rw [if_neg (by omega), if_neg (by simp [hg])]
  by_cases hlo : loneP (a ++ c) = true
  · rw [if_pos hlo, if_pos hlo]
  · rw [if_neg hlo, if_neg (by omega), if_neg hlo]
/-- Without one that is not the method. -/
theorem less_valid {kind : Int} {a c : List Pr} {p : Pr} (hv : validP kind (a ++ [p] ++ c) = 0) (hp : p.id ≠ 21) : validP kind (a ++ c) = 0 := by
  rw [part_valid hv, if_neg]
  obtain ⟨_, _, h3, _⟩ := (valid_good kind _).1 hv
  intro h
  unfold loneP at h h3
  rw [has_times, has_times] at h h3
  simp only [times_append, times_cons, times_nil] at h h3
  rw [if_neg hp] at h3
  simp at h h3
  omega
/-- With one more that is there. -/
theorem more_valid {kind : Int} {l : List Pr} {p : Pr} (hv : validP kind l = 0) (hp : p ∈ l) (hl : l.length < 1000) (hb : (bodyP (l ++ [p])).length ≤ 268435455) : (validP kind (l ++ [p]) = 0) ↔ manyP kind p.id = true := by
  obtain ⟨h1, ⟨h2, h3⟩, h4, h5⟩ := (valid_good kind _).1 hv
  have ht : 0 < timesP l p.id := by
    have : hasP l p.id = true := by unfold hasP; rw [List.any_eq_true]; exact ⟨p, hp, by simp⟩
    rw [has_times, decide_eq_true_eq] at this
    exact this
  rw [valid_good]
  constructor
  · rintro ⟨_, ⟨_, k3⟩, _, _⟩
    cases hm : manyP kind p.id with
    | true => rfl
    | false =>
      have := k3 p.id hm
      rw [times_append, times_cons, times_nil, if_pos rfl] at this
      omega
  · intro hm
    refine ⟨by simp; omega, ⟨fun q hq => ?_, fun id hid => ?_⟩, ?_, hb⟩
    · rcases List.mem_append.1 hq with h | h
      · exact h2 q h
      · simp at h; subst h; exact h2 q hp
    · rw [times_append, times_cons, times_nil]
      by_cases e : p.id = id
      · subst e; rw [hid] at hm; cases hm
      · rw [if_neg e]; have := h3 id hid; omega
    · unfold loneP at h4 ⊢
      rw [has_times, has_times] at h4 ⊢
      simp only [times_append, times_cons, times_nil]
      by_cases e1 : p.id = 22
      · rw [e1] at ht ⊢
        simp at h4 ⊢
        have := h4 ht
        omega
      · rw [if_neg e1]
        simp at h4 ⊢
        intro h
        have := h4 h
        omega

/-! ### Truncated, and with one byte more -/
theorem rd_nil : rdE [] = 3 := rfl
/-- A list's bytes, truncated, are short. -/
theorem read_cut {kind : Int} {l : List Pr} (h : validP kind l = 0) (hs : (bodyP l).length < 128) (k : Nat) (hk : k < (bytesP kind l).1.length) : readP kind ((bytesP kind l).1.take k) = ([], 0, 3) := by
  have hb : (bytesP kind l).1 = vb (bodyP l).length (sz (bodyP l).length) ++ bodyP l := by unfold bytesP; rw [if_neg (by simp [h])]
  have hz : sz (bodyP l).length = 1 := by
    rcases sz_cases (bodyP l).length (by omega) with h1 | h1 | h1 | h1
    · exact h1.1
    · omega
    · omega
    · omega
  rw [hb, hz, List.length_append, vb_length] at hk
  rw [hb, hz]
  cases k with
  | zero =>
    rw [List.take_zero]
    unfold readP
    rw [rd_nil]; rfl
  | succ k =>
    have e : (vb (bodyP l).length 1 ++ bodyP l).take (k + 1) = vb (bodyP l).length 1 ++ (bodyP l).take k := by
      rw [List.take_append, vb_length, List.take_of_length_le (by rw [vb_length]; omega)]; rfl
    rw [e]
    have hr := run_vb (bodyP l).length (by omega) ((bodyP l).take k)
    rw [hz] at hr
    obtain ⟨e1, e2, e3⟩ := rd_of hr
    unfold readP
    rw [e1, e2, e3]
    simp only [if_true]
    rw [if_neg (by decide), if_pos (by rw [List.length_append, vb_length, List.length_take]; omega)]
/-- One property's bytes are read as it. -/
theorem from_step {kind : Int} {p : Pr} {pre : List Pr} {f : Nat} (hc : checkP kind p = 0) (ht : ¬ twiceP kind pre p.id = true) (hl : pre.length < 1000) (t : List UInt8) : fromP kind (f + 1) pre (oneP p ++ t) = fromP kind f (pre ++ [p]) t := by
  have hm := (check_parts hc).1
  have hid := id_byte hm
  have hn := next_value hc t
  show fromP kind (f + 1) pre (UInt8.ofNat p.id.toNat :: (valueP p ++ t)) = _
  rw [fromP]
  simp only [hid, hn, hm]
  rw [if_neg (by simp), if_neg (by simp), if_neg (by simp [hc]), if_neg ht, if_neg (by omega), List.drop_left]
/-- A byte more is an id that nobody may have. -/
theorem from_more (kind : Int) : ∀ (l pre : List Pr) (f : Nat), eachP kind pre l = 0 → pre.length + l.length ≤ 1000 → (bodyP l).length + 1 ≤ f → fromP kind f pre (bodyP l ++ [0]) = ([], 9)
  | [], pre, f, _, _, hf => by
    cases f with
    | zero => omega
    | succ f =>
      have h0 : mayP kind (((0 : UInt8).toNat : Nat) : Int) = false := by
        unfold mayP; rw [prow_out (.inl (by decide))]; rfl
      show fromP kind (f + 1) pre [0] = _
      rw [fromP, if_pos h0]
  | p :: l, pre, f, he, hl, hf => by
    rw [eachP] at he
    split at he
    · rename_i h; exact absurd he h
    · rename_i hc
      have hc : checkP kind p = 0 := by simpa using hc
      split at he
      · cases he
      · rename_i ht
        rw [bodyP_cons, List.length_append, oneP_length] at hf
        rw [List.length_cons] at hl
        cases f with
        | zero => omega
        | succ f =>
          rw [bodyP_cons, List.append_assoc, from_step hc ht (by omega)]
          exact from_more kind l (pre ++ [p]) f he (by rw [List.length_append, List.length_cons, List.length_nil]; omega) (by omega)
theorem read_more {kind : Int} {l : List Pr} (h : validP kind l = 0) (hs : (bodyP l).length < 127) : readP kind (vb ((bodyP l).length + 1) 1 ++ (bodyP l ++ [0])) = ([], 0, 9) := by
  obtain ⟨h1, h2, h3, h4⟩ := valid_parts h
  have hz : sz (((bodyP l).length + 1 : Nat) : Int) = 1 := by
    rcases sz_cases ((bodyP l).length + 1) (by omega) with h1 | h1 | h1 | h1
    · exact h1.1
    · omega
    · omega
    · omega
  have hr := run_vb ((bodyP l).length + 1) (by omega) (bodyP l ++ [0])
  rw [hz] at hr
  obtain ⟨e1, e2, e3⟩ := rd_of hr
  have e4 : ((vb ((bodyP l).length + 1) 1 ++ (bodyP l ++ [0])).drop 1).take ((bodyP l).length + 1) = bodyP l ++ [0] := by
    rw [List.drop_append_of_le_length (by rw [vb_length]; exact Nat.le_refl _), List.drop_of_length_le (by rw [vb_length]; exact Nat.le_refl _), List.nil_append, List.take_of_length_le (by simp)]
  unfold readP
  rw [e1, e2, e3]
  simp only [if_true]
  rw [if_neg (by decide), if_neg (by rw [List.length_append, vb_length]; simp), e4, from_more kind l [] _ h2 (by simpa using h1) (Nat.le_refl _)]
  rfl
end Go.Proofs.YtaahhbjnflimnaaGreat
namespace Go.Proofs.YtaahhbjnflimnaaGreat
open Go.RowKit

theorem tail_len {v kind : Int} {l : List Pr} (h : rightC v kind l = 0) : (tailC v kind l).length ≤ 300000000 := by
  unfold tailC
  unfold rightC at h
  split
  · rename_i h5
    rw [if_pos h5] at h
    obtain ⟨_, _, _, h4⟩ := valid_parts h
    unfold bytesP
    rw [if_neg (by simpa using h), List.length_append, vb_length]
    have := sz_cases (bodyP l).length h4
    omega
  · exact Nat.zero_le _
end Go.Proofs.YtaahhbjnflimnaaGreat
namespace Go.Proofs.YtaahhbjnflimnaaGreat
open Go.RowKit

/-- A byte as a cell. -/
def u8v (b : UInt8) : Value := .int .u8 b.toNat

theorem u8v_ofNat (m : Nat) : u8v (UInt8.ofNat m) = .int .u8 ((m : Int) % 256) := by
  simp [u8v]

def bs (l : List UInt8) : ByteArray := ⟨l.toArray⟩
theorem toList_data (s : ByteArray) : s.toList = s.data.toList := ByteArray.toList_eq s
theorem bs_toList (l : List UInt8) : (bs l).toList = l := by rw [toList_data]; rfl

theorem take_bytes (s : ByteArray) (k : Nat) (h : k < s.size) : s.data.toList.take (k + 1) = s.data.toList.take k ++ [s[k]] := by
  rw [List.take_succ_eq_append_getElem (by simpa using h)]; rfl

theorem setCell_block {w : World} {b : Nat} {cs : Array Value} {t : TypeId} (h : w.heap[b]? = some (.cells cs t (0, 0))) (j : Nat) (u : Value) :
    (w.setCell ⟨b, j, none⟩ u).heap[b]? = some (.cells (cs.setIfInBounds j u) t (0, 0)) := by
  simp [World.setCell, Array.getElem?_modify, h]
theorem block_kept (w : World) (b j : Nat) (u : Value) : w.grownBy (w.setCell ⟨b, j, none⟩ u) (some b) :=
  ⟨rfl, rfl, rfl, by simp [World.setCell], fun k _ hne => Below.heap_setCell w ⟨b, j, none⟩ u k (fun e => hne (by rw [e]))⟩
theorem grown_of_draws {w w' : World} {n : Nat} {r : Option Nat} (h : (w.drewN n).grownBy w' r) : w.grownBy w' r := ⟨h.os, h.tape, h.output, h.size, h.block⟩

theorem grown_then {a b c : World} {r : Option Nat} (h : a.grownBy b r) (k : b.grownBy c r) : a.grownBy c r :=
  ⟨k.os.trans h.os, k.tape.trans h.tape, k.output.trans h.output, Nat.le_trans h.size k.size, fun i hi hne => (k.block i (Nat.lt_of_lt_of_le hi h.size) hne).trans (h.block i hi hne)⟩

theorem below_draws {B : Nat} {a b : World} (h : Below B a b) (n : Nat) : Below B a (b.drewN n) := ⟨h.os, h.tape, h.output, h.size, h.block⟩
theorem quiet_same {P : Program} {f : FuncId} {args : Array Value} {w : World} {n : Nat} {v : Value}
    (h : Calls P f args (w.drewN n) fun e w' => e = .returned v ∧ w.drewN n = w') : Calls P f args (w.drewN n) fun e w'' => e = .returned v ∧ ∃ m, w'' = w.drewN m :=
  h.mono fun _ _ ⟨he, hm⟩ => ⟨he, n, hm.symm⟩
section
variable {w W W' : World} {g : FuncId} {args : Array Value} {v v' : Value}
theorem bl_same (h : Below w.heap.size w W) (hv : v = v') (hcall : Calls Tryz.prog g args W fun e' W' => e' = .returned v ∧ W = W') :
    Calls Tryz.prog g args W fun e' W' => e' = .returned v' ∧ Below w.heap.size w W' := hcall.mono fun _ _ ⟨he, hw⟩ => ⟨hv ▸ he, hw ▸ h⟩
theorem bl_made (h : Below w.heap.size w W) (hv : v = v') (hcall : Calls Tryz.prog g args W fun e' W' => e' = .returned v ∧ Below W.heap.size W W') :
    Calls Tryz.prog g args W fun e' W' => e' = .returned v' ∧ Below w.heap.size w W' := hcall.mono fun _ _ ⟨he, hb⟩ => ⟨hv ▸ he, h.trans (hb.mono h.size)⟩
end

end Go.Proofs.YtaahhbjnflimnaaGreat
namespace Go.Proofs.YtaahhbjnflimnaaGreat
theorem bs_two (a b : List UInt8) : bs a ++ bs b = bs (a ++ b) := by
  apply ByteArray.ext
  simp [bs]
theorem bs_len (l : List UInt8) : (bs l).size = l.length := by simp [bs, ByteArray.size]
end Go.Proofs.YtaahhbjnflimnaaGreat
