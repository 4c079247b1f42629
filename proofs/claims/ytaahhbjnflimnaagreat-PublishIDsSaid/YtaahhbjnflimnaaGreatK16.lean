/-
  A list's bytes are few. No program. No condition.
  Plain facts on the document's answer for code points: what it reckons of the bytes at a place is what begins there. No condition.
  What all layers share: bytes as cells, and what a world keeps behind a store, a draw or a call. No condition.
  Bytes one behind the other, and how many. Condition: none.
-/
import Derived.WalkKit
import Derived.WalkSpells
import Derived.WalkLawsBesides
import Derived.Lib.Hide
import Derived.LaidEqlPtr
import Derived.BigQuiet
import Derived.Deep.QuietTactic
import Derived.Test.YtaahhbjnflimnaaGreatK11
import Derived.Test.YtaahhbjnflimnaaGreatK04
import Derived.Test.YtaahhbjnflimnaaGreatRows
namespace Go.Proofs.YtaahhbjnflimnaaGreat
open Go.RowKit

theorem tail_len {v kind : Int} {l : List Pr} (h : rightC v kind l = 0) : (tailC v kind l).length ≤ 300000000 := by
  unfold tailC
  unfold rightC at h
  split
  · rename_i h5
    rw [if_pos h5] at h
    obtain ⟨_, _, _, h4⟩ := valid_parts h
    unfold bytesP
    rw [if_neg (by simpa using h), List.length_append, vb_length]
    have := sz_cases (bodyP l).length h4
    omega
  · exact Nat.zero_le _
end Go.Proofs.YtaahhbjnflimnaaGreat
namespace Go.Proofs.YtaahhbjnflimnaaGreat

def bytU (l : List UInt8) (k : Nat) : Nat := (l.getD k 0).toNat
/-- The low six bits of a byte that goes on. -/
def mr (l : List UInt8) (k : Nat) : Option Nat := if k < l.length ∧ 128 ≤ bytU l k ∧ bytU l k ≤ 191 then some (bytU l k - 128) else none
/-- The number with f bytes more, from the i-th on. -/
def gor (l : List UInt8) (pl : Nat) : Nat → Nat → Nat → Option Nat
  | 0, n, _ => some n
  | f + 1, n, i => match mr l (pl + i) with
    | none => none
    | some low => gor l pl f (64 * n + low) (i + 1)
/-- A number that is none of a code point. -/
def wrong (n least : Nat) : Prop := n < least ∨ 1114111 < n ∨ (55296 ≤ n ∧ n ≤ 57343)
instance (n least : Nat) : Decidable (wrong n least) := by unfold wrong; infer_instance
def fin2 (o : Option Nat) (size least : Nat) : Nat × Nat :=
  match o with
  | none => (0, 0)
  | some n => if wrong n least then (0, 0) else (n, size)
def ptr (l : List UInt8) (pl : Nat) : Nat × Nat :=
  if bytU l pl < 128 then (bytU l pl, 1)
  else if 192 ≤ bytU l pl ∧ bytU l pl < 224 then fin2 (gor l pl 1 (bytU l pl - 192) 1) 2 128
  else if 224 ≤ bytU l pl ∧ bytU l pl < 240 then fin2 (gor l pl 2 (bytU l pl - 224) 1) 3 2048
  else if 240 ≤ bytU l pl ∧ bytU l pl < 248 then fin2 (gor l pl 3 (bytU l pl - 240) 1) 4 65536
  else (0, 0)

theorem mr_lt {l : List UInt8} {k m : Nat} (h : mr l k = some m) : m < 64 ∧ k < l.length ∧ bytU l k = 128 + m := by
  unfold mr at h
  split at h
  · rename_i hc
    obtain rfl : bytU l k - 128 = m := by simpa using h
    omega
  · cases h

theorem mr_eq (l : List UInt8) (k : Nat) : mr l k = if (decide (k < l.length) && bytU l k / 64 == 2) = true then some (bytU l k - 128) else none := by
  unfold mr
  have e : (k < l.length ∧ 128 ≤ bytU l k ∧ bytU l k ≤ 191) ↔ (decide (k < l.length) && bytU l k / 64 == 2) = true := by simp; omega
  by_cases h : k < l.length ∧ 128 ≤ bytU l k ∧ bytU l k ≤ 191
  · rw [if_pos h, if_pos (e.1 h)]
  · rw [if_neg h, if_neg (fun h' => h (e.2 h'))]
/-- What is decoded, but nothing for what is broken. -/
def clean (d : Nat × Nat) : Nat × Nat := if d = (65533, 1) then (0, 0) else d
theorem clean_bad : clean (65533, 1) = (0, 0) := rfl
theorem clean_if (c size least : Nat) (hs : 1 < size) (P : Prop) [Decidable P] (hP : P ↔ ¬ wrong c least) : clean (if P then (c, size) else (65533, 1)) = fin2 (some c) size least := by
  unfold fin2 clean
  by_cases h : wrong c least
  · have : ¬ P := fun hp => hP.1 hp h
    simp [h, this]
  · have hp : P := hP.2 h
    have h1 : ¬ (c, size) = (65533, 1) := by simp; omega
    simp only [hp, if_true, h, if_false, h1]

/-- As dl tells it, by the bytes' numbers. -/
theorem ptr_dl (l : List UInt8) (pl : Nat) : ptr l pl = clean (dl (l.drop pl)) := by
  have hb : ∀ k, ((l.drop pl).getD k 0).toNat = bytU l (pl + k) := fun k => by
    unfold bytU
    rw [List.getD_eq_getElem?_getD, List.getElem?_drop, List.getD_eq_getElem?_getD]
  have hlen : ∀ k, (k < (l.drop pl).length) = (pl + k < l.length) := fun k => by rw [List.length_drop]; apply propext; omega
  have h0 : bytU l pl < 256 := (l.getD pl 0).toNat_lt
  have h1 : bytU l (pl + 1) < 256 := (l.getD (pl + 1) 0).toNat_lt
  have h2 : bytU l (pl + 2) < 256 := (l.getD (pl + 2) 0).toNat_lt
  have h3 : bytU l (pl + 3) < 256 := (l.getD (pl + 3) 0).toNat_lt
  unfold dl ptr
  simp only [hb, hlen, Nat.add_zero, gor, mr_eq]
  generalize bytU l pl = x at *
  have k1 : (decide (pl + 1 < l.length) && bytU l (pl + 1) / 64 == 2) = true → 128 ≤ bytU l (pl + 1) ∧ bytU l (pl + 1) ≤ 191 := by simp; omega
  have k2 : (decide (pl + 1 + 1 < l.length) && bytU l (pl + 1 + 1) / 64 == 2) = true → 128 ≤ bytU l (pl + 2) ∧ bytU l (pl + 2) ≤ 191 := by simp [Nat.add_assoc]; omega
  have k3 : (decide (pl + 1 + 1 + 1 < l.length) && bytU l (pl + 1 + 1 + 1) / 64 == 2) = true → 128 ≤ bytU l (pl + 3) ∧ bytU l (pl + 3) ≤ 191 := by simp [Nat.add_assoc]; omega
  simp only [Nat.add_assoc, Nat.reduceAdd] at k2 k3 ⊢
  generalize (decide (pl + 1 < l.length) && bytU l (pl + 1) / 64 == 2) = c1 at *
  generalize (decide (pl + 2 < l.length) && bytU l (pl + 2) / 64 == 2) = c2 at *
  generalize (decide (pl + 3 < l.length) && bytU l (pl + 3) / 64 == 2) = c3 at *
  generalize bytU l (pl + 1) = y1 at *
  generalize bytU l (pl + 2) = y2 at *
  generalize bytU l (pl + 3) = y3 at *
  by_cases p0 : x < 128
  · have : ¬ (x, 1) = ((65533 : Nat), (1 : Nat)) := by simp; omega
    simp only [p0, if_true, clean, this, if_false]
  have f1 : (x / 32 == 6) = decide (192 ≤ x ∧ x < 224) := by rw [Bool.eq_iff_iff]; simp; omega
  have f2 : (x / 16 == 14) = decide (224 ≤ x ∧ x < 240) := by rw [Bool.eq_iff_iff]; simp; omega
  have f3 : (x / 8 == 30) = decide (240 ≤ x ∧ x < 248) := by rw [Bool.eq_iff_iff]; simp; omega
  simp only [p0, if_false, f1, f2, f3]
  by_cases p1 : 192 ≤ x ∧ x < 224
  · have n2 : ¬ (224 ≤ x ∧ x < 240) := by omega
    have n3 : ¬ (240 ≤ x ∧ x < 248) := by omega
    cases c1 with
    | false => simp [p1, n2, n3, fin2, clean]
    | true =>
      have := k1 rfl
      have ec : 64 * (x - 192) + (y1 - 128) = x % 32 * 64 + y1 % 64 := by omega
      simp only [p1, ec, decide_true, Bool.and_true, if_true, and_self]
      exact (clean_if _ 2 128 (by decide) _ (by unfold wrong; omega)).symm
  by_cases p2 : 224 ≤ x ∧ x < 240
  · have n3 : ¬ (240 ≤ x ∧ x < 248) := by omega
    cases c1 with
    | false => simp [p1, p2, n3, fin2, clean]
    | true =>
      cases c2 with
      | false => simp [p1, p2, n3, fin2, clean]
      | true =>
        have := k1 rfl
        have := k2 rfl
        obtain ⟨c, ec⟩ : ∃ c, 64 * (64 * (x - 224) + (y1 - 128)) + (y2 - 128) = c := ⟨_, rfl⟩
        have ed : x % 16 * 4096 + (y1 % 64 * 64 + y2 % 64) = c := by omega
        simp only [p1, p2, ec, ed, decide_true, decide_false, Bool.and_true, if_true, if_false, and_self, Bool.false_eq_true]
        clear ec ed
        rw [clean_if c 3 2048 (by decide)]
        rw [Bool.and_eq_true, valid_iff, decide_eq_true_eq]
        unfold wrong
        omega
  by_cases p3 : 240 ≤ x ∧ x < 248
  · cases c1 with
    | false => simp [p1, p2, p3, fin2, clean]
    | true =>
      cases c2 with
      | false => simp [p1, p2, p3, fin2, clean]
      | true =>
        cases c3 with
        | false => simp [p1, p2, p3, fin2, clean]
        | true =>
          have := k1 rfl
          have := k2 rfl
          have := k3 rfl
          obtain ⟨c, ec⟩ : ∃ c, 64 * (64 * (64 * (x - 240) + (y1 - 128)) + (y2 - 128)) + (y3 - 128) = c := ⟨_, rfl⟩
          have ed : x % 8 * 262144 + (y1 % 64 * 4096 + (y2 % 64 * 64 + y3 % 64)) = c := by omega
          simp only [p1, p2, p3, ec, ed, decide_true, decide_false, Bool.and_true, if_true, if_false, and_self, Bool.false_eq_true]
          clear ec ed
          rw [clean_if c 4 65536 (by decide)]
          rw [Bool.and_eq_true, valid_iff, decide_eq_true_eq]
          unfold wrong
          omega
  simp [p1, p2, p3, clean]

theorem ptr_some {l : List UInt8} {pl c : Nat} (h : hd (l.drop pl) = some c) : ptr l pl = (c, (cb c).length) := by
  obtain ⟨ho, r, hr⟩ := hd_some h
  rw [ptr_dl, hr, dl_cb ho]
  unfold clean
  rw [if_neg]
  intro e
  have e1 : c = 65533 := congrArg Prod.fst e
  have e2 : (cb c).length = 1 := congrArg Prod.snd e
  subst e1
  simp [cb_length] at e2
theorem ptr_none {l : List UInt8} {pl : Nat} (hl : pl < l.length) (h : hd (l.drop pl) = none) : (ptr l pl).1 = 0 := by
  rw [ptr_dl]
  rcases hd_none (by rw [Ne, List.drop_eq_nil_iff]; omega) h with e | e
  · rw [e]; rfl
  · unfold clean
    split
    · rfl
    · exact e
end Go.Proofs.YtaahhbjnflimnaaGreat
namespace Go.Proofs.YtaahhbjnflimnaaGreat
open Go.RowKit

/-- A byte as a cell. -/
def u8v (b : UInt8) : Value := .int .u8 b.toNat

theorem u8v_ofNat (m : Nat) : u8v (UInt8.ofNat m) = .int .u8 ((m : Int) % 256) := by
  simp [u8v]

def bs (l : List UInt8) : ByteArray := ⟨l.toArray⟩
theorem toList_data (s : ByteArray) : s.toList = s.data.toList := ByteArray.toList_eq s
theorem bs_toList (l : List UInt8) : (bs l).toList = l := by rw [toList_data]; rfl

theorem take_bytes (s : ByteArray) (k : Nat) (h : k < s.size) : s.data.toList.take (k + 1) = s.data.toList.take k ++ [s[k]] := by
  rw [List.take_succ_eq_append_getElem (by simpa using h)]; rfl

theorem setCell_block {w : World} {b : Nat} {cs : Array Value} {t : TypeId} (h : w.heap[b]? = some (.cells cs t (0, 0))) (j : Nat) (u : Value) :
    (w.setCell ⟨b, j, none⟩ u).heap[b]? = some (.cells (cs.setIfInBounds j u) t (0, 0)) := by
  simp [World.setCell, Array.getElem?_modify, h]
theorem block_kept (w : World) (b j : Nat) (u : Value) : w.grownBy (w.setCell ⟨b, j, none⟩ u) (some b) :=
  ⟨rfl, rfl, rfl, by simp [World.setCell], fun k _ hne => Below.heap_setCell w ⟨b, j, none⟩ u k (fun e => hne (by rw [e]))⟩
theorem grown_of_draws {w w' : World} {n : Nat} {r : Option Nat} (h : (w.drewN n).grownBy w' r) : w.grownBy w' r := ⟨h.os, h.tape, h.output, h.size, h.block⟩

theorem grown_then {a b c : World} {r : Option Nat} (h : a.grownBy b r) (k : b.grownBy c r) : a.grownBy c r :=
  ⟨k.os.trans h.os, k.tape.trans h.tape, k.output.trans h.output, Nat.le_trans h.size k.size, fun i hi hne => (k.block i (Nat.lt_of_lt_of_le hi h.size) hne).trans (h.block i hi hne)⟩

theorem below_draws {B : Nat} {a b : World} (h : Below B a b) (n : Nat) : Below B a (b.drewN n) := ⟨h.os, h.tape, h.output, h.size, h.block⟩
theorem quiet_same {P : Program} {f : FuncId} {args : Array Value} {w : World} {n : Nat} {v : Value}
    (h : Calls P f args (w.drewN n) fun e w' => e = .returned v ∧ w.drewN n = w') : Calls P f args (w.drewN n) fun e w'' => e = .returned v ∧ ∃ m, w'' = w.drewN m :=
  h.mono fun _ _ ⟨he, hm⟩ => ⟨he, n, hm.symm⟩
section
variable {w W W' : World} {g : FuncId} {args : Array Value} {v v' : Value}
theorem bl_same (h : Below w.heap.size w W) (hv : v = v') (hcall : Calls Tryz.prog g args W fun e' W' => e' = .returned v ∧ W = W') :
    Calls Tryz.prog g args W fun e' W' => e' = .returned v' ∧ Below w.heap.size w W' := hcall.mono fun _ _ ⟨he, hw⟩ => ⟨hv ▸ he, hw ▸ h⟩
theorem bl_made (h : Below w.heap.size w W) (hv : v = v') (hcall : Calls Tryz.prog g args W fun e' W' => e' = .returned v ∧ Below W.heap.size W W') :
    Calls Tryz.prog g args W fun e' W' => e' = .returned v' ∧ Below w.heap.size w W' := hcall.mono fun _ _ ⟨he, hb⟩ => ⟨hv ▸ he, h.trans (hb.mono h.size)⟩
end

end Go.Proofs.YtaahhbjnflimnaaGreat
namespace Go.Proofs.YtaahhbjnflimnaaGreat
theorem bs_two (a b : List UInt8) : bs a ++ bs b = bs (a ++ b) := by
  apply ByteArray.ext
  simp [bs]
theorem bs_len (l : List UInt8) : (bs l).size = l.length := by simp [bs, ByteArray.size]
end Go.Proofs.YtaahhbjnflimnaaGreat
