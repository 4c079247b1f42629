/-
  A property, as plain data. No program. Condition: none.
  A list of cells as it lies in memory behind an address, whatever the cells: what keeps it, rows that a call has made. No program. Condition: none.
  A packet of MQTT, as plain data. No program. Condition: none.
  Plain facts on UTF-8: the bytes of a code point, the code point with which a list of bytes begins, all code points of a list up to the first place where none begins; how they split and join. No condition.
  Plain facts: the bytes of a number and the number of bytes, the highest first: each undoes the other. No condition.
  Plain facts: a string or binary data as two bytes of length and the bytes; what is read of them. No condition.
  Plain facts on variable byte integers: how a reader goes on by each byte, the bytes of a number, and that each undoes the other. No condition.
-/
import Derived.Lib.Hide
import Derived.WalkKit
import Derived.OwnWalk
import GoSem.Core.Utf8
namespace Go.Proofs.YtaahhbjnflimnaaGreat

/-- A property: its id, its number, its two texts. -/
structure Pr where
  id : Int
  n : Nat
  text : List UInt8
  value : List UInt8
deriving DecidableEq
end Go.Proofs.YtaahhbjnflimnaaGreat
namespace Go.Proofs.YtaahhbjnflimnaaGreat
open Go.RowKit

/-- The cells cs lie behind the address A. -/
def CL (W : World) (A : Option Addr) (cs : List Value) : Prop :=
  cs ≠ [] → ∃ g i, A = some ⟨g, i, none⟩ ∧ g < W.heap.size ∧ ∀ j u, cs[j]? = some u → W.cell? ⟨g, i + j, none⟩ = some u
section
variable {W W' : World} {A : Option Addr} {cs : List Value}
theorem CL.nil : CL W A [] := fun h => absurd rfl h
theorem CL.kept (h : CL W A cs) (hs : W.heap.size ≤ W'.heap.size) (hb : ∀ g i, A = some ⟨g, i, none⟩ → g < W.heap.size → W'.heap[g]? = W.heap[g]?) : CL W' A cs := fun hne => by
  obtain ⟨g, i, e, hg, hc⟩ := h hne
  have he := hb g i e hg
  exact ⟨g, i, e, Nat.lt_of_lt_of_le hg hs, fun j u hj => (World.cell?_of_block (a := ⟨g, i + j, none⟩) he).trans (hc j u hj)⟩
theorem CL.below (h : CL W A cs) (hb : Below W.heap.size W W') : CL W' A cs := h.kept hb.size fun g _ _ hg => hb.block g hg
theorem CL.addr (h : CL W A cs) (hne : cs ≠ []) : ∃ g i, A = some ⟨g, i, none⟩ ∧ g < W.heap.size := by
  obtain ⟨g, i, e, hg, _⟩ := h hne
  exact ⟨g, i, e, hg⟩
theorem CL.of_cells {g : Nat} {xs : Array Value} {t : TypeId} (hg : W.heap[g]? = some (.cells xs t (0, 0))) (h : ∀ (j : Nat) (u : Value), cs[j]? = some u → xs[j]? = some u) : CL W (some ⟨g, 0, none⟩) cs := fun _ =>
  ⟨g, 0, rfl, lt_of_block hg, fun j u hj => by
    rw [cell_of_row W g _ xs _ _ hg, Nat.zero_add]
    exact h j u hj⟩
theorem CL.owned {base n s : Nat} {v : Value} {t : TypeId} (h : W.ownsRow base t s v n cs) (hn : cs.length = n * s) :
    ∃ A c, v = .slice A n c ∧ n ≤ c ∧ CL W A cs ∧ ∀ g i, A = some ⟨g, i, none⟩ → base ≤ g := by
  rcases h.2 with ⟨rfl, h0⟩ | ⟨g, cap, cur, rfl, hb, hg, hc, _, _, hcur⟩
  · subst h0
    have : cs = [] := List.length_eq_zero_iff.1 (by rw [hn, Nat.zero_mul])
    subst this
    exact ⟨none, 0, rfl, Nat.le_refl _, CL.nil, fun g i e => by cases e⟩
  · refine ⟨_, cap, rfl, hc, CL.of_cells hg (fun j u hu => ?_), fun g' i e => by cases e; exact hb⟩
    rw [← hcur] at hu
    have hj : j < n * s := by
      have := (List.getElem?_eq_some_iff.1 hu).1
      rw [List.length_take] at this; omega
    rw [List.getElem?_take_of_lt hj] at hu
    simpa using hu
end
/-- A store of what lies there. -/
theorem setCell_idem {w : World} {g i : Nat} {v : Value} {cs : Array Value} {t : TypeId} {fr : Nat × Nat} (hg : w.heap[g]? = some (.cells cs t fr)) (hv : cs[i]? = some v) : w.setCell ⟨g, i, none⟩ v = w := by
  rw [setCell_eq_setRow w g i cs t fr v hg]
  have e : cs.setIfInBounds i v = cs := by
    obtain ⟨hi, hv⟩ := Array.getElem?_eq_some_iff.1 hv
    apply Array.ext
    · simp
    · intro j h1 h2
      rw [Array.getElem_setIfInBounds]
      split
      · rename_i h; subst h; exact hv.symm
      · rfl
  rw [e]
  have key : (w.setRow g cs).heap = w.heap := by
    apply Array.ext_getElem?
    intro k
    by_cases hk : k = g
    · subst hk; rw [setRow_heap w k cs cs t fr hg, hg]
    · exact setRow_other w g k cs hk
  show ({ w with heap := (w.setRow g cs).heap } : World) = w
  rw [key]
end Go.Proofs.YtaahhbjnflimnaaGreat
namespace Go.Proofs.YtaahhbjnflimnaaGreat

/-- A filter with its options. -/
structure Fi where
  topic : List UInt8
  qos : Int
  noLocal : Bool
  asPub : Bool
  handling : Int
deriving DecidableEq
/-- A packet: what it holds, its lists by their elements. -/
structure Pk where
  kind : Int
  dup : Bool
  retain : Bool
  qos : Int
  id : Int
  topic : List UInt8
  payload : List UInt8
  clean : Bool
  keep : Int
  client : List UInt8
  hasUser : Bool
  user : List UInt8
  hasPass : Bool
  pass : List UInt8
  hasWill : Bool
  wTopic : List UInt8
  wPayload : List UInt8
  wQos : Int
  wRetain : Bool
  wProps : List Pr
  session : Bool
  code : Int
  codes : List Int
  filters : List Fi
  props : List Pr
deriving DecidableEq
def Pk.nums (p : Pk) : List Int := [p.kind, p.qos, p.id, p.keep, p.code, p.wQos]
def Pk.marks (p : Pk) : List Bool := [p.dup, p.retain, p.clean, p.hasUser, p.hasPass, p.hasWill, p.session, p.wRetain]
def Pk.texts (p : Pk) : List (List UInt8) := [p.topic, p.payload, p.client, p.user, p.pass, p.wTopic, p.wPayload]
theorem pk_eq_iff (p q : Pk) : p = q ↔ p.nums = q.nums ∧ p.marks = q.marks ∧ p.texts = q.texts ∧ p.codes = q.codes ∧ p.filters = q.filters ∧ p.props = q.props ∧ p.wProps = q.wProps := by
  constructor
  · rintro rfl; exact ⟨rfl, rfl, rfl, rfl, rfl, rfl, rfl⟩
  · obtain ⟨⟩ := p
    obtain ⟨⟩ := q
    rintro ⟨h1, h2, h3, h4, h5, h6, h7⟩
    simp only [Pk.nums, Pk.marks, Pk.texts, List.cons.injEq, and_true] at h1 h2 h3
    simp only at h4 h5 h6 h7
    obtain ⟨rfl, rfl, rfl, rfl, rfl, rfl⟩ := h1
    obtain ⟨rfl, rfl, rfl, rfl, rfl, rfl, rfl, rfl⟩ := h2
    obtain ⟨rfl, rfl, rfl, rfl, rfl, rfl, rfl⟩ := h3
    subst h4 h5 h6 h7
    rfl
/-- A packet that is nothing. -/
def Pk.zero : Pk := ⟨0, false, false, 0, 0, [], [], false, 0, [], false, [], false, [], false, [], [], 0, false, [], false, 0, [], [], []⟩
end Go.Proofs.YtaahhbjnflimnaaGreat
namespace Go.Proofs.YtaahhbjnflimnaaGreat

/-- A code point that a string of a packet may have. -/
def okc (c : Nat) : Prop := 0 < c ∧ (c < 55296 ∨ (57344 ≤ c ∧ c ≤ 1114111))
/-- The bytes of a code point. -/
def cb (c : Nat) : List UInt8 :=
  if c < 128 then [UInt8.ofNat c]
  else if c < 2048 then [UInt8.ofNat (192 + c / 64), UInt8.ofNat (128 + c % 64)]
  else if c < 65536 then [UInt8.ofNat (224 + c / 4096), UInt8.ofNat (128 + c / 64 % 64), UInt8.ofNat (128 + c % 64)]
  else [UInt8.ofNat (240 + c / 262144), UInt8.ofNat (128 + c / 4096 % 64), UInt8.ofNat (128 + c / 64 % 64), UInt8.ofNat (128 + c % 64)]

theorem valid_iff (c : Nat) : Utf8.valid (c : Int) = true ↔ c < 55296 ∨ (57344 ≤ c ∧ c ≤ 1114111) := by
  unfold Utf8.valid
  simp only [Bool.or_eq_true, Bool.and_eq_true, decide_eq_true_eq]
  omega
theorem okc_valid {c : Nat} (h : okc c) : Utf8.valid (c : Int) = true := (valid_iff c).2 h.2

theorem encode_cb {c : Nat} (h : okc c) : Utf8.encode (c : Int) = ⟨(cb c).toArray⟩ := by
  unfold Utf8.encode cb
  simp only [okc_valid h, if_true, Int.toNat_natCast]
  split
  · rfl
  · split
    · rfl
    · split <;> rfl

/-- What a list of bytes is decoded to: by the bytes' numbers. -/
def dl (l : List UInt8) : Nat × Nat :=
  let at' (k : Nat) : Nat := (l.getD k 0).toNat
  let cont (k : Nat) : Bool := k < l.length && at' k / 64 == 2
  let b0 := at' 0
  if b0 < 128 then (b0, 1)
  else if b0 / 32 == 6 && cont 1 then
    let c := (b0 % 32) * 64 + at' 1 % 64
    if c ≥ 128 then (c, 2) else (65533, 1)
  else if b0 / 16 == 14 && cont 1 && cont 2 then
    let c := (b0 % 16) * 4096 + (at' 1 % 64) * 64 + at' 2 % 64
    if c ≥ 2048 && Utf8.valid c then (c, 3) else (65533, 1)
  else if b0 / 8 == 30 && cont 1 && cont 2 && cont 3 then
    let c := (b0 % 8) * 262144 + (at' 1 % 64) * 4096 + (at' 2 % 64) * 64 + at' 3 % 64
    if c ≥ 65536 && Utf8.valid c then (c, 4) else (65533, 1)
  else (65533, 1)

theorem get_drop (s : ByteArray) (i k : Nat) : s.get! (i + k) = (s.data.toList.drop i).getD k 0 := by
  rw [ByteArray.get!, List.getD_eq_getElem?_getD, List.getElem?_drop, Array.getElem!_eq_getD, Array.getD_eq_getD_getElem?]
  simp
  rfl
theorem lt_drop (s : ByteArray) (i k : Nat) : (i + k < s.size) = (k < (s.data.toList.drop i).length) := by
  have : s.size = s.data.toList.length := by simp
  rw [this, List.length_drop]
  apply propext
  omega
theorem decode_dl (s : ByteArray) (i : Nat) : Utf8.decode s i = dl (s.data.toList.drop i) := by
  unfold Utf8.decode dl
  simp only [get_drop, lt_drop]
  rfl

/-- The code point with which the bytes begin. -/
def hd (l : List UInt8) : Option Nat := if l = [] ∨ (dl l).1 = 0 ∨ ((dl l).1 = 65533 ∧ (dl l).2 = 1) then none else some (dl l).1

theorem n8 {n : Nat} (h : n < 256) : (UInt8.ofNat n).toNat = n := by rw [UInt8.toNat_ofNat']; omega
theorem b8 (b : UInt8) {n : Nat} (h : b.toNat = n) : UInt8.ofNat n = b := by subst h; simp

theorem dl_cb {c : Nat} (h : okc c) (l : List UInt8) : dl (cb c ++ l) = (c, (cb c).length) := by
  have hv := okc_valid h
  obtain ⟨h0, h1⟩ := h
  unfold cb
  split
  · rename_i h2
    simp [dl, n8 (show c < 256 by omega), h2]
  · split
    · rename_i h2 h3
      have e0 := n8 (show 192 + c / 64 < 256 by omega)
      have e1 := n8 (show 128 + c % 64 < 256 by omega)
      simp only [dl, List.cons_append, List.nil_append, List.getD_cons_zero, List.getD_cons_succ, e0, e1]
      rw [if_neg (by omega), if_pos (by simp; omega), if_pos (by omega)]
      simp; omega
    · split
      · rename_i h2 h3 h4
        have e0 := n8 (show 224 + c / 4096 < 256 by omega)
        have e1 := n8 (show 128 + c / 64 % 64 < 256 by omega)
        have e2 := n8 (show 128 + c % 64 < 256 by omega)
        have ec : (224 + c / 4096) % 16 * 4096 + (128 + c / 64 % 64) % 64 * 64 + (128 + c % 64) % 64 = c := by omega
        simp only [dl, List.cons_append, List.nil_append, List.getD_cons_zero, List.getD_cons_succ, e0, e1, e2, ec]
        rw [if_neg (by omega), if_neg (by simp; omega), if_pos (by simp; omega), if_pos (by simp [hv]; omega)]
        simp
      · rename_i h2 h3 h4
        have e0 := n8 (show 240 + c / 262144 < 256 by omega)
        have e1 := n8 (show 128 + c / 4096 % 64 < 256 by omega)
        have e2 := n8 (show 128 + c / 64 % 64 < 256 by omega)
        have e3 := n8 (show 128 + c % 64 < 256 by omega)
        have ec : (240 + c / 262144) % 8 * 262144 + (128 + c / 4096 % 64) % 64 * 4096 + (128 + c / 64 % 64) % 64 * 64 + (128 + c % 64) % 64 = c := by omega
        simp only [dl, List.cons_append, List.nil_append, List.getD_cons_zero, List.getD_cons_succ, e0, e1, e2, e3, ec]
        rw [if_neg (by omega), if_neg (by simp; omega), if_neg (by simp; omega), if_pos (by simp; omega), if_pos (by simp [hv]; omega)]
        simp

theorem cb_length_pos (c : Nat) : 0 < (cb c).length := by unfold cb; split <;> (try split) <;> (try split) <;> simp
theorem cb_length (c : Nat) : (cb c).length = if c < 128 then 1 else if c < 2048 then 2 else if c < 65536 then 3 else 4 := by
  unfold cb; split <;> (try split) <;> (try split) <;> simp
theorem cb_ne (c : Nat) (l : List UInt8) : cb c ++ l ≠ [] := by
  have := cb_length_pos c
  intro h
  have : (cb c ++ l).length = 0 := by rw [h]; rfl
  simp at this
  simp [this] at *

theorem hd_cb {c : Nat} (h : okc c) (l : List UInt8) : hd (cb c ++ l) = some c := by
  unfold hd
  rw [dl_cb h, if_neg]
  rintro (e | e | ⟨e, e2⟩)
  · exact cb_ne c l e
  · have := h.1; simp at e; omega
  · simp at e e2
    subst e
    simp [cb_length] at e2

theorem dl_cases (l : List UInt8) (hl : l ≠ []) : dl l = (65533, 1) ∨ (dl l).1 = 0 ∨ (okc (dl l).1 ∧ (dl l).2 = (cb (dl l).1).length ∧ ∃ r, l = cb (dl l).1 ++ r) := by
  unfold dl
  simp only []
  obtain ⟨b0, l0, rfl⟩ := List.exists_cons_of_ne_nil hl
  have h0 := b0.toNat_lt
  simp only [List.getD_cons_zero, List.getD_cons_succ, List.length_cons]
  split
  · rename_i hb
    by_cases hz : b0.toNat = 0
    · exact .inr (.inl hz)
    · refine .inr (.inr ⟨⟨by omega, by omega⟩, ?_, l0, ?_⟩)
      · simp [cb, hb]
      · simp [cb, hb]
  · split
    · rename_i hb hc
      rcases l0 with _ | ⟨b1, l1⟩
      · simp at hc
      simp at hc
      have h1 := b1.toNat_lt
      simp only [List.getD_cons_zero]
      split
      · rename_i hd
        have hk : ¬ b0.toNat % 32 * 64 + b1.toNat % 64 < 128 := by omega
        have hk2 : b0.toNat % 32 * 64 + b1.toNat % 64 < 2048 := by omega
        refine .inr (.inr ⟨⟨by simp; omega, by simp; omega⟩, ?_, l1, ?_⟩)
        · simp [cb, hk, hk2]
        · simp only [cb, hk, hk2, if_true, if_false]
          rw [b8 b0 (by omega), b8 b1 (by omega)]
          rfl
      · exact .inl rfl
    · split
      · rename_i hb hb2 hc
        rcases l0 with _ | ⟨b1, _ | ⟨b2, l2⟩⟩
        · simp at hc
        · simp at hc
        simp at hc
        have h1 := b1.toNat_lt
        have h2 := b2.toNat_lt
        simp only [List.getD_cons_zero, List.getD_cons_succ]
        split
        · rename_i hd
          simp only [Bool.and_eq_true, decide_eq_true_eq, valid_iff] at hd
          generalize hC : b0.toNat % 16 * 4096 + b1.toNat % 64 * 64 + b2.toNat % 64 = C at hd
          have hk : ¬ C < 128 := by omega
          have hk2 : ¬ C < 2048 := by omega
          have hk3 : C < 65536 := by omega
          refine .inr (.inr ⟨⟨by simp; omega, hd.2⟩, ?_, l2, ?_⟩)
          · simp [cb, hk, hk2, hk3]
          · simp only [cb, hk, hk2, hk3, if_false]
            rw [b8 b0 (by omega), b8 b1 (by omega), b8 b2 (by omega)]
            rfl
        · exact .inl rfl
      · split
        · rename_i hb hb2 hb3 hc
          rcases l0 with _ | ⟨b1, _ | ⟨b2, _ | ⟨b3, l3⟩⟩⟩
          · simp at hc
          · simp at hc
          · simp at hc
          simp at hc
          have h1 := b1.toNat_lt
          have h2 := b2.toNat_lt
          have h3 := b3.toNat_lt
          simp only [List.getD_cons_zero, List.getD_cons_succ]
          split
          · rename_i hd
            simp only [Bool.and_eq_true, decide_eq_true_eq, valid_iff] at hd
            generalize hC : b0.toNat % 8 * 262144 + b1.toNat % 64 * 4096 + b2.toNat % 64 * 64 + b3.toNat % 64 = C at hd
            have hk : ¬ C < 128 := by omega
            have hk2 : ¬ C < 2048 := by omega
            have hk3 : ¬ C < 65536 := by omega
            refine .inr (.inr ⟨⟨by simp; omega, hd.2⟩, ?_, l3, ?_⟩)
            · simp [cb, hk, hk2, hk3]
            · simp only [cb, hk, hk2, hk3, if_false]
              rw [b8 b0 (by omega), b8 b1 (by omega), b8 b2 (by omega), b8 b3 (by omega)]
              rfl
          · exact .inl rfl
        · exact .inl rfl

theorem hd_some {l : List UInt8} {c : Nat} (h : hd l = some c) : okc c ∧ ∃ r, l = cb c ++ r := by
  unfold hd at h
  split at h
  · cases h
  · rename_i hn
    have e : (dl l).1 = c := by simpa using h
    have hne : l ≠ [] := fun e => hn (.inl e)
    rcases dl_cases l hne with h1 | h1 | ⟨h1, _, h2⟩
    · exact absurd (.inr (.inr (by rw [h1]; exact ⟨rfl, rfl⟩))) hn
    · exact absurd (.inr (.inl h1)) hn
    · rw [e] at h1 h2; exact ⟨h1, h2⟩

/-- Where no code point begins the range tells U+0000, or U+FFFD and one byte. -/
theorem hd_none {l : List UInt8} (hl : l ≠ []) (h : hd l = none) : dl l = (65533, 1) ∨ (dl l).1 = 0 := by
  rcases dl_cases l hl with h1 | h1 | ⟨h1, h2, h3, h4⟩
  · exact .inl h1
  · exact .inr h1
  · generalize (dl l).1 = c at h1 h4
    subst h4
    rw [hd_cb h1] at h
    cases h

/-- All code points, up to the first place where none begins. -/
def pts (l : List UInt8) : List Nat :=
  match _h : hd l with
  | none => []
  | some c => c :: pts (l.drop (cb c).length)
termination_by l.length
decreasing_by
  obtain ⟨_, r, rfl⟩ := hd_some _h
  have := cb_length_pos c
  simp
  omega

/-- The bytes of code points, one after the other. -/
def cbs (cs : List Nat) : List UInt8 := cs.flatMap cb
def oks (cs : List Nat) : Prop := ∀ c ∈ cs, okc c

theorem cbs_nil : cbs [] = [] := rfl
theorem cbs_cons (c : Nat) (cs : List Nat) : cbs (c :: cs) = cb c ++ cbs cs := rfl
theorem cbs_append (a b : List Nat) : cbs (a ++ b) = cbs a ++ cbs b := by simp [cbs]
theorem cbs_snoc (a : List Nat) (c : Nat) : cbs (a ++ [c]) = cbs a ++ cb c := by simp [cbs]

theorem pts_none {l : List UInt8} (h : hd l = none) : pts l = [] := by
  rw [pts]
  split
  · rfl
  · rename_i c hc; rw [h] at hc; cases hc
theorem pts_some {c : Nat} (h : okc c) (l : List UInt8) : pts (cb c ++ l) = c :: pts l := by
  rw [pts]
  have e := hd_cb h l
  split
  · rename_i hc; rw [e] at hc; cases hc
  · rename_i c' hc
    rw [e] at hc
    obtain rfl : c = c' := by simpa using hc
    simp
theorem hd_nil : hd [] = none := by simp [hd]
theorem pts_nil : pts [] = [] := pts_none hd_nil

/-- The induction over a list's code points. -/
theorem pts_spec : ∀ (n : Nat) (l : List UInt8), l.length ≤ n → oks (pts l) ∧ ∃ r, l = cbs (pts l) ++ r ∧ hd r = none
  | 0, l, h => by
    obtain rfl : l = [] := List.eq_nil_of_length_eq_zero (by omega)
    rw [pts_nil]
    exact ⟨by simp [oks], [], rfl, hd_nil⟩
  | n + 1, l, h => by
    cases hc : hd l with
    | none =>
      rw [pts_none hc]
      exact ⟨by simp [oks], l, rfl, hc⟩
    | some c =>
      obtain ⟨ho, r, rfl⟩ := hd_some hc
      have := cb_length_pos c
      rw [pts_some ho]
      obtain ⟨h1, r2, h2, h3⟩ := pts_spec n r (by simp at h; omega)
      refine ⟨fun d hd => (List.mem_cons.1 hd).elim (fun e => e ▸ ho) (h1 d), r2, ?_, h3⟩
      rw [cbs_cons, List.append_assoc, ← h2]
theorem pts_oks (l : List UInt8) : oks (pts l) := (pts_spec _ l (Nat.le_refl _)).1
theorem pts_rest (l : List UInt8) : ∃ r, l = cbs (pts l) ++ r ∧ hd r = none := (pts_spec _ l (Nat.le_refl _)).2

theorem pts_append {cs : List Nat} (h : oks cs) (l : List UInt8) : pts (cbs cs ++ l) = cs ++ pts l := by
  induction cs with
  | nil => rfl
  | cons c cs ih =>
    rw [cbs_cons, List.append_assoc, pts_some (h c (List.mem_cons_self ..)), ih fun d hd => h d (List.mem_cons_of_mem _ hd)]
    rfl
theorem pts_cbs {cs : List Nat} (h : oks cs) : pts (cbs cs) = cs := by
  have := pts_append h []
  rwa [List.append_nil, pts_nil, List.append_nil] at this

/-- Where the code points end. -/
def fin (l : List UInt8) : Nat := (cbs (pts l)).length
theorem fin_le (l : List UInt8) : fin l ≤ l.length := by
  obtain ⟨r, h, _⟩ := pts_rest l
  unfold fin
  have := congrArg List.length h
  simp at this
  omega
theorem take_fin (l : List UInt8) : l.take (fin l) = cbs (pts l) := by
  obtain ⟨r, h, _⟩ := pts_rest l
  unfold fin
  generalize cbs (pts l) = a at h
  subst h
  simp
theorem drop_fin (l : List UInt8) : hd (l.drop (fin l)) = none := by
  obtain ⟨r, h, hr⟩ := pts_rest l
  unfold fin
  generalize cbs (pts l) = a at h
  subst h
  simpa using hr
theorem fin_append {cs : List Nat} (h : oks cs) (l : List UInt8) : fin (cbs cs ++ l) = (cbs cs).length + fin l := by
  unfold fin
  rw [pts_append h, cbs_append, List.length_append]
theorem length_le_cbs (cs : List Nat) : cs.length ≤ (cbs cs).length := by
  induction cs with
  | nil => simp
  | cons c cs ih => rw [cbs_cons]; have := cb_length_pos c; simp; omega
theorem pts_length_le (l : List UInt8) : (pts l).length ≤ l.length := Nat.le_trans (length_le_cbs _) (fin_le l)

/-- The first place where no code point begins; -1: there is none. -/
def badOf (l : List UInt8) : Int := if fin l < l.length then (fin l : Int) else -1
def validOf (l : List UInt8) : Bool := decide (l.length ≤ 65535) && decide (badOf l < 0)
theorem validOf_iff (l : List UInt8) : validOf l = true ↔ l.length ≤ 65535 ∧ fin l = l.length := by
  unfold validOf badOf
  have := fin_le l
  simp only [Bool.and_eq_true, decide_eq_true_eq]
  constructor
  · rintro ⟨h1, h2⟩
    refine ⟨h1, ?_⟩
    split at h2 <;> omega
  · rintro ⟨h1, h2⟩
    refine ⟨h1, ?_⟩
    rw [if_neg (by omega)]; omega
theorem validOf_cbs (l : List UInt8) (h : validOf l = true) : l = cbs (pts l) := by
  have h1 := take_fin l
  rw [((validOf_iff l).1 h).2, List.take_length] at h1
  exact h1

/-- The places and the code points: what an iterator over them hands over. -/
def marks (p : Nat) : List Nat → List (Nat × Nat)
  | [] => []
  | c :: cs => (p, c) :: marks (p + (cb c).length) cs
theorem marks_length (cs : List Nat) : ∀ p, (marks p cs).length = cs.length := by
  induction cs with
  | nil => intro p; rfl
  | cons c cs ih => intro p; simp [marks, ih]
theorem marks_append (a b : List Nat) : ∀ p, marks p (a ++ b) = marks p a ++ marks (p + (cbs a).length) b := by
  induction a with
  | nil => intro p; simp [marks, cbs]
  | cons c a ih =>
    intro p
    rw [cbs_cons, List.length_append, List.cons_append, marks, ih, marks, List.cons_append, Nat.add_assoc]
theorem marks_snoc (a : List Nat) (c : Nat) : marks 0 (a ++ [c]) = marks 0 a ++ [((cbs a).length, c)] := by
  rw [marks_append]; simp [marks]
end Go.Proofs.YtaahhbjnflimnaaGreat
namespace Go.Proofs.YtaahhbjnflimnaaGreat

/-- The lowest c bytes of n, the highest first. -/
def be (n : Nat) : Nat → List UInt8
  | 0 => []
  | c + 1 => be (n / 256) c ++ [UInt8.ofNat n]

theorem be_length (c : Nat) : ∀ n, (be n c).length = c := by
  induction c with
  | zero => intro n; rfl
  | succ c ih => intro n; simp [be, ih]

theorem be_step (n c k : Nat) (hk : k < c) : be (n / 256 ^ (c - (k + 1))) (k + 1) = be (n / 256 ^ (c - k)) k ++ [UInt8.ofNat (n / 256 ^ (c - (k + 1)))] := by
  have e : c - k = (c - (k + 1)) + 1 := by omega
  rw [be, e, Nat.pow_succ, Nat.div_div_eq_div_mul]

/-- The number of bytes, the highest first. -/
def num (l : List UInt8) : Nat := l.foldl (fun a b => a * 256 + b.toNat) 0

theorem num_snoc (l : List UInt8) (b : UInt8) : num (l ++ [b]) = num l * 256 + b.toNat := by simp [num]

theorem num_lt (l : List UInt8) : num l < 256 ^ l.length := by
  have key : ∀ (k : Nat) (l : List UInt8), l.length = k → num l < 256 ^ k := by
    intro k
    induction k with
    | zero => intro l h; have : l = [] := List.eq_nil_of_length_eq_zero h; subst this; decide
    | succ k ih =>
      intro l h
      rcases List.eq_nil_or_concat l with rfl | ⟨l', b, rfl⟩
      · simp at h
      · simp at h
        have := ih l' h
        have hb := b.toNat_lt
        rw [List.concat_eq_append, num_snoc, Nat.pow_succ]
        omega
  exact key _ l rfl

theorem num_be (c : Nat) : ∀ n, num (be n c) = n % 256 ^ c := by
  induction c with
  | zero => intro n; simp [be, num, Nat.mod_one]
  | succ c ih =>
    intro n
    rw [be, num_snoc, ih, Nat.pow_succ, Nat.mul_comm (256 ^ c) 256, Nat.mod_mul, UInt8.toNat_ofNat']
    omega
theorem be_of_num (l : List UInt8) : be (num l) l.length = l := by
  have key : ∀ (k : Nat) (l : List UInt8), l.length = k → be (num l) k = l := by
    intro k
    induction k with
    | zero => intro l h; have : l = [] := List.eq_nil_of_length_eq_zero h; subst this; rfl
    | succ k ih =>
      intro l h
      rcases List.eq_nil_or_concat l with rfl | ⟨l', b, rfl⟩
      · simp at h
      · simp at h
        have hb := b.toNat_lt
        rw [List.concat_eq_append, num_snoc, be]
        have e : (num l' * 256 + b.toNat) / 256 = num l' := by omega
        rw [e, ih l' h]
        congr 2
        apply UInt8.toNat_inj.1
        rw [UInt8.toNat_ofNat']
        omega
  exact key _ l rfl

theorem num_inj (l l' : List UInt8) (h : l.length = l'.length) (e : num l = num l') : l = l' := by
  rw [← be_of_num l, ← be_of_num l', h, e]

end Go.Proofs.YtaahhbjnflimnaaGreat
namespace Go.Proofs.YtaahhbjnflimnaaGreat

/-- The encoding: the length in two bytes, and the bytes. -/
def enc2 (l : List UInt8) : List UInt8 := be l.length 2 ++ l
theorem enc2_length (l : List UInt8) : (enc2 l).length = l.length + 2 := by simp [enc2, be_length]; omega
theorem num2_lt (l : List UInt8) : num (l.take 2) < 65536 := by
  have h := num_lt (l.take 2)
  have hl : (l.take 2).length ≤ 2 := by simp; omega
  have := Nat.pow_le_pow_right (show 0 < 256 by decide) hl
  omega

/-- What ReadBinary tells of its bytes. -/
def rdB (l : List UInt8) : List UInt8 × Nat × Nat :=
  if 2 ≤ l.length ∧ 2 + num (l.take 2) ≤ l.length then ((l.drop 2).take (num (l.take 2)), 2 + num (l.take 2), 0) else ([], 0, 3)
/-- What Read tells. -/
def rdT (l : List UInt8) : List UInt8 × Nat × Nat :=
  if (rdB l).2.2 ≠ 0 then ([], 0, 3) else if validOf (rdB l).1 then rdB l else ([], 0, 6)
theorem rdB_cases (l : List UInt8) : ((rdB l).2.2 = 0 ∧ (rdB l).1.length + 2 = (rdB l).2.1 ∧ (rdB l).2.1 ≤ l.length ∧ (rdB l).2.1 < 65538 ∧ l.take (rdB l).2.1 = enc2 (rdB l).1) ∨ rdB l = ([], 0, 3) := by
  unfold rdB
  split
  · rename_i h
    refine .inl ⟨rfl, ?_, h.2, by have := num2_lt l; simp; omega, ?_⟩
    · simp; omega
    · have hl : ((l.drop 2).take (num (l.take 2))).length = num (l.take 2) := by simp; omega
      have hb := be_of_num (l.take 2)
      have h2 : (l.take 2).length = 2 := by simp; omega
      rw [h2] at hb
      show l.take (2 + num (l.take 2)) = enc2 _
      rw [enc2, hl, hb, List.take_add]
  · exact .inr rfl

end Go.Proofs.YtaahhbjnflimnaaGreat
namespace Go.Proofs.YtaahhbjnflimnaaGreat

/-- What a reader is after a byte that is its n-th: 0 open, 1 whole, 2 broken. -/
def nxt (b : UInt8) (n : Nat) : Nat := if 128 ≤ b.toNat then (if n = 4 then 2 else 0) else if b.toNat = 0 ∧ 1 < n then 2 else 1
/-- The number with a byte more. -/
def grow (v n : Nat) (b : UInt8) : Nat := v + b.toNat % 128 * 128 ^ n
/-- Number, size and state behind the bytes: those behind the end are not looked at. -/
def run (v n : Nat) : List UInt8 → Nat × Nat × Nat
  | [] => (v, n, 0)
  | b :: l => if nxt b (n + 1) = 0 then run (grow v n b) (n + 1) l else (grow v n b, n + 1, nxt b (n + 1))

theorem nxt_cases (b : UInt8) (n : Nat) : nxt b n = 0 ∨ nxt b n = 1 ∨ nxt b n = 2 := by
  unfold nxt; split <;> split <;> simp
theorem nxt_zero {b : UInt8} {n : Nat} : nxt b n = 0 ↔ 128 ≤ b.toNat ∧ n ≠ 4 := by
  unfold nxt; split <;> split <;> simp_all
  all_goals omega
theorem nxt_one {b : UInt8} {n : Nat} : nxt b n = 1 ↔ b.toNat < 128 ∧ (0 < b.toNat ∨ n ≤ 1) := by
  unfold nxt; split <;> split <;> simp_all <;> omega
theorem nxt_two {b : UInt8} {n : Nat} : nxt b n = 2 ↔ (128 ≤ b.toNat ∧ n = 4) ∨ (b.toNat = 0 ∧ 1 < n) := by
  unfold nxt; split <;> split <;> simp_all <;> omega

theorem grow_lt {v n : Nat} (b : UInt8) (h : v < 128 ^ n) : grow v n b < 128 ^ (n + 1) := by
  unfold grow
  have h1 : b.toNat % 128 ≤ 127 := by omega
  have h2 : b.toNat % 128 * 128 ^ n ≤ 127 * 128 ^ n := Nat.mul_le_mul_right _ h1
  rw [Nat.pow_succ]
  omega

theorem run_open {v n : Nat} {b : UInt8} (l : List UInt8) (h : nxt b (n + 1) = 0) : run v n (b :: l) = run (grow v n b) (n + 1) l := by simp [run, h]
theorem run_shut {v n : Nat} {b : UInt8} (l : List UInt8) (h : nxt b (n + 1) ≠ 0) : run v n (b :: l) = (grow v n b, n + 1, nxt b (n + 1)) := by simp [run, h]

/-- One byte more behind bytes that leave a reader open. -/
theorem run_snoc (b : UInt8) : ∀ (l : List UInt8) (v n v' n' : Nat), run v n l = (v', n', 0) → run v n (l ++ [b]) = (grow v' n' b, n' + 1, nxt b (n' + 1)) := by
  intro l
  induction l with
  | nil =>
    intro v n v' n' h
    simp [run] at h
    obtain ⟨rfl, rfl⟩ := h
    by_cases h0 : nxt b (n + 1) = 0 <;> simp [run, h0]
  | cons a l ih =>
    intro v n v' n' h
    by_cases h0 : nxt a (n + 1) = 0
    · rw [run_open _ h0] at h
      rw [List.cons_append, run_open _ h0]
      exact ih _ _ _ _ h
    · rw [run_shut _ h0] at h
      simp at h
      exact absurd h.2.2 h0
/-- What is open has taken all bytes, and fewer than four. -/
theorem run_zero : ∀ (l : List UInt8) (v n v' n' : Nat), n < 4 → v < 128 ^ n → run v n l = (v', n', 0) → n' = n + l.length ∧ n' < 4 ∧ v' < 128 ^ n' := by
  intro l
  induction l with
  | nil => intro v n v' n' hn hv h; simp [run] at h; obtain ⟨rfl, rfl⟩ := h; exact ⟨by simp, hn, hv⟩
  | cons a l ih =>
    intro v n v' n' hn hv h
    by_cases h0 : nxt a (n + 1) = 0
    · rw [run_open _ h0] at h
      have h4 := (nxt_zero.1 h0).2
      obtain ⟨e, h2, h3⟩ := ih _ _ _ _ (by omega) (grow_lt a hv) h
      exact ⟨by simp; omega, h2, h3⟩
    · rw [run_shut _ h0] at h
      simp at h
      exact absurd h.2.2 h0
theorem run_state : ∀ (l : List UInt8) (v n : Nat), (run v n l).2.2 = 0 ∨ (run v n l).2.2 = 1 ∨ (run v n l).2.2 = 2 := by
  intro l
  induction l with
  | nil => intro v n; simp [run]
  | cons a l ih =>
    intro v n
    by_cases h0 : nxt a (n + 1) = 0
    · rw [run_open _ h0]; exact ih _ _
    · rw [run_shut _ h0]; exact nxt_cases _ _

/-- What is read: the number, how many bytes it has, and the error. -/
def rdV (l : List UInt8) : Nat := if (run 0 0 l).2.2 = 1 then (run 0 0 l).1 else 0
def rdN (l : List UInt8) : Nat := if (run 0 0 l).2.2 = 1 then (run 0 0 l).2.1 else 0
def rdE (l : List UInt8) : Nat := if (run 0 0 l).2.2 = 0 then 3 else if (run 0 0 l).2.2 = 1 then 0 else 5
theorem rd_of {l : List UInt8} {v n st : Nat} (h : run 0 0 l = (v, n, st)) : rdV l = (if st = 1 then v else 0) ∧ rdN l = (if st = 1 then n else 0) ∧ rdE l = if st = 0 then 3 else if st = 1 then 0 else 5 := by
  simp [rdV, rdN, rdE, h]

/-- How many bytes a number has: 0 if it can't be represented. -/
def sz (n : Int) : Nat := if n < 0 ∨ 268435455 < n then 0 else if n < 128 then 1 else if n < 16384 then 2 else if n < 2097152 then 3 else 4
/-- Byte i of the c bytes of n. -/
def byt (n c i : Nat) : UInt8 := UInt8.ofNat (n / 128 ^ i % 128 + if i + 1 < c then 128 else 0)
def vb (n c : Nat) : List UInt8 := (List.range c).map (byt n c)
theorem vb_length (n c : Nat) : (vb n c).length = c := by simp [vb]
theorem byt_toNat (n c i : Nat) : (byt n c i).toNat = n / 128 ^ i % 128 + if i + 1 < c then 128 else 0 := by
  unfold byt
  have : n / 128 ^ i % 128 < 128 := Nat.mod_lt _ (by decide)
  simp only [UInt8.toNat_ofNat']
  split <;> omega
theorem sz_cases (n : Nat) (h : n ≤ 268435455) : (sz n = 1 ∧ n < 128) ∨ (sz n = 2 ∧ 128 ≤ n ∧ n < 16384) ∨ (sz n = 3 ∧ 16384 ≤ n ∧ n < 2097152) ∨ (sz n = 4 ∧ 2097152 ≤ n) := by
  unfold sz; split
  · omega
  · split
    · omega
    · split
      · omega
      · split <;> omega
theorem sz_zero {n : Int} : sz n = 0 ↔ n < 0 ∨ 268435455 < n := by
  unfold sz; split
  · simp [*]
  · split
    · simp [*]
    · split
      · simp [*]
      · split <;> simp [*]

theorem byt_more (n c k : Nat) (hc : c ≤ 4) (hk : k + 1 < c) : nxt (byt n c k) (k + 1) = 0 ∧ grow (n % 128 ^ k) k (byt n c k) = n % 128 ^ (k + 1) := by
  have e := byt_toNat n c k
  rw [if_pos (by omega)] at e
  refine ⟨nxt_zero.2 ⟨by omega, by omega⟩, ?_⟩
  unfold grow
  rw [e, Nat.pow_succ, Nat.mod_mul, Nat.add_mod_right, Nat.mod_mod, Nat.mul_comm]
theorem byt_last (n k : Nat) (hn : n ≤ 268435455) (hk : k + 1 = sz n) : nxt (byt n (sz n) k) (k + 1) = 1 ∧ grow (n % 128 ^ k) k (byt n (sz n) k) = n := by
  have hs := sz_cases n hn
  rw [← hk] at hs ⊢
  have hlt : n < 128 ^ (k + 1) := by
    rcases hs with ⟨h, _⟩ | ⟨h, _⟩ | ⟨h, _⟩ | ⟨h, _⟩ <;> (obtain rfl := Nat.succ.inj h; simp; omega)
  have hge : k = 0 ∨ 128 ^ k ≤ n := by
    rcases hs with ⟨h, _⟩ | ⟨h, _⟩ | ⟨h, _⟩ | ⟨h, _⟩ <;> (obtain rfl := Nat.succ.inj h; simp; try omega)
  have e := byt_toNat n (k + 1) k
  rw [if_neg (by omega)] at e
  have hd : n / 128 ^ k < 128 := by
    rw [Nat.div_lt_iff_lt_mul (Nat.pow_pos (by decide))]; rw [Nat.pow_succ] at hlt; omega
  refine ⟨nxt_one.2 ⟨by omega, ?_⟩, ?_⟩
  · rcases hge with h | h
    · right; omega
    · left
      have : 0 < n / 128 ^ k := Nat.div_pos h (Nat.pow_pos (by decide))
      omega
  · unfold grow
    rw [e]
    have := Nat.mod_add_div n (128 ^ k)
    rw [Nat.add_zero, Nat.mod_eq_of_lt hd, Nat.mod_eq_of_lt hd, Nat.mul_comm]
    exact this

/-- The first i bytes leave a reader open, with the number modulo 128 to the power of i. -/
theorem run_front (n c : Nat) (hc : c ≤ 4) : ∀ i, i < c → ∀ t, run 0 0 ((List.range i).map (byt n c) ++ t) = run (n % 128 ^ i) i t := by
  intro i
  induction i with
  | zero => intro _ t; simp [Nat.mod_one]
  | succ i ih =>
    intro hi t
    obtain ⟨h0, hg⟩ := byt_more n c i hc hi
    rw [List.range_succ, List.map_append, List.append_assoc, ih (by omega)]
    show run _ _ (byt n c i :: t) = _
    rw [run_open _ h0, hg]

theorem run_vb (n : Nat) (hn : n ≤ 268435455) (t : List UInt8) : run 0 0 (vb n (sz n) ++ t) = (n, sz n, 1) := by
  have hs := sz_cases n hn
  obtain ⟨c, hc⟩ : ∃ c, sz n = c + 1 := ⟨sz n - 1, by omega⟩
  obtain ⟨h1, hg⟩ := byt_last n c hn hc.symm
  rw [hc] at h1 hg ⊢
  unfold vb
  rw [List.range_succ, List.map_append, List.append_assoc, run_front n (c + 1) (by omega) c (by omega)]
  show run _ _ (byt n (c + 1) c :: t) = _
  rw [run_shut _ (by rw [h1]; decide), h1, hg]

/-- The bytes of no number begin those of another one. -/
theorem vb_front (n m : Nat) (hn : n ≤ 268435455) (hm : m ≤ 268435455) (h : (vb m (sz m)).take (sz n) = vb n (sz n)) : n = m := by
  have h1 := run_vb m hm []
  have h2 := run_vb n hn ((vb m (sz m)).drop (sz n))
  rw [← h, List.take_append_drop] at h2
  rw [List.append_nil, h2] at h1
  simp only [Prod.mk.injEq] at h1
  exact h1.1

/-- What is read as a number is written as the same: its bytes begin the string. -/
theorem run_back (l : List UInt8) (v n : Nat) (h : run 0 0 l = (v, n, 1)) : v ≤ 268435455 ∧ n = sz v ∧ n ≤ l.length ∧ l.take n = vb v n := by
  have ofb : ∀ (a : UInt8) (x c i : Nat), a.toNat = (x / 128 ^ i % 128 + if i + 1 < c then 128 else 0) → a = byt x c i := fun a x c i e => UInt8.toNat_inj.1 (by rw [byt_toNat, e])
  cases l with
  | nil => simp [run] at h
  | cons a l =>
    have ha := a.toNat_lt
    by_cases ha0 : nxt a (0 + 1) = 0
    · rw [run_open _ ha0] at h
      have ha1 := (nxt_zero.1 ha0).1
      cases l with
      | nil => simp [run] at h
      | cons b l =>
        have hb := b.toNat_lt
        by_cases hb0 : nxt b (0 + 1 + 1) = 0
        · rw [run_open _ hb0] at h
          have hb1 := (nxt_zero.1 hb0).1
          cases l with
          | nil => simp [run] at h
          | cons c l =>
            have hc := c.toNat_lt
            by_cases hc0 : nxt c (0 + 1 + 1 + 1) = 0
            · rw [run_open _ hc0] at h
              have hc1 := (nxt_zero.1 hc0).1
              cases l with
              | nil => simp [run] at h
              | cons d l =>
                have hd := d.toNat_lt
                by_cases hd0 : nxt d (0 + 1 + 1 + 1 + 1) = 0
                · exact absurd (nxt_zero.1 hd0).2 (by decide)
                · rw [run_shut _ hd0] at h
                  simp only [Prod.mk.injEq] at h
                  obtain ⟨hv, rfl, h1⟩ := h
                  have h2 := nxt_one.1 h1
                  have e : v = a.toNat % 128 + b.toNat % 128 * 128 + c.toNat % 128 * 16384 + d.toNat * 2097152 := by rw [← hv]; simp [grow]; omega
                  clear hv
                  refine ⟨by omega, by unfold sz; rw [if_neg (by omega), if_neg (by omega), if_neg (by omega), if_neg (by omega)], by simp, ?_⟩
                  simp [vb, List.range_succ]
                  exact ⟨ofb _ _ _ _ (by simp; omega), ofb _ _ _ _ (by simp; omega), ofb _ _ _ _ (by simp; omega), ofb _ _ _ _ (by simp; omega)⟩
            · rw [run_shut _ hc0] at h
              simp only [Prod.mk.injEq] at h
              obtain ⟨hv, rfl, h1⟩ := h
              have h2 := nxt_one.1 h1
              have e : v = a.toNat % 128 + b.toNat % 128 * 128 + c.toNat * 16384 := by rw [← hv]; simp [grow]; omega
              clear hv
              refine ⟨by omega, by unfold sz; rw [if_neg (by omega), if_neg (by omega), if_neg (by omega), if_pos (by omega)], by simp, ?_⟩
              simp [vb, List.range_succ]
              exact ⟨ofb _ _ _ _ (by simp; omega), ofb _ _ _ _ (by simp; omega), ofb _ _ _ _ (by simp; omega)⟩
        · rw [run_shut _ hb0] at h
          simp only [Prod.mk.injEq] at h
          obtain ⟨hv, rfl, h1⟩ := h
          have h2 := nxt_one.1 h1
          have e : v = a.toNat % 128 + b.toNat * 128 := by rw [← hv]; simp [grow]; omega
          clear hv
          refine ⟨by omega, by unfold sz; rw [if_neg (by omega), if_neg (by omega), if_pos (by omega)], by simp, ?_⟩
          simp [vb, List.range_succ]
          exact ⟨ofb _ _ _ _ (by simp; omega), ofb _ _ _ _ (by simp; omega)⟩
    · rw [run_shut _ ha0] at h
      simp only [Prod.mk.injEq] at h
      obtain ⟨hv, rfl, h1⟩ := h
      have h2 := nxt_one.1 h1
      have e : v = a.toNat := by rw [← hv]; simp [grow]; omega
      clear hv
      refine ⟨by omega, by unfold sz; rw [if_neg (by omega), if_pos (by omega)], by simp, ?_⟩
      simp [vb, List.range_succ]
      exact ofb _ _ _ _ (by simp; omega)
end Go.Proofs.YtaahhbjnflimnaaGreat
