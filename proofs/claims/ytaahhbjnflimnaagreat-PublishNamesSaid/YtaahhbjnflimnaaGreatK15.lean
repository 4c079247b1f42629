/-
  A list of strings as it lies in memory. No condition.
  A string made of an owned row of bytes. No condition.
  The contracts of what tells whether a code point begins: strings.HasPrefix at the replacement's bytes, begins, and utf8.RuneLen. No condition but the length of a string.
-/
import Derived.Test.YtaahhbjnflimnaaGreatK13
import Derived.Test.YtaahhbjnflimnaaGreatK05
namespace Go.Proofs.YtaahhbjnflimnaaGreat
open Go.RowKit

/-- A list of strings as cells. -/
def strs (ls : List (List UInt8)) : List Value := ls.map fun l => .string (bs l)
/-- The list of strings ls lies behind the address A. -/
def SR (W : World) (A : Option Addr) (ls : List (List UInt8)) : Prop :=
  ls ≠ [] → ∃ g i, A = some ⟨g, i, none⟩ ∧ g < W.heap.size ∧ ∀ j, j < ls.length → W.cell? ⟨g, i + j, none⟩ = some (.string (bs (ls.getD j [])))
theorem SR.kept {W W' : World} {A : Option Addr} {ls : List (List UInt8)} (h : SR W A ls) (hb : Below W.heap.size W W') : SR W' A ls := fun hne => by
  obtain ⟨g, i, e, hg, hc⟩ := h hne
  exact ⟨g, i, e, Nat.lt_of_lt_of_le hg hb.size, fun j hj => (hb.cell (p := ⟨g, i + j, none⟩) hg).trans (hc j hj)⟩
theorem SR.draws {W : World} {A : Option Addr} {ls : List (List UInt8)} (h : SR W A ls) (n : Nat) : SR (W.drewN n) A ls := h
theorem SR.nil {W : World} {A : Option Addr} : SR W A [] := fun h => absurd rfl h
theorem strs_get (ls : List (List UInt8)) (j : Nat) (h : j < ls.length) : (strs ls).toArray[j]? = some (.string (bs (ls.getD j []))) := by
  simp [strs, List.getD, List.getElem?_eq_getElem h]
theorem SR.alloc {W : World} {ls : List (List UInt8)} (t : TypeId) : SR (W.alloc (.cells (strs ls).toArray t)) (some ⟨W.heap.size, 0, none⟩) ls := fun _ =>
  ⟨_, _, rfl, by simp, fun j hj => by rw [Nat.zero_add, World.cell?_alloc_at _ _ _ _ rfl]; exact strs_get ls j hj⟩
theorem bs_mk (s : ByteArray) : bs s.data.toList = s := rfl
theorem bs_data (l : List UInt8) : (bs l).data.toList = l := rfl
theorem bs_size (l : List UInt8) : (bs l).size = l.length := by simp [bs, ByteArray.size]
end Go.Proofs.YtaahhbjnflimnaaGreat
namespace Go.Proofs.YtaahhbjnflimnaaGreat
open Go.RowKit

theorem info5 : (Tryz.prog.info? 5).map (fun i => (i.zero, i.size, i.bytes)) = some (some (.int .u8 0), 1, 1) := by kernel_rfl

theorem conv_own {w : World} {base : Nat} {v : Value} {n : Nat} (l : List UInt8) (h : w.ownsRow base 5 1 v n (l.map u8v)) :
    (convert 51 9 v).run Tryz.prog w = .ok (.string (bs l)) w := by
  have hl : l.length = n := by have := h.1; simpa using this
  rcases h.2 with ⟨rfl, hn⟩ | ⟨g, cap, cur, rfl, _⟩
  · have : l = [] := List.eq_nil_of_length_eq_zero (by omega)
    subst this
    exact run_convert_bytes_nil w 51 5 Tryz.underlying51 Tryz.underlying5 0 0 9 Tryz.underlying9
  · have hc := h.cells (g := g) rfl
    have e := run_convert_bytes_arg (P := Tryz.prog) w 51 5 Tryz.underlying51 Tryz.underlying5 g 0 n cap (l.map fun b => (b.toNat : Int)) (by simp [hl]) (fun i hi => by
      have := hc i (u8v (l.getD i 0)) (by simp [List.getElem?_eq_getElem (show i < l.length by omega)])
      have hadd : (⟨g, 0, none⟩ : Addr).add i = ⟨g, 0 + i, none⟩ := by unfold Addr.add; split <;> simp_all
      rw [hadd] at this
      rw [this]
      simp [u8v, List.getD, List.getElem?_eq_getElem (show i < l.length by omega)]) 9 Tryz.underlying9
    rw [e]
    simp [bs, strOfNums, Function.comp_def]

end Go.Proofs.YtaahhbjnflimnaaGreat
namespace Go.Proofs.YtaahhbjnflimnaaGreat
open Go.RowKit

theorem bs_of (s : ByteArray) : bs s.data.toList = s := rfl
theorem size_list (s : ByteArray) : s.size = s.data.toList.length := by simp

theorem cb_fffd : cb 65533 = [239, 191, 189] := by decide
/-- Whether the bytes of U+FFFD stand ahead. -/
theorem extract3 (s : ByteArray) : ((s.extract 0 3).toList == [239, 191, 189]) = decide (s.data.toList.take 3 = [239, 191, 189]) := by
  rw [toList_data]
  have : (s.extract 0 3).data.toList = s.data.toList.take 3 := by simp [List.extract_eq_take_drop]
  rw [this, Bool.eq_iff_iff]
  simp

theorem has_yes (s : ByteArray) (w : World) (h : ∃ r, s.data.toList = [239, 191, 189] ++ r) :
    Calls Tryz.prog 260 #[.string s, .string ⟨#[239, 191, 189]⟩] w fun e w' => e = .returned (.bool true) ∧ w = w' := by
  obtain ⟨r, h⟩ := h
  have h3 : 3 ≤ s.size := by rw [size_list, h]; simp
  have hq : ((s.extract 0 3).toList == [239, 191, 189]) = true := by rw [extract3, h]; simp
  go_enter Tryz.func260, Tryz.ntmps260
  go_wp2
  go_ret
  exact ⟨rfl, rfl⟩
theorem has_no (s : ByteArray) (w : World) (h : ¬ ∃ r, s.data.toList = [239, 191, 189] ++ r) :
    Calls Tryz.prog 260 #[.string s, .string ⟨#[239, 191, 189]⟩] w fun e w' => e = .returned (.bool false) ∧ w = w' := by
  by_cases h3 : 3 ≤ s.size
  · have hq : ((s.extract 0 3).toList == [239, 191, 189]) = false := by
      rw [extract3, decide_eq_false_iff_not]
      intro e
      exact h ⟨s.data.toList.drop 3, by rw [← e]; exact (List.take_append_drop 3 _).symm⟩
    go_enter Tryz.func260, Tryz.ntmps260
    go_wp2
    go_ret
    exact ⟨rfl, rfl⟩
  · have h4 : s.size < 3 := by omega
    clear h3
    go_enter Tryz.func260, Tryz.ntmps260
    go_wp2
    go_ret
    exact ⟨rfl, rfl⟩
theorem has_any (s : ByteArray) (w : World) (b : Bool) (h : b = true ↔ ∃ r, s.data.toList = [239, 191, 189] ++ r) :
    Calls Tryz.prog 241 #[.string s, .string ⟨#[239, 191, 189]⟩] w fun e w' => e = .returned (.bool b) ∧ w = w' := by
  have hc : Calls Tryz.prog 260 #[.string s, .string ⟨#[239, 191, 189]⟩] w fun e w' => e = .returned (.bool b) ∧ w = w' := by
    cases b with
    | true => exact has_yes s w (h.1 rfl)
    | false => exact has_no s w (fun e => by cases h.2 e)
  have hc := Lib.hid hc
  go_enter Tryz.func241, Tryz.ntmps241
  go_wp2_with fail
  refine (hc.out).mono ?_
  rintro e W ⟨rfl, rfl⟩
  go_wp2_with fail
  go_ret
  exact ⟨rfl, rfl⟩

/-- begins, of a code point that is not U+FFFD. -/
theorem begins_other (s : ByteArray) (c : Nat) (w : World) (hc : c ≠ 65533) (hm : c < 2147483648) :
    Calls Tryz.prog 217 #[.string s, .int .i32 c] w fun e w' => e = .returned (.bool (decide (c ≠ 0))) ∧ w = w' := by
  have h1 : ¬ (c : Int) = 65533 := by omega
  by_cases h0 : c = 0
  · subst h0
    go_enter Tryz.func217, Tryz.ntmps217
    go_wp2
    go_ret
    exact ⟨rfl, rfl⟩
  · have h2 : ¬ (c : Int) = 0 := by omega
    have e : decide (c ≠ 0) = true := by simp [h0]
    rw [e]
    go_enter Tryz.func217, Tryz.ntmps217
    go_wp2
    go_ret
    exact ⟨by simp [h0], rfl⟩
theorem begins_fffd (s : ByteArray) (b : Bool) (w : World) (h : b = true ↔ ∃ r, s.data.toList = [239, 191, 189] ++ r) :
    Calls Tryz.prog 217 #[.string s, .int .i32 65533] w fun e w' => e = .returned (.bool b) ∧ w = w' := by
  have hc := Lib.hid (has_any s w b h)
  clear h
  go_enter Tryz.func217, Tryz.ntmps217
  go_wp2_with fail
  refine (hc.out).mono ?_
  rintro e W ⟨rfl, rfl⟩
  go_wp2_with fail
  go_ret
  exact ⟨rfl, rfl⟩
theorem begins_yes (s : ByteArray) (c : Nat) (w : World) (h : hd s.data.toList = some c) :
    Calls Tryz.prog 217 #[.string s, .int .i32 c] w fun e w' => e = .returned (.bool true) ∧ w = w' := by
  obtain ⟨ho, r, hr⟩ := hd_some h
  by_cases hc : c = 65533
  · subst hc
    exact begins_fffd s true w ⟨fun _ => ⟨r, by rw [hr, cb_fffd]⟩, fun _ => rfl⟩
  · have hb := begins_other s c w hc (by have := ho.2; omega)
    have e : decide (c ≠ 0) = true := by have := ho.1; simp; omega
    rwa [e] at hb
theorem begins_no (s : ByteArray) (w : World) (h0 : s.data.toList ≠ []) (h : hd s.data.toList = none) :
    Calls Tryz.prog 217 #[.string s, .int .i32 (dl s.data.toList).1] w fun e w' => e = .returned (.bool false) ∧ w = w' := by
  rcases hd_none h0 h with hc | hc
  · rw [hc]
    refine begins_fffd s false w ⟨fun e => (by cases e), fun ⟨r, hr⟩ => ?_⟩
    rw [← cb_fffd] at hr
    rw [hr, hd_cb (by unfold okc; omega)] at h
    cases h
  · rw [hc]
    exact begins_other s 0 w (by decide) (by decide)

/-- utf8.RuneLen, of a code point that may be there. -/
theorem runelen (c : Nat) (w : World) (h : okc c) :
    Calls Tryz.prog 184 #[.int .i32 c] w fun e w' => e = .returned (.int .i64 (cb c).length) ∧ w = w' := by
  obtain ⟨h0, h1⟩ := h
  have hz : ¬ (c : Int) < 0 := by omega
  rw [cb_length]
  by_cases h2 : c < 128
  · rw [if_pos h2]
    have k2 : (c : Int) ≤ 127 := by omega
    clear h1 h2
    go_enter Tryz.func184, Tryz.ntmps184
    go_wp2
    go_ret
    exact ⟨rfl, rfl⟩
  rw [if_neg h2]
  have k2 : ¬ (c : Int) ≤ 127 := by omega
  by_cases h3 : c < 2048
  · rw [if_pos h3]
    have k3 : (c : Int) ≤ 2047 := by omega
    clear h1 h2 h3
    go_enter Tryz.func184, Tryz.ntmps184
    go_wp2
    go_ret
    exact ⟨rfl, rfl⟩
  rw [if_neg h3]
  have k3 : ¬ (c : Int) ≤ 2047 := by omega
  by_cases h4 : c < 65536
  · rw [if_pos h4]
    have k4 : (c : Int) ≤ 65535 := by omega
    by_cases h5 : c < 55296
    · have k5 : ¬ 55296 ≤ (c : Int) := by omega
      clear h1 h2 h3 h4 h5
      go_enter Tryz.func184, Tryz.ntmps184
      go_wp2
      go_ret
      exact ⟨rfl, rfl⟩
    · have k5 : 55296 ≤ (c : Int) := by omega
      have k6 : ¬ (c : Int) ≤ 57343 := by omega
      clear h1 h2 h3 h4 h5
      go_enter Tryz.func184, Tryz.ntmps184
      go_wp2
      go_ret
      exact ⟨rfl, rfl⟩
  rw [if_neg h4]
  have k4 : ¬ (c : Int) ≤ 65535 := by omega
  have k5 : 55296 ≤ (c : Int) := by omega
  have k6 : ¬ (c : Int) ≤ 57343 := by omega
  have k7 : (c : Int) ≤ 1114111 := by omega
  clear h1 h2 h3 h4
  go_enter Tryz.func184, Tryz.ntmps184
  go_wp2
  go_ret
  exact ⟨rfl, rfl⟩
end Go.Proofs.YtaahhbjnflimnaaGreat
