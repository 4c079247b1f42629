/-
  The walk of OctetParts. No condition but its arguments' own.
-/
import Derived.Test.YtecjlpkikagecaaOctSt
namespace Go.Proofs.Ytecjlpkikagecaa
open Go.RowKit

theorem extract_front (s : ByteArray) (j m : Nat) (h : j + m ≤ s.size) : (s.extract j s.size).extract 0 m = s.extract j (j + m) := by
  rw [ByteArray.extract_extract]
  congr 1 <;> omega

theorem app_nil (t : ByteArray) : t ++ (⟨#[]⟩ : ByteArray) = t := ByteArray.append_empty
theorem app_rest (s : ByteArray) (j : Nat) (h : j ≤ s.size) : s.extract 0 j ++ s.extract j s.size = s := by
  rw [ByteArray.extract_append_extract]
  simp

def PartsAt (w : World) (B : Nat) (s : ByteArray) (k : Nat) (wr : World) (all : Value) : Prop :=
  ∃ (j : Nat) (e : Int), all = .string (s.extract 0 j) ∧ j ≤ s.size ∧ St w wr B s j e ∧ (e = 0 ∨ e = 3)

set_option maxRecDepth 100000 in
set_option maxHeartbeats 1000000 in
theorem parts_round (w : World) (s : ByteArray) (A : Option Addr) (n cap : Nat) (zs : List Int) (hs : s.size ≤ 200) (hn : n ≤ 60)
    (hz : 0 < n → ∃ a, A = some a ∧ a.block < w.heap.size ∧ ∀ i, i < n → w.cell? (a.add i) = some (.int .i64 (zs.getD i 0)))
    (hr : ∀ i, -9223372036854775808 ≤ zs.getD i 0 ∧ zs.getD i 0 ≤ 9223372036854775807) :
    Calls Try.prog 6 #[.string s, .slice A n cap] w fun e w' => e = .returned (.bool true) ∧ Below w.heap.size w w' := by
  have HZ := Lib.hid hz
  have HR := Lib.hid hr
  clear hz hr
  go_enter Try.func6, Try.ntmps6
  go_wp2_with fail
  refine (lives_any _).mono ?_
  rintro e W ⟨rfl, h⟩
  go_wp2_with fail
  refine (st_new h _).mono ?_
  rintro e W ⟨B, rfl, h⟩
  go_wp2_with fail
  go_loopw [6, 7] (fun all i wr => ∃ k : Nat, k ≤ n ∧ i = .int .i64 k ∧ PartsAt w B s k wr all) (fun _ i _ => n - (intOf i).toNat)
  case atStart => exact ⟨0, Nat.zero_le _, rfl, 0, 0, by simp; rfl, Nat.zero_le _, h, .inl rfl⟩
  case round =>
    obtain ⟨k, hk, rfl, j, e, rfl, hj, hst, he⟩ := hrel
    by_cases hlt : k < n
    · obtain ⟨a, rfl, hab, hcell⟩ := HZ.out (by omega)
      have hz := HR.out k
      have HC : Hid (∀ W, Below w.heap.size w W → W.cell? (a.add k) = some (.int .i64 (zs.getD k 0))) := fun W hb => by
        rw [hb.cell (p := a.add k) (by unfold Addr.add; split <;> exact hab)]; exact hcell k hlt
      clear hcell
      generalize zs.getD k 0 = z at hz HC
      rcases he with rfl | rfl
      · by_cases h0 : 0 ≤ z
        · by_cases h1 : z ≤ ((s.size - j : Nat) : Int)
          · skip
            obtain ⟨m, rfl⟩ := Int.eq_ofNat_of_zero_le h0
            have hex : (s.extract j s.size).extract 0 m = s.extract j (j + m) := extract_front s j m (by omega)
            have hsz : ((s.extract j (j + m)).size : Int) = m := by simp; omega
            go_wp2_with fail
            refine (st_same hst rfl (err_yes hst.2.2)).mono ?_
            rintro e W ⟨rfl, hst⟩
            have hx := HC.out W hst.1
            go_wp2_with fail
            refine (st_quiet hst rfl (left_yes hst.2.2 (by omega) (by omega))).mono ?_
            rintro e W ⟨rfl, hst⟩
            have hx := HC.out W hst.1
            go_wp2_with fail
            refine (st_quiet hst rfl (peek_ok m hst.2.2 (by omega) (by omega))).mono ?_
            rintro e W ⟨rfl, hst⟩
            have hx := HC.out W hst.1
            go_wp2_with fail
            refine (st_quiet hst rfl (rest_yes hst.2.2 (by omega) (by omega))).mono ?_
            rintro e W ⟨rfl, hst⟩
            have hx := HC.out W hst.1
            go_wp2_with fail
            refine (st_mut hst rfl (take_ok m hst.2.2 (by omega) (by omega))).mono ?_
            rintro e W ⟨rfl, hst⟩
            have hx := HC.out W hst.1
            go_wp2_with fail
            refine (st_same hst rfl (err_yes hst.2.2)).mono ?_
            rintro e W ⟨rfl, hst⟩
            go_wp2_with fail
            refine (st_quiet hst rfl (left_yes hst.2.2 (by omega) (by omega))).mono ?_
            rintro e W ⟨rfl, hst⟩
            go_wp2_with fail
            go_roundw
            case rel => exact ⟨k + 1, by omega, by go_num, j + m, 0, by first | rfl | rw [app_nil], by omega, hst, .inl rfl⟩
            case measure => simp [intOf]; omega
          · skip
            go_wp2_with fail
            refine (st_same hst rfl (err_yes hst.2.2)).mono ?_
            rintro e W ⟨rfl, hst⟩
            have hx := HC.out W hst.1
            go_wp2_with fail
            refine (st_quiet hst rfl (left_yes hst.2.2 (by omega) (by omega))).mono ?_
            rintro e W ⟨rfl, hst⟩
            have hx := HC.out W hst.1
            go_wp2_with fail
            refine (st_quiet hst rfl (peek_past z hst.2.2 hj (by omega) (by omega))).mono ?_
            rintro e W ⟨rfl, hst⟩
            have hx := HC.out W hst.1
            go_wp2_with fail
            refine (st_quiet hst rfl (rest_yes hst.2.2 (by omega) (by omega))).mono ?_
            rintro e W ⟨rfl, hst⟩
            have hx := HC.out W hst.1
            go_wp2_with fail
            refine (st_mut hst rfl (take_past z hst.2.2 hj (by omega) (by omega))).mono ?_
            rintro e W ⟨rfl, hst⟩
            have hx := HC.out W hst.1
            go_wp2_with fail
            refine (st_same hst rfl (err_yes hst.2.2)).mono ?_
            rintro e W ⟨rfl, hst⟩
            go_wp2_with fail
            refine (st_quiet hst rfl (left_yes hst.2.2 (by omega) (by omega))).mono ?_
            rintro e W ⟨rfl, hst⟩
            go_wp2_with fail
            refine (st_same hst rfl (err_yes hst.2.2)).mono ?_
            rintro e W ⟨rfl, hst⟩
            go_wp2_with fail
            go_roundw
            case rel => exact ⟨k + 1, by omega, by go_num, j, 3, by first | rfl | rw [app_nil], by omega, hst, .inr rfl⟩
            case measure => simp [intOf]; omega
        · skip
          go_wp2_with fail
          refine (st_same hst rfl (err_yes hst.2.2)).mono ?_
          rintro e W ⟨rfl, hst⟩
          have hx := HC.out W hst.1
          go_wp2_with fail
          refine (st_quiet hst rfl (left_yes hst.2.2 (by omega) (by omega))).mono ?_
          rintro e W ⟨rfl, hst⟩
          have hx := HC.out W hst.1
          go_wp2_with fail
          refine (st_quiet hst rfl (peek_neg z hst.2.2 (by omega))).mono ?_
          rintro e W ⟨rfl, hst⟩
          have hx := HC.out W hst.1
          go_wp2_with fail
          refine (st_quiet hst rfl (rest_yes hst.2.2 (by omega) (by omega))).mono ?_
          rintro e W ⟨rfl, hst⟩
          have hx := HC.out W hst.1
          go_wp2_with fail
          refine (st_mut hst rfl (take_neg z hst.2.2 (by omega))).mono ?_
          rintro e W ⟨rfl, hst⟩
          have hx := HC.out W hst.1
          go_wp2_with fail
          refine (st_same hst rfl (err_yes hst.2.2)).mono ?_
          rintro e W ⟨rfl, hst⟩
          go_wp2_with fail
          refine (st_quiet hst rfl (left_yes hst.2.2 (by omega) (by omega))).mono ?_
          rintro e W ⟨rfl, hst⟩
          go_wp2_with fail
          refine (st_same hst rfl (err_yes hst.2.2)).mono ?_
          rintro e W ⟨rfl, hst⟩
          go_wp2_with fail
          go_roundw
          case rel => exact ⟨k + 1, by omega, by go_num, j, 3, by first | rfl | rw [app_nil], by omega, hst, .inr rfl⟩
          case measure => simp [intOf]; omega
      · skip
        go_wp2_with fail
        refine (st_same hst rfl (err_yes hst.2.2)).mono ?_
        rintro e W ⟨rfl, hst⟩
        have hx := HC.out W hst.1
        go_wp2_with fail
        refine (st_quiet hst rfl (left_yes hst.2.2 (by omega) (by omega))).mono ?_
        rintro e W ⟨rfl, hst⟩
        have hx := HC.out W hst.1
        go_wp2_with fail
        refine (st_quiet hst rfl (peek_err z hst.2.2 (by decide))).mono ?_
        rintro e W ⟨rfl, hst⟩
        have hx := HC.out W hst.1
        go_wp2_with fail
        refine (st_quiet hst rfl (rest_yes hst.2.2 (by omega) (by omega))).mono ?_
        rintro e W ⟨rfl, hst⟩
        have hx := HC.out W hst.1
        go_wp2_with fail
        refine (st_same hst rfl (take_err z hst.2.2 (by decide))).mono ?_
        rintro e W ⟨rfl, hst⟩
        have hx := HC.out W hst.1
        go_wp2_with fail
        refine (st_same hst rfl (err_yes hst.2.2)).mono ?_
        rintro e W ⟨rfl, hst⟩
        go_wp2_with fail
        refine (st_quiet hst rfl (left_yes hst.2.2 (by omega) (by omega))).mono ?_
        rintro e W ⟨rfl, hst⟩
        go_wp2_with fail
        go_roundw
        case rel => exact ⟨k + 1, by omega, by go_num, j, 3, by first | rfl | rw [app_nil], by omega, hst, .inr rfl⟩
        case measure => simp [intOf]; omega
    · skip
      have hsz : ((s.extract 0 j).size : Int) = j := by simp; omega
      go_wp2_with fail
      refine (st_quiet hst rfl (rest_yes hst.2.2 (by omega) (by omega))).mono ?_
      rintro e W ⟨rfl, hst⟩
      go_wp2_with fail
      refine (st_same hst rfl (at_yes hst.2.2)).mono ?_
      rintro e W ⟨rfl, hst⟩
      go_wp2_with fail
      go_ret
      exact ⟨rfl, hst.1⟩
end Go.Proofs.Ytecjlpkikagecaa
