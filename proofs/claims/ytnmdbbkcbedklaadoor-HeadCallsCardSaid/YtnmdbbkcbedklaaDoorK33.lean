/-
  The contract of polyglotref01.Put at one to eight bytes. No condition.
-/
import Derived.Deep.LoopGhost
import Derived.Test.YtnmdbbkcbedklaaDoorK13
namespace Go.Proofs.YtnmdbbkcbedklaaDoor
open Go.RowKit

theorem shr_be_u (n j : Nat) (hn : n < 18446744073709551616) : Op.shift .shr .u64 (n : Int) .u64 ((8 * j : Nat) : Int) = pure (.int .u64 ((n / 256 ^ j : Nat) : Int)) := by
  have := shr_be n j hn
  rw [shift_shr_any _ _ _ _ (by omega)] at this ⊢
  exact this
set_option maxHeartbeats 1000000 in
set_option maxRecDepth 100000 in
theorem ref_put (n c : Nat) (w : World) (hn : n < 18446744073709551616) (h0 : 1 ≤ c) (h8 : c ≤ 8) :
    Calls Tryd.prog 50 #[.int .u64 n, .int .i64 c] w fun e w' => e = .returned (.string (bs (be n c))) ∧ Below w.heap.size w w' := by
  obtain ⟨i0, hi, hz0, hz1, hz2⟩ := info_parts info5
  have a1 : min (c : Int) 16 = (c : Int) := by omega
  have a2 : max (0 : Int) (c : Int) = (c : Int) := by omega
  have a6 : 0 < c := by omega
  have HN := Lib.hid hn
  have H8 := Lib.hid h8
  have a4 : (c : Int) ≤ 16 := by omega
  have a5 : (0 : Int) ≤ (c : Int) := by omega
  clear hn h8 h0
  go_enter Tryd.func50, Tryd.ntmps50
  go_wp2_with fail
  go_loopg [5, 6] c (fun gk v i wr => ∃ k : Nat, k ≤ c ∧ gk = c - k ∧ i = .int .i64 ((c : Int) - 1 - (k : Int)) ∧ wr.ownsRow w.heap.size 5 1 v k ((be (n / 256 ^ (c - k)) k).map u8v) ∧ Below w.heap.size w wr)
  case atStart => exact ⟨0, Nat.zero_le _, rfl, by simp, World.ownsRow_nil _ _ _ _, Below.refl _ _⟩
  case round =>
    obtain ⟨k, hk, rfl, rfl, hown, hb⟩ := hrel
    by_cases hlt : k < c
    · obtain ⟨j, hj⟩ : ∃ j : Nat, c = k + 1 + j := ⟨c - (k + 1), by omega⟩
      have hz : (c : Int) - 1 - (k : Int) = (j : Int) := by omega
      rw [hz]
      have hst := be_step n c k hlt
      have hsh0 := shr_be_u n j HN.out
      obtain ⟨q, hq⟩ : ∃ q : Nat, 8 * j = q := ⟨_, rfl⟩
      rw [hq] at hsh0
      have e1 : c - (k + 1) = j := by omega
      rw [e1] at hst
      generalize hm : n / 256 ^ j = m at hst hsh0
      have HM := Lib.hid (show n / 256 ^ (c - (k + 1)) = m by rw [e1]; exact hm)
      have HS := Lib.hid hst
      have hsh : Op.shift .shr .u64 (n : Int) .u64 (q : Int) = pure (.int .u64 (m : Int)) := hsh0
      have hj8 : j < 8 := by have := H8.out; omega
      have g1 : (0 : Int) ≤ (j : Int) := by omega
      have g2 : (j : Int) < 8 := by omega
      have g3 : IntKind.i64.wrap (8 * (j : Int)) = (q : Int) := by simp only [IntKind.wrap_i64]; omega
      have g4 : IntKind.u64.wrap (q : Int) = (q : Int) := by simp only [IntKind.wrap_u64]; omega
      obtain ⟨z, hz2⟩ : ∃ z : Int, (j : Int) - 1 = z := ⟨_, rfl⟩
      have g5 : IntKind.i64.wrap ((j : Int) - 1) = z := by simp only [IntKind.wrap_i64]; omega
      have HZ := Lib.hid (show z = (c : Int) - 1 - ((k + 1 : Nat) : Int) by omega)
      have HL := Lib.hid hlt
      have HB := Lib.hid hb
      have HO := Lib.hid (hown.alloc (.cells #[.int .u8 ((m : Int) % 256)] 5))
      have OL := Lib.hid (fun j hj => (hown.lt j hj).1)
      have hbs : w.heap.size ≤ wr.heap.size := hb.size
      have HK := Lib.hid (show k < 9 by have := H8.out; omega)
      clear hm hsh0 hst hj hz hj8 hq e1 hz2 hlt hk hown hb
      go_wp2_with (at_builtin; refine wpList_append_own _ rfl _ _ 106 rfl w.heap.size 5 i0 (.int .u8 0) 1 1 Tryd.underlying106 hi hz0 hz1 hz2 rfl (by decide) _ _ _ rfl HO.out ⟨wr.heap.size, 0, none⟩ 1 1 [.int .u8 ((m : Int) % 256)] rfl rfl ?c1 ?c2 ?c3 ?c4 ?c5 ?_)
      case c1 => intro j u hj; cases j <;> simp at hj; subst hj; exact World.cell?_alloc_at _ _ _ _ rfl
      case c2 => intro u hu; simp at hu; subst hu; rfl
      case c3 => have := HK.out; unfold maxLen; omega
      case c4 => have := HK.out; omega
      case c5 => simp; omega
      intro v' w1 hown' hgrow _
      have hb' : Below w.heap.size w w1 := (HB.out.alloc hbs _).grown hgrow (by simp; omega) (fun j hj => OL.out j hj)
      have hown2 : w1.ownsRow w.heap.size 5 1 v' (k + 1) ((be (n / 256 ^ (c - (k + 1))) (k + 1)).map u8v) := by
        rw [HM.out, HS.out]; simpa [u8v] using hown'
      have HB2 := Lib.hid hb'
      have HO2 := Lib.hid hown2
      clear hown' hgrow hown2 hb'
      go_wp2_with fail
      go_roundg (c - (k + 1))
      case measure => have := HL.out; omega
      case rel => exact ⟨k + 1, by have := HL.out; omega, rfl, by rw [HZ.out], HO2.out, HB2.out⟩
    · obtain rfl : k = c := by omega
      have hz : (k : Int) - 1 - (k : Int) = -1 := by omega
      rw [hz]
      have hcv := conv_own _ hown
      have e0 : n / 256 ^ (k - k) = n := by simp
      rw [e0] at hcv
      have HB := Lib.hid hb
      clear hown hb hz hlt hk e0
      go_wp2_with fail
      go_ret
      exact ⟨rfl, HB.out⟩
end Go.Proofs.YtnmdbbkcbedklaaDoor
