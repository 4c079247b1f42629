/-
  The contract of prop.Read, as a law's walk wants it. Condition: the bytes are no more than an int says.
-/
import Derived.Test.YtaahhbjnflimnaaGreatK47
namespace Go.Proofs.YtaahhbjnflimnaaGreat
open Go.RowKit

theorem read_err {kind : Int} {s : List UInt8} (h : (readP kind s).2.2 ≠ 0) : readP kind s = ([], 0, (readP kind s).2.2) := by
  unfold readP at *
  repeat' split
  all_goals first | rfl | skip
  all_goals
    rename_i h1 h2 h3 h4
    rw [if_neg h1, if_neg h2, if_neg h3, if_neg h4] at h
    exact absurd rfl h
theorem bs_take (s : ByteArray) (k : Nat) : bs (s.data.toList.take k) = s.extract 0 k := by
  apply ByteArray.ext
  apply Array.ext'
  simp [bs, List.extract_eq_take_drop]
/-- What Read gives, as a law's walk wants it. -/
theorem prop_read_form (kind : Int) (s : ByteArray) (L : List Pr) (k F : Nat) (hk0 : -9223372036854775808 ≤ kind) (hk1 : kind ≤ 9223372036854775807) (hm : s.size ≤ 9223372036854775807) (hq : readP kind s.data.toList = (L, k, F)) (W : World) :
    Calls Tryz.prog 143 #[.int .i64 kind, .string s] W fun e W' => Below W.heap.size W W' ∧ ∃ A c, e = .returned (.tuple #[.slice A L.length c, .int .i64 (k : Nat), .int .i64 (F : Nat)]) ∧ L.length ≤ c ∧ PL W' A L ∧ (∀ p ∈ L, PrOk p) ∧ L.length ≤ 1000 := by
  have := prop_read_any kind s W hk0 hk1 hm
  rw [hq] at this
  refine this.mono fun e W' ⟨hb, ok, hl, v, he, ho⟩ => ⟨hb, ?_⟩
  obtain ⟨A, c, rfl, hc, hP, _⟩ := PL.owned ho rfl
  exact ⟨A, c, he, hc, hP, ok, hl⟩
end Go.Proofs.YtaahhbjnflimnaaGreat
