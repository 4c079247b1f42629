/-
  What prop.Read returns, as the caller reads it. Condition: the bytes are no more than an int says.
  What is read of a list of properties is no more than its fields may hold. No condition.
-/
import Derived.Test.YtaahhbjnflimnaaGreatK43
import Derived.Test.YtaahhbjnflimnaaGreatK42
import Derived.Test.YtaahhbjnflimnaaGreatK07
import Derived.Test.YtaahhbjnflimnaaGreatK11
import Derived.Test.YtaahhbjnflimnaaGreatK09
namespace Go.Proofs.YtaahhbjnflimnaaGreat
open Go.RowKit

theorem prop_read_far (kind : Int) (s : ByteArray) (L : List Pr) (k F : Nat) (hk0 : -9223372036854775808 ≤ kind) (hk1 : kind ≤ 9223372036854775807) (hm : s.size ≤ 9223372036854775807) (hq : readP kind s.data.toList = (L, k, F)) (W : World) :
    Calls Tryz.prog 143 #[.int .i64 kind, .string s] W fun e W' => Below W.heap.size W W' ∧ ∃ A c, e = .returned (.tuple #[.slice A L.length c, .int .i64 (k : Nat), .int .i64 (F : Nat)]) ∧ L.length ≤ c ∧ PL W' A L ∧ (∀ p ∈ L, PrOk p) ∧ L.length ≤ 1000 ∧ ∀ g i, A = some ⟨g, i, none⟩ → W.heap.size ≤ g := by
  have := prop_read_any kind s W hk0 hk1 hm
  rw [hq] at this
  refine this.mono fun e W' ⟨hb, ok, hl, v, he, ho⟩ => ⟨hb, ?_⟩
  obtain ⟨A, c, rfl, hc, hP, hg⟩ := PL.owned ho rfl
  exact ⟨A, c, he, hc, hP, ok, hl, hg⟩
end Go.Proofs.YtaahhbjnflimnaaGreat
namespace Go.Proofs.YtaahhbjnflimnaaGreat


theorem check_ok {kind : Int} {p : Pr} (h : checkP kind p = 0) : PrOk p ∧ p.text.length ≤ 65535 ∧ p.value.length ≤ 65535 := by
  obtain ⟨hm, h4, h5⟩ := check_parts h
  obtain ⟨_, h1, h2, _⟩ := size_one h
  obtain ⟨r1, r2⟩ := may_range hm
  obtain ⟨f0, f7, f1, f2, f3, f4, _⟩ := row_fits hm
  have hn : p.n < 4294967296 := by
    by_cases hs : shapeP p.id ≤ 4
    · have h6 := (h4 hs).2.2.2
      have hs4 : shapeP p.id = 1 ∨ shapeP p.id = 2 ∨ shapeP p.id = 3 ∨ shapeP p.id = 4 := by omega
      rcases hs4 with e | e | e | e
      · have := f1 e; omega
      · have := f2 e; omega
      · have := f3 e; omega
      · have := f4 e; omega
    · have := (h5 (by omega)).1; omega
  exact ⟨⟨by omega, by omega, hn, by omega, by omega⟩, h1, h2⟩
theorem read_ok (kind : Int) (s : List UInt8) : (∀ p ∈ (readP kind s).1, PrOk p ∧ p.text.length ≤ 65535 ∧ p.value.length ≤ 65535) ∧ (readP kind s).1.length ≤ 1000 := by
  by_cases h : (readP kind s).2.2 = 0
  · have hv := (read_back (show readP kind s = ((readP kind s).1, (readP kind s).2.1, 0) by rw [← h])).1
    obtain ⟨h1, h2, _⟩ := (valid_good _ _).1 hv
    exact ⟨fun p hp => check_ok (h2.1 p hp), h1⟩
  · rw [read_err h]
    exact ⟨fun p hp => (nomatch hp), Nat.zero_le _⟩
theorem props_fit (x : Cs) (v kind : Int) : (∀ p ∈ (x.props v kind).1, PrOk p ∧ p.text.length ≤ 65535 ∧ p.value.length ≤ 65535) ∧ (x.props v kind).1.length ≤ 1000 := by
  unfold Cs.props
  split
  · exact ⟨fun p hp => (nomatch hp), Nat.zero_le _⟩
  · exact read_ok _ _
end Go.Proofs.YtaahhbjnflimnaaGreat
