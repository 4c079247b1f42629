/-
  What a law that makes cursors keeps in hand: what was there before the call has not turned, and what the cursor is. No condition.
-/
import Derived.Test.YtgdaojihpjfjiaaOctCur
namespace Go.Proofs.Ytgdaojihpjfjiaa
open Go.RowKit

/-- Since w the call has made cursor B, and turned nothing that was there. -/
def St (w W : World) (B : Nat) (s : ByteArray) (i : Nat) (e : Int) : Prop := Below w.heap.size w W ∧ w.heap.size ≤ B ∧ Cur W B s i e
def St2 (w W : World) (B : Nat) (s : ByteArray) (i : Nat) (e : Int) (D : Nat) (t : ByteArray) (j : Nat) (f : Int) : Prop := St w W B s i e ∧ St w W D t j f ∧ B ≠ D

section
variable {w W W' : World} {B D : Nat} {s t : ByteArray} {i i' j j' : Nat} {e e2 f f2 : Int} {g : FuncId} {args : Array Value} {v v' : Value}
theorem St.draws (h : St w W B s i e) (n : Nat) : St w (W.drewN n) B s i e := ⟨below_draws h.1 n, h.2.1, h.2.2.draws n⟩
theorem St.step (h : St w W B s i e) (hc : Cur W' B s i' e2) (hg : W.grownBy W' (some B)) : St w W' B s i' e2 :=
  ⟨h.1.grown hg h.1.size (fun k hk => by cases hk; exact h.2.1), h.2.1, hc⟩
theorem St.other (h : St w W B s i e) (hD : w.heap.size ≤ D) (hne : B ≠ D) (hg : W.grownBy W' (some D)) : St w W' B s i e :=
  ⟨h.1.grown hg h.1.size (fun k hk => by cases hk; exact hD), h.2.1, h.2.2.of_block (hg.block B h.2.2.lt (fun e => hne (by injection e)))⟩
theorem St.below (h : St w W B s i e) (hb : Below W.heap.size W W') : St w W' B s i e :=
  ⟨h.1.trans (hb.mono h.1.size), h.2.1, h.2.2.of_block (hb.block B h.2.2.lt)⟩

theorem st_new (h : Below w.heap.size w W) (s : ByteArray) : Calls Try.prog 52 #[.string s] W fun e W' => ∃ B, e = .returned (.pointer (some ⟨B, 0, none⟩)) ∧ St w W' B s 0 0 :=
  (new_any s W).mono fun _ _ ⟨he, hc, hb, _⟩ => ⟨_, he, h.trans (hb.mono h.size), h.size, hc⟩
theorem st_new2 (h : St w W B s i e) (t : ByteArray) : Calls Try.prog 52 #[.string t] W fun e' W' => ∃ D, e' = .returned (.pointer (some ⟨D, 0, none⟩)) ∧ St2 w W' B s i e D t 0 0 :=
  (new_any t W).mono fun _ _ ⟨he, hc, hb, _⟩ => ⟨_, he, h.below hb, ⟨h.1.trans (hb.mono h.1.size), h.1.size, hc⟩, Nat.ne_of_lt h.2.2.lt⟩
theorem st_mut (h : St w W B s i e) (hv : v = v') (hcall : Calls Try.prog g args W fun e' W' => e' = .returned v ∧ Cur W' B s i' e2 ∧ W.grownBy W' (some B)) :
    Calls Try.prog g args W fun e' W' => e' = .returned v' ∧ St w W' B s i' e2 := hcall.mono fun _ _ ⟨he, hc, hg⟩ => ⟨hv ▸ he, h.step hc hg⟩
theorem st_quiet (h : St w W B s i e) (hv : v = v') (hcall : Calls Try.prog g args W fun e' W' => e' = .returned v ∧ ∃ n, W' = W.drewN n) :
    Calls Try.prog g args W fun e' W' => e' = .returned v' ∧ St w W' B s i e := hcall.mono fun _ _ ⟨he, n, hw⟩ => ⟨hv ▸ he, hw ▸ h.draws n⟩
theorem st_same (h : St w W B s i e) (hv : v = v') (hcall : Calls Try.prog g args W fun e' W' => e' = .returned v ∧ W = W') :
    Calls Try.prog g args W fun e' W' => e' = .returned v' ∧ St w W' B s i e := hcall.mono fun _ _ ⟨he, hw⟩ => ⟨hv ▸ he, hw ▸ h⟩
theorem st_mutD (h : St2 w W B s i e D t j f) (hv : v = v') (hcall : Calls Try.prog g args W fun e' W' => e' = .returned v ∧ Cur W' D t j' f2 ∧ W.grownBy W' (some D)) :
    Calls Try.prog g args W fun e' W' => e' = .returned v' ∧ St2 w W' B s i e D t j' f2 := hcall.mono fun _ _ ⟨he, hc, hg⟩ => ⟨hv ▸ he, h.1.other h.2.1.2.1 h.2.2 hg, h.2.1.step hc hg, h.2.2⟩
theorem st_quiet2 (h : St2 w W B s i e D t j f) (hv : v = v') (hcall : Calls Try.prog g args W fun e' W' => e' = .returned v ∧ ∃ n, W' = W.drewN n) :
    Calls Try.prog g args W fun e' W' => e' = .returned v' ∧ St2 w W' B s i e D t j f := hcall.mono fun _ _ ⟨he, n, hw⟩ => ⟨hv ▸ he, hw ▸ h.1.draws n, hw ▸ h.2.1.draws n, h.2.2⟩
theorem st_same2 (h : St2 w W B s i e D t j f) (hv : v = v') (hcall : Calls Try.prog g args W fun e' W' => e' = .returned v ∧ W = W') :
    Calls Try.prog g args W fun e' W' => e' = .returned v' ∧ St2 w W' B s i e D t j f := hcall.mono fun _ _ ⟨he, hw⟩ => ⟨hv ▸ he, hw ▸ h⟩
end

end Go.Proofs.Ytgdaojihpjfjiaa
