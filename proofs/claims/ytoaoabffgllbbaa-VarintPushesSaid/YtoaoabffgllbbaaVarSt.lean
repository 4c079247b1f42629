/-
  What a law that makes readers keeps in hand: what was there before the call has not turned, and what the reader is. No condition.
-/
import Derived.Test.YtoaoabffgllbbaaVarLive
namespace Go.Proofs.Ytoaoabffgllbbaa
open Go.RowKit

/-- Since w the call has made reader R, and turned nothing that was there. -/
def VSt (w W : World) (R v n st : Nat) : Prop := Below w.heap.size w W ∧ w.heap.size ≤ R ∧ Rd W R v n st

section
variable {w W W' : World} {R v n st v' n' st' : Nat} {g : FuncId} {args : Array Value} {x : Value}
theorem VSt.step (h : VSt w W R v n st) (hc : Rd W' R v' n' st') (hg : W.grownBy W' (some R)) : VSt w W' R v' n' st' :=
  ⟨h.1.grown hg h.1.size (fun k hk => by cases hk; exact h.2.1), h.2.1, hc⟩
theorem VSt.below (h : VSt w W R v n st) (hb : Below W.heap.size W W') : VSt w W' R v n st :=
  ⟨h.1.trans (hb.mono h.1.size), h.2.1, h.2.2.of_block (hb.block R h.2.2.lt)⟩
theorem vst_new (h : Below w.heap.size w W) : Calls Try.prog 11 #[] W fun e W' => ∃ R, e = .returned (.pointer (some ⟨R, 0, none⟩)) ∧ VSt w W' R 0 0 0 :=
  (rd_new W).mono fun _ _ ⟨he, hc, hb⟩ => ⟨_, he, h.trans (hb.mono h.size), h.size, hc⟩
theorem vst_mut (h : VSt w W R v n st) (hcall : Calls Try.prog g args W fun e W' => e = .returned x ∧ Rd W' R v' n' st' ∧ W.grownBy W' (some R)) :
    Calls Try.prog g args W fun e W' => e = .returned x ∧ VSt w W' R v' n' st' := hcall.mono fun _ _ ⟨he, hc, hg⟩ => ⟨he, h.step hc hg⟩
theorem vst_made (h : VSt w W R v n st) (hcall : Calls Try.prog g args W fun e W' => e = .returned x ∧ Below W.heap.size W W') :
    Calls Try.prog g args W fun e W' => e = .returned x ∧ VSt w W' R v n st := hcall.mono fun _ _ ⟨he, hb⟩ => ⟨he, h.below hb⟩
theorem vst_same (h : VSt w W R v n st) (hcall : Calls Try.prog g args W fun e W' => e = .returned x ∧ W = W') :
    Calls Try.prog g args W fun e W' => e = .returned x ∧ VSt w W' R v n st := hcall.mono fun _ _ ⟨he, hw⟩ => ⟨he, hw ▸ h⟩
end
end Go.Proofs.Ytoaoabffgllbbaa
