/-
  A call's operation in a region, whatever it calls: it enters the function with its operands' values. Condition: the function has a body.
-/
import Derived.Deep.RegionHeld3
namespace Go.Proofs.YtjbgnlnchchgcaaDoor
namespace RegOps
section
variable {P : Program} {a : Act} {w : World} {d : Option Tmp} {p : String} {af : Array Edge} {gd : Option (Nat × Bool)} {r : TypeId} {ts : Array TypeId} {F : FuncId} {fn : Func} {o1 o2 o3 o4 o5 : Operand} {v1 v2 v3 v4 v5 : Value} (hF : P.funcs[F]? = some fn) (hn : (fn.name == "runtime.NumGoroutine" || fn.body.isNone) = false)
include hF hn
theorem calls_go (args : Array Value) : (callFunc F args).run P w = .ok (.enter F args) w := by
  rw [Bool.or_eq_false_iff] at hn
  have h1 : ¬ fn.name = "runtime.NumGoroutine" := by simpa using hn.1
  have h2 : ¬ fn.body = none := fun e => by have h := hn.2; rw [e] at h; cases h
  unfold callFunc
  simp [hF, h1, h2, go_sem]
theorem enter0 : (execOp a.eval { dst := d, op := .call { callee := .value (.func F), args := #[], argTypes := ts }, type := r, pos := p, after := af, guard := gd }).run P w = .ok (.enter F #[]) w := by
  change (callFunc F (#[] ++ #[].map a.eval ++ #[])).run P w = _
  simpa using calls_go hF hn _
theorem enter1 (h1 : a.eval o1 = v1) : (execOp a.eval { dst := d, op := .call { callee := .value (.func F), args := #[o1], argTypes := ts }, type := r, pos := p, after := af, guard := gd }).run P w = .ok (.enter F #[v1]) w := by
  subst h1
  change (callFunc F (#[] ++ #[o1].map a.eval ++ #[])).run P w = _
  simpa using calls_go hF hn _
theorem enter2 (h1 : a.eval o1 = v1) (h2 : a.eval o2 = v2) : (execOp a.eval { dst := d, op := .call { callee := .value (.func F), args := #[o1, o2], argTypes := ts }, type := r, pos := p, after := af, guard := gd }).run P w = .ok (.enter F #[v1, v2]) w := by
  subst h1
  subst h2
  change (callFunc F (#[] ++ #[o1, o2].map a.eval ++ #[])).run P w = _
  simpa using calls_go hF hn _
theorem enter3 (h1 : a.eval o1 = v1) (h2 : a.eval o2 = v2) (h3 : a.eval o3 = v3) : (execOp a.eval { dst := d, op := .call { callee := .value (.func F), args := #[o1, o2, o3], argTypes := ts }, type := r, pos := p, after := af, guard := gd }).run P w = .ok (.enter F #[v1, v2, v3]) w := by
  subst h1
  subst h2
  subst h3
  change (callFunc F (#[] ++ #[o1, o2, o3].map a.eval ++ #[])).run P w = _
  simpa using calls_go hF hn _
theorem enter4 (h1 : a.eval o1 = v1) (h2 : a.eval o2 = v2) (h3 : a.eval o3 = v3) (h4 : a.eval o4 = v4) : (execOp a.eval { dst := d, op := .call { callee := .value (.func F), args := #[o1, o2, o3, o4], argTypes := ts }, type := r, pos := p, after := af, guard := gd }).run P w = .ok (.enter F #[v1, v2, v3, v4]) w := by
  subst h1
  subst h2
  subst h3
  subst h4
  change (callFunc F (#[] ++ #[o1, o2, o3, o4].map a.eval ++ #[])).run P w = _
  simpa using calls_go hF hn _
theorem enter5 (h1 : a.eval o1 = v1) (h2 : a.eval o2 = v2) (h3 : a.eval o3 = v3) (h4 : a.eval o4 = v4) (h5 : a.eval o5 = v5) : (execOp a.eval { dst := d, op := .call { callee := .value (.func F), args := #[o1, o2, o3, o4, o5], argTypes := ts }, type := r, pos := p, after := af, guard := gd }).run P w = .ok (.enter F #[v1, v2, v3, v4, v5]) w := by
  subst h1
  subst h2
  subst h3
  subst h4
  subst h5
  change (callFunc F (#[] ++ #[o1, o2, o3, o4, o5].map a.eval ++ #[])).run P w = _
  simpa using calls_go hF hn _
end
end RegOps
end Go.Proofs.YtjbgnlnchchgcaaDoor
