/-
  Operations of the last regions of HeadCalls and HeadNames. Condition: none.
-/
import Derived.Test.YtnmdbbkcbedklaaDoorK08
import Derived.Test.YtnmdbbkcbedklaaDoorK36
import Derived.Test.YtnmdbbkcbedklaaDoorK32
namespace Go.Proofs.YtnmdbbkcbedklaaDoor
open Go.RowKit

/-- The copy, where it is made. -/
def pkVO (p : Pk) : Option Ad → Value
  | some a => .agg (pkC p a)
  | none => undef
section
variable {a : Act} {w : World} {d : Option Tmp} {p : String} {af : Array Edge} {gd : Option (Nat × Bool)} {x y z : Tmp} {r : TypeId}
theorem hl_row {g : Nat} {c0 c1 c2 : Value} (hx : a.eval (.tmp x) = .pointer (some ⟨g, 0, none⟩)) (hg : w.heap[g]? = some (.cells #[c0, c1, c2] 26 (0, 0))) :
    (execOp a.eval { dst := d, op := .load 26 (.tmp x), type := 26, pos := p, after := af, guard := gd }).run Tryd.prog w = .ok (.value (.agg #[c0, c1, c2])) w := by
  unfold execOp
  simp only [hx, Instr.loadAt, Instr.sureAddr, Sem.run_bind, Sem.run_pure, Result.andThen_ok, run_loadVar_row w g 26 26 #[c0, c1, c2] (0, 0) _ hg Tryd.underlying26 rfl info_hd]
theorem hl_eqh {z0 z1 z2 : Int} (hx : a.eval (.tmp x) = .agg #[.int .i64 z0, .int .i64 z1, .int .i64 z2]) (hy : a.eval (.tmp y) = .agg #[.int .i64 z0, .int .i64 z1, .int .i64 z2]) :
    (execOp a.eval { dst := d, op := .binOp .eql 26 (.tmp x) (.tmp y) 26, type := r, pos := p, after := af, guard := gd }).run Tryd.prog w = .ok (.value (.bool true)) w := by
  generalize a.eval = f at *
  go_simp
theorem hl_fa {g : Nat} (hx : a.eval (.tmp x) = .pointer (some ⟨g, 0, none⟩)) :
    (execOp a.eval { dst := d, op := .fieldAddr 26 (.tmp x) 0, type := r, pos := p, after := af, guard := gd }).run Tryd.prog w = .ok (.value (.pointer (some ⟨g, 0, none⟩))) w := by
  generalize a.eval = f at *
  go_simp
theorem hl_fp {g o : Nat} (hx : a.eval (.tmp x) = .pointer (some ⟨g, o, none⟩)) :
    (execOp a.eval { dst := d, op := .fieldAddr 40 (.tmp x) 0, type := r, pos := p, after := af, guard := gd }).run Tryd.prog w = .ok (.value (.pointer (some ⟨g, o, none⟩))) w := by
  generalize a.eval = f at *
  go_simp
theorem hl_li {g o : Nat} {z : Int} (hx : a.eval (.tmp x) = .pointer (some ⟨g, o, none⟩)) (hc : w.cell? ⟨g, o, none⟩ = some (.int .i64 z)) :
    (execOp a.eval { dst := d, op := .load 3 (.tmp x), type := 3, pos := p, after := af, guard := gd }).run Tryd.prog w = .ok (.value (.int .i64 z)) w := by
  generalize a.eval = f at *
  go_simp
theorem hl_err {z : Int} (hx : a.eval (.tmp x) = .int .i64 z) (hy : a.eval (.tmp y) = .int .i64 z) :
    (execOp a.eval { dst := d, op := .binOp .eql 23 (.tmp x) (.tmp y) 23, type := r, pos := p, after := af, guard := gd }).run Tryd.prog w = .ok (.value (.bool true)) w := by
  generalize a.eval = f at *
  go_simp
theorem hl_int {z : Int} (hx : a.eval (.tmp x) = .int .i64 z) (hy : a.eval (.tmp y) = .int .i64 z) :
    (execOp a.eval { dst := d, op := .binOp .eql 3 (.tmp x) (.tmp y) 3, type := r, pos := p, after := af, guard := gd }).run Tryd.prog w = .ok (.value (.bool true)) w := by
  generalize a.eval = f at *
  go_simp
theorem hl_bool {z : Bool} (hx : a.eval (.tmp x) = .bool z) (hy : a.eval (.tmp y) = .bool z) :
    (execOp a.eval { dst := d, op := .binOp .eql 4 (.tmp x) (.tmp y) 4, type := r, pos := p, after := af, guard := gd }).run Tryd.prog w = .ok (.value (.bool true)) w := by
  generalize a.eval = f at *
  cases z <;> go_simp
theorem hl_str {z : ByteArray} (hx : a.eval (.tmp x) = .string z) (hy : a.eval (.tmp y) = .string z) :
    (execOp a.eval { dst := d, op := .binOp .eql 9 (.tmp x) (.tmp y) 9, type := r, pos := p, after := af, guard := gd }).run Tryd.prog w = .ok (.value (.bool true)) w := by
  generalize a.eval = f at *
  go_simp
theorem hl_errc {z : Int} (hx : a.eval (.tmp x) = .int .i64 z) :
    (execOp a.eval { dst := d, op := .binOp .eql 23 (.tmp x) (.const (.int .i64 z)) 23, type := r, pos := p, after := af, guard := gd }).run Tryd.prog w = .ok (.value (.bool true)) w := by
  have hc : a.eval (.const (.int .i64 z)) = .int .i64 z := rfl
  generalize a.eval = f at *
  go_simp
theorem hl_intc {z : Int} (hx : a.eval (.tmp x) = .int .i64 z) :
    (execOp a.eval { dst := d, op := .binOp .eql 3 (.tmp x) (.const (.int .i64 z)) 3, type := r, pos := p, after := af, guard := gd }).run Tryd.prog w = .ok (.value (.bool true)) w := by
  have hc : a.eval (.const (.int .i64 z)) = .int .i64 z := rfl
  generalize a.eval = f at *
  go_simp
theorem hl_strc {z u : ByteArray} (hx : a.eval (.tmp x) = .string z) (hu : z = u) :
    (execOp a.eval { dst := d, op := .binOp .eql 9 (.tmp x) (.const (.string u)) 9, type := r, pos := p, after := af, guard := gd }).run Tryd.prog w = .ok (.value (.bool true)) w := by
  subst hu
  have hc : a.eval (.const (.string z)) = .string z := rfl
  generalize a.eval = f at *
  go_simp
theorem hl_not {z : Bool} (hx : a.eval (.tmp x) = .bool z) :
    (execOp a.eval { dst := d, op := .unOp .not 4 (.tmp x), type := r, pos := p, after := af, guard := gd }).run Tryd.prog w = .ok (.value (.bool !z)) w := by
  generalize a.eval = f at *
  go_simp
theorem hl_bh {z : Int} :
    (execOp a.eval { dst := d, op := .build 26 #[(0, .const (.int .i64 z))], type := r, pos := p, after := af, guard := gd }).run Tryd.prog w = .ok (.value (.agg #[.int .i64 z, .int .i64 0, .int .i64 0])) w := by
  have hc : a.eval (.const (.int .i64 z)) = .int .i64 z := rfl
  generalize a.eval = f at *
  go_simp
theorem hl_ix {g n c : Nat} (hx : a.eval (.tmp x) = .slice (some ⟨g, 0, none⟩) n c) (hn : (0 : Int) < (n : Int)) :
    (execOp a.eval { dst := d, op := .indexAddr 29 (.tmp x) (.const (.int .i64 0)), type := r, pos := p, after := af, guard := gd }).run Tryd.prog w = .ok (.value (.pointer (some ⟨g, 0, none⟩))) w := by
  have hc : a.eval (.const (.int .i64 0)) = .int .i64 0 := rfl
  have hn2 : 0 < n := by omega
  generalize a.eval = f at *
  go_simp
theorem re_head_Check {ts : Array TypeId} {u v : Value} (hx : a.eval (.tmp x) = u) (hy : a.eval (.tmp y) = v) :
    (execOp a.eval { dst := d, op := .call { callee := .value (.func 6), args := #[.tmp x, .tmp y], argTypes := ts }, type := r, pos := p, after := af, guard := gd }).run Tryd.prog w = .ok (.enter 6 #[u, v]) w := by
  have hf : a.eval (.func 6) = .func (.func 6) #[] #[] := rfl
  generalize a.eval = f at *
  go_simp
theorem re_polyglotref07_Check {ts : Array TypeId} {u v : Value} (hx : a.eval (.tmp x) = u) (hy : a.eval (.tmp y) = v) :
    (execOp a.eval { dst := d, op := .call { callee := .value (.func 17), args := #[.tmp x, .tmp y], argTypes := ts }, type := r, pos := p, after := af, guard := gd }).run Tryd.prog w = .ok (.enter 17 #[u, v]) w := by
  have hf : a.eval (.func 17) = .func (.func 17) #[] #[] := rfl
  generalize a.eval = f at *
  go_simp
theorem re_head_Same {ts : Array TypeId} {u v : Value} (hx : a.eval (.tmp x) = u) (hy : a.eval (.tmp y) = v) :
    (execOp a.eval { dst := d, op := .call { callee := .value (.func 10), args := #[.tmp x, .tmp y], argTypes := ts }, type := r, pos := p, after := af, guard := gd }).run Tryd.prog w = .ok (.enter 10 #[u, v]) w := by
  have hf : a.eval (.func 10) = .func (.func 10) #[] #[] := rfl
  generalize a.eval = f at *
  go_simp
theorem re_polyglotref07_Same {ts : Array TypeId} {u v : Value} (hx : a.eval (.tmp x) = u) (hy : a.eval (.tmp y) = v) :
    (execOp a.eval { dst := d, op := .call { callee := .value (.func 18), args := #[.tmp x, .tmp y], argTypes := ts }, type := r, pos := p, after := af, guard := gd }).run Tryd.prog w = .ok (.enter 18 #[u, v]) w := by
  have hf : a.eval (.func 18) = .func (.func 18) #[] #[] := rfl
  generalize a.eval = f at *
  go_simp
theorem re_head_Name {ts : Array TypeId} {u : Value} (hx : a.eval (.tmp x) = u) :
    (execOp a.eval { dst := d, op := .call { callee := .value (.func 11), args := #[.tmp x], argTypes := ts }, type := r, pos := p, after := af, guard := gd }).run Tryd.prog w = .ok (.enter 11 #[u]) w := by
  have hf : a.eval (.func 11) = .func (.func 11) #[] #[] := rfl
  generalize a.eval = f at *
  go_simp
theorem re_polyglotref07_Name {ts : Array TypeId} {u : Value} (hx : a.eval (.tmp x) = u) :
    (execOp a.eval { dst := d, op := .call { callee := .value (.func 20), args := #[.tmp x], argTypes := ts }, type := r, pos := p, after := af, guard := gd }).run Tryd.prog w = .ok (.enter 20 #[u]) w := by
  have hf : a.eval (.func 20) = .func (.func 20) #[] #[] := rfl
  generalize a.eval = f at *
  go_simp
theorem re_head_Copy {ts : Array TypeId} {u : Value} (hx : a.eval (.tmp x) = u) :
    (execOp a.eval { dst := d, op := .call { callee := .value (.func 9), args := #[.tmp x], argTypes := ts }, type := r, pos := p, after := af, guard := gd }).run Tryd.prog w = .ok (.enter 9 #[u]) w := by
  have hf : a.eval (.func 9) = .func (.func 9) #[] #[] := rfl
  generalize a.eval = f at *
  go_simp
theorem re_polyglotkit_SamePacket {ts : Array TypeId} {u v : Value} (hx : a.eval (.tmp x) = u) (hy : a.eval (.tmp y) = v) :
    (execOp a.eval { dst := d, op := .call { callee := .value (.func 19), args := #[.tmp x, .tmp y], argTypes := ts }, type := r, pos := p, after := af, guard := gd }).run Tryd.prog w = .ok (.enter 19 #[u, v]) w := by
  have hf : a.eval (.func 19) = .func (.func 19) #[] #[] := rfl
  generalize a.eval = f at *
  go_simp
end
end Go.Proofs.YtnmdbbkcbedklaaDoor
