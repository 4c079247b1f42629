/- Operations of a region upon a packet in a box: its fields' addresses, loads, comparisons. No condition. -/
import Derived.Test.YtbecggefmbpnoaaGreatDoorK04
import Derived.Test.YtbecggefmbpnoaaGreatDoorK31
import Derived.Test.YtbecggefmbpnoaaGreatDoorK05
namespace Go.Proofs.YtbecggefmbpnoaaGreatDoor
open Go.RowKit
section
variable{a:Act}{w:World}{d:Option Tmp}{p:String}{af:Array Edge}{gd:Option (Nat×Bool)}{x y z:Tmp}{r:TypeId}
theorem qjuh{g:Nat}{C:Array Value}(hx:a.eval (.tmp x) = .pointer (some ⟨g,0,none⟩))(hs:C.size=25)(hg:w.heap[g]? = some (.cells C 29 (0,0))) :
 (execOp a.eval {dst:=d,op := .load 29 (.tmp x),type:=29,pos:=p,after:=af,guard:=gd}).run Tryz.prog w = .ok (.value (.agg C)) w:=by
 unfold execOp
 simp only[hx,Instr.loadAt,Instr.sureAddr,Sem.run_bind,Sem.run_pure,Result.andThen_ok,run_loadVar_row w g 29 29 C (0,0) _ hg Tryz.underlying29 rfl (by rw[hs];exact q5nr)]
theorem qd7q{g:Nat}(hx:a.eval (.tmp x) = .pointer (some ⟨g,0,none⟩)) :
 (execOp a.eval {dst:=d,op := .fieldAddr 29 (.tmp x) 0,type:=r,pos:=p,after:=af,guard:=gd}).run Tryz.prog w = .ok (.value (.pointer (some ⟨g,0,none⟩))) w:=by
 generalize a.eval=f at *
 go_simp
theorem q43k{g:Nat}(hx:a.eval (.tmp x) = .pointer (some ⟨g,0,none⟩)) :
 (execOp a.eval {dst:=d,op := .fieldAddr 29 (.tmp x) 4,type:=r,pos:=p,after:=af,guard:=gd}).run Tryz.prog w = .ok (.value (.pointer (some ⟨g,4,none⟩))) w:=by
 generalize a.eval=f at *
 go_simp
theorem qkcv{g j:Nat}{n:Int}(hx:a.eval (.tmp x) = .pointer (some ⟨g,j,none⟩))(hc:w.cell? ⟨g,j,none⟩=some (.int .i64 n)) :
 (execOp a.eval {dst:=d,op := .load 3 (.tmp x),type:=3,pos:=p,after:=af,guard:=gd}).run Tryz.prog w = .ok (.value (.int .i64 n)) w:=by
 generalize a.eval=f at *
 go_simp
theorem qyhu{n c:Int}{b:Bool}(hx:a.eval (.tmp x) = .int .i64 n)(hb:decide (c < n)=b) :
 (execOp a.eval {dst:=d,op := .binOp .gtr 3 (.tmp x) (.const (.int .i64 c)) 3,type:=r,pos:=p,after:=af,guard:=gd}).run Tryz.prog w = .ok (.value (.bool b)) w:=by
 subst hb
 have hc:a.eval (.const (.int .i64 c)) = .int .i64 c:=rfl
 generalize a.eval=f at *
 go_simp
theorem qbhz{n c:Int}{b:Bool}(hx:a.eval (.tmp x) = .int .i64 n)(hb:decide (n≤c)=b) :
 (execOp a.eval {dst:=d,op := .binOp .leq 3 (.tmp x) (.const (.int .i64 c)) 3,type:=r,pos:=p,after:=af,guard:=gd}).run Tryz.prog w = .ok (.value (.bool b)) w:=by
 subst hb
 have hc:a.eval (.const (.int .i64 c)) = .int .i64 c:=rfl
 generalize a.eval=f at *
 go_simp
end
end Go.Proofs.YtbecggefmbpnoaaGreatDoor
