/- Operations of a region upon a stream. No condition. -/
import Derived.Test.YtefmhbioggcfaaaGreatDoorK05
import Derived.Test.YtefmhbioggcfaaaGreatDoorK16
namespace Go.Proofs.YtefmhbioggcfaaaGreatDoor
open Proofs.Tryz
open Go.RowKit
section
variable{a:Act}{w:World}{d:Option Tmp}{p:String}{af:Array Edge}{gd:Option (Nat×Bool)}{x y z:Tmp}{r:TypeId}
theorem q3es{g:Nat}(hx:a.eval (.tmp x)=.pointer (some ⟨g,0,none⟩)) :
 (execOp a.eval {dst:=d,op := .nilCheck (.tmp x),type:=r,pos:=p,after:=af,guard:=gd}).run prog w=.ok (.value (.pointer (some ⟨g,0,none⟩))) w:=by
 generalize a.eval=f at *;go_simp
theorem q6rj{g:Nat}(hx:a.eval (.tmp x)=.pointer (some ⟨g,0,none⟩)) :
 (execOp a.eval {dst:=d,op := .fieldAddr 61 (.tmp x) 1,type:=r,pos:=p,after:=af,guard:=gd}).run prog w=.ok (.value (.pointer (some ⟨g,1,none⟩))) w:=by
 generalize a.eval=f at *;go_simp
theorem q2rm{g:Nat}(hx:a.eval (.tmp x)=.pointer (some ⟨g,0,none⟩)) :
 (execOp a.eval {dst:=d,op := .fieldAddr 61 (.tmp x) 3,type:=r,pos:=p,after:=af,guard:=gd}).run prog w=.ok (.value (.pointer (some ⟨g,3,none⟩))) w:=by
 generalize a.eval=f at *;go_simp
theorem qtgn{g:Nat}(hx:a.eval (.tmp x)=.pointer (some ⟨g,0,none⟩)) :
 (execOp a.eval {dst:=d,op := .fieldAddr 61 (.tmp x) 4,type:=r,pos:=p,after:=af,guard:=gd}).run prog w=.ok (.value (.pointer (some ⟨g,4,none⟩))) w:=by
 generalize a.eval=f at *;go_simp
theorem qv5i{g j n c:Nat}{A:Option Addr}(hx:a.eval (.tmp x)=.pointer (some ⟨g,j,none⟩))(hc:w.cell? ⟨g,j,none⟩=some (.slice A n c)) :
 (execOp a.eval {dst:=d,op := .load 58 (.tmp x),type:=58,pos:=p,after:=af,guard:=gd}).run prog w=.ok (.value (.slice A n c)) w:=by
 generalize a.eval=f at *;go_simp
theorem q8s2{n c z:Nat}{A:Option Addr}{F:Value}(hx:a.eval (.tmp x)=.slice A n c)(hy:a.eval (.tmp y)=.int .i64 (z:Int))(hz:z<=c)(hF:sliced A 0 z c 1=F) :
 (execOp a.eval {dst:=d,op := .slice 58 (.tmp x) none (some (.tmp y)) none,type:=r,pos:=p,after:=af,guard:=gd}).run prog w=.ok (.value F) w:=by
 subst hF;have hz2:(z:Int)<=(c:Int):=by omega
 generalize a.eval=f at *;go_simp
theorem qnvo{F:Value}{u:ByteArray}(hx:a.eval (.tmp x)=F)(hc:(convert 58 9 F).run prog w=.ok (.string u) w) :
 (execOp a.eval {dst:=d,op := .convert 58 9 (.tmp x),type:=r,pos:=p,after:=af,guard:=gd}).run prog w=.ok (.value (.string u)) w:=by
 unfold execOp;simp only[hx,Sem.run_bind,hc,Result.andThen_ok,Sem.run_pure]
end
end Go.Proofs.YtefmhbioggcfaaaGreatDoor
