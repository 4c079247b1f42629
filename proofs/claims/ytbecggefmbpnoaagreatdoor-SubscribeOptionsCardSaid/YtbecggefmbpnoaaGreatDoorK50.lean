/- More of a region's operations upon filters: rows, comparisons, bytes of strings. No condition. -/
import Derived.Lib.IndexBytes
import Derived.Test.YtbecggefmbpnoaaGreatDoorK21
set_option maxHeartbeats 1000000
namespace Go.Proofs.YtbecggefmbpnoaaGreatDoor
open Go.RowKit
section
variable{a:Act}{w:World}{d:Option Tmp}{p:String}{af:Array Edge}{gd:Option (Nat×Bool)}{x y z:Tmp}{r:TypeId}
theorem qr7j{b c:Bool}(hx:a.eval (.tmp x) = .bool b)(hc:(!b)=c) :
 (execOp a.eval {dst:=d,op := .unOp .not 4 (.tmp x),type:=r,pos:=p,after:=af,guard:=gd}).run Tryz.prog w = .ok (.value (.bool c)) w:=by
 subst hc
 generalize a.eval=f at *
 go_simp
theorem qmdg{g:Nat}(hx:a.eval (.tmp x) = .pointer (some ⟨g,0,none⟩)) :
 (execOp a.eval {dst:=d,op := .fieldAddr 32 (.tmp x) 0,type:=r,pos:=p,after:=af,guard:=gd}).run Tryz.prog w = .ok (.value (.pointer (some ⟨g,0,none⟩))) w:=by
 generalize a.eval=f at *
 go_simp
theorem q5u5{g j:Nat}{s:ByteArray}(hx:a.eval (.tmp x) = .pointer (some ⟨g,j,none⟩))(hc:w.cell? ⟨g,j,none⟩=some (.string s)) :
 (execOp a.eval {dst:=d,op := .load 9 (.tmp x),type:=9,pos:=p,after:=af,guard:=gd}).run Tryz.prog w = .ok (.value (.string s)) w:=by
 generalize a.eval=f at *
 go_simp
theorem q1ib{g:Nat}{f:Fi}(hx:a.eval (.tmp x) = .pointer (some ⟨g,0,none⟩))(hg:w.heap[g]? = some (.cells (fiC f) 32 (0,0))) :
 (execOp a.eval {dst:=d,op := .load 32 (.tmp x),type:=32,pos:=p,after:=af,guard:=gd}).run Tryz.prog w = .ok (.value (.agg (fiC f))) w:=by
 unfold execOp
 simp only[hx,Instr.loadAt,Instr.sureAddr,Sem.run_bind,Sem.run_pure,Result.andThen_ok,run_loadVar_row w g 32 32 (fiC f) (0,0) _ hg Tryz.underlying32 rfl qhg6]
theorem rf_at{g i:Nat}{f:Fi}(hx:a.eval (.tmp x) = .pointer (some ⟨g,i,none⟩))(h0:w.cell? ⟨g,i,none⟩=some (.string (bs f.topic)))(h1:w.cell? ⟨g,i+1,none⟩=some (.int .i64 f.qos))(h2:w.cell? ⟨g,i+2,none⟩=some (.bool f.noLocal))(h3:w.cell? ⟨g,i+3,none⟩=some (.bool f.asPub))(h4:w.cell? ⟨g,i+4,none⟩=some (.int .i64 f.handling)) :
 (execOp a.eval {dst:=d,op := .load 32 (.tmp x),type:=32,pos:=p,after:=af,guard:=gd}).run Tryz.prog w = .ok (.value (.agg (fiC f))) w:=by
 unfold fiC
 generalize bs f.topic=q0 at *
 generalize f.qos=q1 at *
 generalize f.noLocal=q2 at *
 generalize f.asPub=q3 at *
 generalize f.handling=q4 at *
 generalize a.eval=f at *
 go_simp
theorem qr9y{f g:Fi}(hx:a.eval (.tmp x) = .agg (fiC f))(hy:a.eval (.tmp y) = .agg (fiC g)){b:Bool}(hb:decide (f=g)=b) :
 (execOp a.eval {dst:=d,op := .binOp .eql 32 (.tmp x) (.tmp y) 32,type:=r,pos:=p,after:=af,guard:=gd}).run Tryz.prog w = .ok (.value (.bool b)) w:=by
 subst hb
 unfold fiC at hx hy
 rcases qpuj f g with h | h | ⟨h1,h2⟩ | ⟨h1,h2,h3⟩ | ⟨h1,h2,h3,h4⟩ | ⟨h1,h2,h3,h4,h5⟩
 ·subst h
  rw[decide_eq_true rfl]
  generalize bs f.topic=q0 at *
  generalize f.qos=q1 at *
  generalize f.noLocal=q2 at *
  generalize f.asPub=q3 at *
  generalize f.handling=q4 at *
  generalize a.eval=f at *
  go_simp
 ·have hn:decide (f=g)=false:=decide_eq_false (fun e=>by rw[e] at h;simp at h)
  rw[hn]
  generalize bs f.topic=q0 at *
  generalize bs g.topic=u0 at *
  generalize a.eval=f at *
  go_simp
 ·have hn:decide (f=g)=false:=decide_eq_false (fun e=>by rw[e] at h2;simp at h2)
  rw[hn]
  rw[h1] at hx
  generalize bs g.topic=u0 at *
  generalize f.qos=q1 at *
  generalize g.qos=u1 at *
  generalize a.eval=f at *
  go_simp
 ·have hn:decide (f=g)=false:=decide_eq_false (fun e=>by rw[e] at h3;simp at h3)
  rw[hn]
  rw[h1,h2] at hx
  generalize bs g.topic=u0 at *
  generalize g.qos=u1 at *
  generalize f.noLocal=q2 at *
  generalize g.noLocal=u2 at *
  generalize a.eval=f at *
  go_simp
 ·have hn:decide (f=g)=false:=decide_eq_false (fun e=>by rw[e] at h4;simp at h4)
  rw[hn]
  rw[h1,h2,h3] at hx
  generalize bs g.topic=u0 at *
  generalize g.qos=u1 at *
  generalize g.noLocal=u2 at *
  generalize f.asPub=q3 at *
  generalize g.asPub=u3 at *
  generalize a.eval=f at *
  go_simp
 ·have hn:decide (f=g)=false:=decide_eq_false (fun e=>by rw[e] at h5;simp at h5)
  rw[hn]
  rw[h1,h2,h3,h4] at hx
  generalize bs g.topic=u0 at *
  generalize g.qos=u1 at *
  generalize g.noLocal=u2 at *
  generalize g.asPub=u3 at *
  generalize f.handling=q4 at *
  generalize g.handling=u4 at *
  generalize a.eval=f at *
  go_simp
theorem qfgl{t:List UInt8}{q:Int}(hx:a.eval (.tmp x) = .string (bs t))(hy:a.eval (.tmp y) = .int .i64 q) :
 (execOp a.eval {dst:=d,op := .build 32 #[(0,.tmp x),(1,.tmp y)],type:=32,pos:=p,after:=af,guard:=gd}).run Tryz.prog w = .ok (.value (.agg (fiC ⟨t,q,false,false,0⟩))) w:=by
 generalize a.eval=f at *
 go_simp
 rfl
theorem qpld{n c:Int}{b:Bool}(hx:a.eval (.tmp x) = .int .i64 n)(hb:decide (c≤n)=b) :
 (execOp a.eval {dst:=d,op := .binOp .geq 3 (.tmp x) (.const (.int .i64 c)) 3,type:=r,pos:=p,after:=af,guard:=gd}).run Tryz.prog w = .ok (.value (.bool b)) w:=by
 subst hb
 have hc:a.eval (.const (.int .i64 c)) = .int .i64 c:=rfl
 generalize a.eval=f at *
 go_simp
theorem qscj{n c:Int}{b:Bool}(hx:a.eval (.tmp x) = .int .i64 n)(hb:decide (n≤c)=b) :
 (execOp a.eval {dst:=d,op := .binOp .leq 3 (.tmp x) (.const (.int .i64 c)) 3,type:=r,pos:=p,after:=af,guard:=gd}).run Tryz.prog w = .ok (.value (.bool b)) w:=by
 subst hb
 have hc:a.eval (.const (.int .i64 c)) = .int .i64 c:=rfl
 generalize a.eval=f at *
 go_simp
end
section
variable{a:Act}{w:World}{d:Option Tmp}{p:String}{af:Array Edge}{gd:Option (Nat×Bool)}{x y z:Tmp}{r:TypeId}
theorem qn1u{n c:Int}{b:Bool}(hx:a.eval (.tmp x) = .int .i64 n)(hb:(n==c)=b) :
 (execOp a.eval {dst:=d,op := .binOp .eql 33 (.tmp x) (.const (.int .i64 c)) 33,type:=r,pos:=p,after:=af,guard:=gd}).run Tryz.prog w = .ok (.value (.bool b)) w:=by
 subst hb
 have hc:a.eval (.const (.int .i64 c)) = .int .i64 c:=rfl
 generalize a.eval=f at *
 go_simp
theorem qkut{n c:Int}{b:Bool}(hx:a.eval (.tmp x) = .int .i64 n)(hb:(n==c)=b) :
 (execOp a.eval {dst:=d,op := .binOp .eql 3 (.tmp x) (.const (.int .i64 c)) 3,type:=r,pos:=p,after:=af,guard:=gd}).run Tryz.prog w = .ok (.value (.bool b)) w:=by
 subst hb
 have hc:a.eval (.const (.int .i64 c)) = .int .i64 c:=rfl
 generalize a.eval=f at *
 go_simp
theorem qc5j{n m:Int}{b:Bool}(hx:a.eval (.tmp x) = .int .i64 n)(hy:a.eval (.tmp y) = .int .i64 m)(hb:(n==m)=b) :
 (execOp a.eval {dst:=d,op := .binOp .eql 3 (.tmp x) (.tmp y) 3,type:=r,pos:=p,after:=af,guard:=gd}).run Tryz.prog w = .ok (.value (.bool b)) w:=by
 subst hb
 generalize a.eval=f at *
 go_simp
theorem qecs{n c m:Int}(hx:a.eval (.tmp x) = .int .i64 n)(hm:IntKind.i64.wrap (n - c)=m) :
 (execOp a.eval {dst:=d,op := .binOp .sub 3 (.tmp x) (.const (.int .i64 c)) 3,type:=r,pos:=p,after:=af,guard:=gd}).run Tryz.prog w = .ok (.value (.int .i64 m)) w:=by
 subst hm
 have hc:a.eval (.const (.int .i64 c)) = .int .i64 c:=rfl
 generalize a.eval=f at *
 go_simp
theorem qe8t{s:ByteArray}(hx:a.eval (.tmp x) = .string s) :
 (execOp a.eval {dst:=d,op := .call {callee := .builtin .len,args:=#[.tmp x],argTypes:=#[9]},type:=r,pos:=p,after:=af,guard:=gd}).run Tryz.prog w = .ok (.value (.int .i64 (s.size:Nat))) w:=by
 generalize a.eval=f at *
 go_simp
theorem qj02{g i n c:Nat}(hx:a.eval (.tmp x) = .slice (some ⟨g,i,none⟩) (n+1) c) :
 (execOp a.eval {dst:=d,op := .indexAddr 27 (.tmp x) (.const (.int .i64 0)),type:=r,pos:=p,after:=af,guard:=gd}).run Tryz.prog w = .ok (.value (.pointer (some ⟨g,i,none⟩))) w:=by
 have hc:a.eval (.const (.int .i64 0)) = .int .i64 0:=rfl
 generalize a.eval=f at *
 go_simp
theorem qaiu{s:ByteArray}{k:Nat}{b:UInt8}(hx:a.eval (.tmp x) = .string s)(hy:a.eval (.tmp y) = .int .i64 (k:Nat))(hk:k < s.size)(hb:s[k]=b) :
 (execOp a.eval {dst:=d,op := .index 9 (.tmp x) (.tmp y),type:=r,pos:=p,after:=af,guard:=gd}).run Tryz.prog w = .ok (.value (.int .u8 b.toNat)) w:=by
 generalize a.eval=f at *
 go_simp
theorem q4yt{n:Nat}(hx:a.eval (.tmp x) = .int .u8 (n:Nat))(hn:n < 256) :
 (execOp a.eval {dst:=d,op := .convert 5 3 (.tmp x),type:=3,pos:=p,after:=af,guard:=gd}).run Tryz.prog w = .ok (.value (.int .i64 (n:Nat))) w:=by
 have h2:IntKind.i64.wrap (n:Int)=n:=by rw[IntKind.wrap_i64];omega
 generalize a.eval=f at *
 go_simp
end
end Go.Proofs.YtbecggefmbpnoaaGreatDoor
