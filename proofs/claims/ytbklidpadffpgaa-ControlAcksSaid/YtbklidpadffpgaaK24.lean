/- Operations of a region upon a packet in a box: its fields' addresses, loads, comparisons. No condition. -/
import Derived.Test.YtbklidpadffpgaaK12
import Derived.Test.YtbklidpadffpgaaK15
import Derived.Test.YtbklidpadffpgaaK06
set_option maxRecDepth 100000
set_option maxHeartbeats 8000000
namespace Go.Proofs.Ytbklidpadffpgaa
open Go.RowKit
section
variable{a:Act}{w:World}{d:Option Tmp}{p:String}{af:Array Edge}{gd:Option (Nat×Bool)}{x y z:Tmp}{r:TypeId}
theorem qjuh{g:Nat}{C:Array Value}(hx:a.eval (.tmp x) = .pointer (some ⟨g,0,none⟩))(hs:C.size=25)(hg:w.heap[g]? = some (.cells C 30 (0,0))) :
 (execOp a.eval {dst:=d,op := .load 30 (.tmp x),type:=30,pos:=p,after:=af,guard:=gd}).run Try.prog w = .ok (.value (.agg C)) w:=by
 unfold execOp
 simp only[hx,Instr.loadAt,Instr.sureAddr,Sem.run_bind,Sem.run_pure,Result.andThen_ok,run_loadVar_row w g 30 30 C (0,0) _ hg Try.underlying30 rfl (by rw[hs];exact q5nr)]
theorem qd7q{g:Nat}(hx:a.eval (.tmp x) = .pointer (some ⟨g,0,none⟩)) :
 (execOp a.eval {dst:=d,op := .fieldAddr 30 (.tmp x) 0,type:=r,pos:=p,after:=af,guard:=gd}).run Try.prog w = .ok (.value (.pointer (some ⟨g,0,none⟩))) w:=by
 generalize a.eval=f at *
 go_simp
theorem q43k{g:Nat}(hx:a.eval (.tmp x) = .pointer (some ⟨g,0,none⟩)) :
 (execOp a.eval {dst:=d,op := .fieldAddr 30 (.tmp x) 4,type:=r,pos:=p,after:=af,guard:=gd}).run Try.prog w = .ok (.value (.pointer (some ⟨g,4,none⟩))) w:=by
 generalize a.eval=f at *
 go_simp
theorem q0yj{g:Nat}(hx:a.eval (.tmp x) = .pointer (some ⟨g,0,none⟩)) :
 (execOp a.eval {dst:=d,op := .fieldAddr 30 (.tmp x) 17,type:=r,pos:=p,after:=af,guard:=gd}).run Try.prog w = .ok (.value (.pointer (some ⟨g,21,none⟩))) w:=by
 generalize a.eval=f at *
 go_simp
theorem q8kw{g:Nat}(hx:a.eval (.tmp x) = .pointer (some ⟨g,0,none⟩)) :
 (execOp a.eval {dst:=d,op := .fieldAddr 30 (.tmp x) 20,type:=r,pos:=p,after:=af,guard:=gd}).run Try.prog w = .ok (.value (.pointer (some ⟨g,24,none⟩))) w:=by
 generalize a.eval=f at *
 go_simp
theorem qkcv{g j:Nat}{n:Int}(hx:a.eval (.tmp x) = .pointer (some ⟨g,j,none⟩))(hc:w.cell? ⟨g,j,none⟩=some (.int .i64 n)) :
 (execOp a.eval {dst:=d,op := .load 3 (.tmp x),type:=3,pos:=p,after:=af,guard:=gd}).run Try.prog w = .ok (.value (.int .i64 n)) w:=by
 generalize a.eval=f at *
 go_simp
theorem q8ba{g j n c:Nat}{A:Option Addr}(hx:a.eval (.tmp x) = .pointer (some ⟨g,j,none⟩))(hc:w.cell? ⟨g,j,none⟩=some (.slice A n c)) :
 (execOp a.eval {dst:=d,op := .load 24 (.tmp x),type:=24,pos:=p,after:=af,guard:=gd}).run Try.prog w = .ok (.value (.slice A n c)) w:=by
 generalize a.eval=f at *
 go_simp
theorem qyhu{n c:Int}{b:Bool}(hx:a.eval (.tmp x) = .int .i64 n)(hb:decide (c < n)=b) :
 (execOp a.eval {dst:=d,op := .binOp .gtr 3 (.tmp x) (.const (.int .i64 c)) 3,type:=r,pos:=p,after:=af,guard:=gd}).run Try.prog w = .ok (.value (.bool b)) w:=by
 subst hb
 have hc:a.eval (.const (.int .i64 c)) = .int .i64 c:=rfl
 generalize a.eval=f at *
 go_simp
theorem qbhz{n c:Int}{b:Bool}(hx:a.eval (.tmp x) = .int .i64 n)(hb:decide (n≤c)=b) :
 (execOp a.eval {dst:=d,op := .binOp .leq 3 (.tmp x) (.const (.int .i64 c)) 3,type:=r,pos:=p,after:=af,guard:=gd}).run Try.prog w = .ok (.value (.bool b)) w:=by
 subst hb
 have hc:a.eval (.const (.int .i64 c)) = .int .i64 c:=rfl
 generalize a.eval=f at *
 go_simp
end
section
variable{a:Act}{w:World}{d:Option Tmp}{p:String}{af:Array Edge}{gd:Option (Nat×Bool)}{x y z:Tmp}{r:TypeId}
theorem qmtu{A:ByteArray}(hx:a.eval (.tmp x) = .string A) :
 (execOp a.eval {dst:=d,op := .call {callee := .builtin .len,args:=#[.tmp x],argTypes:=#[9]},type:=r,pos:=p,after:=af,guard:=gd}).run Try.prog w = .ok (.value (.int .i64 (A.size:Int))) w:=by
 generalize a.eval=f at *
 go_simp
theorem qd83{n:Nat}(hx:a.eval (.tmp x) = .int .i64 (n:Int))(h:2≤n) :
 (execOp a.eval {dst:=d,op := .binOp .geq 3 (.tmp x) (.const (.int .i64 2)) 3,type:=r,pos:=p,after:=af,guard:=gd}).run Try.prog w = .ok (.value (.bool true)) w:=by
 have hc:a.eval (.const (.int .i64 2)) = .int .i64 2:=rfl
 have hd:decide ((2:Int)≤(n:Int))=true:=decide_eq_true (by omega)
 generalize a.eval=f at *
 go_simp
theorem q67e{v:ByteArray}(hx:a.eval (.tmp x) = .string v)(hy:a.eval (.tmp y) = .string v) :
 (execOp a.eval {dst:=d,op := .binOp .eql 9 (.tmp x) (.tmp y) 9,type:=r,pos:=p,after:=af,guard:=gd}).run Try.prog w = .ok (.value (.bool true)) w:=by
 generalize a.eval=f at *
 go_simp
theorem qo17{A X:ByteArray}(hx:a.eval (.tmp x) = .string A)(h:2≤A.size)(hX:A.extract 2 A.size=X) :
 (execOp a.eval {dst:=d,op := .slice 9 (.tmp x) (some (.const (.int .i64 2))) none none,type:=r,pos:=p,after:=af,guard:=gd}).run Try.prog w = .ok (.value (.string X)) w:=by
 subst hX
 have hc:a.eval (.const (.int .i64 2)) = .int .i64 2:=rfl
 generalize a.eval=f at *
 go_simp
 intro hn
 omega
end
theorem qt1n{Q:Exit→Act→World→Prop}{S:World→Prop}{W:World}{b n cp:Nat}{sa:Option Addr}{k c:Int}{A X:ByteArray}{x0 x2 x5 x6 x7 x8 x9 x10 x11 x12 x13 x14 x15 x16 x17 x18 x19 x20 x21 x22 x23 x24 x25 x26 x27 x28 x29 x30 x31 x32 x33 x34 x35 x36 x37 x38 x39:Value}
 (hS:S W.drew)
 (h2:2≤A.size) (hX:A.extract 2 A.size=X) (K0:∀w,S w→w.cell? ⟨b,0,none⟩=some (.int .i64 k)) (K21:∀w,S w→w.cell? ⟨b,21,none⟩=some (.int .i64 c)) (K24:∀w,S w→w.cell? ⟨b,24,none⟩=some (.slice sa n cp))
 (H0:∀w,S w→Calls Try.prog 12 #[.int .i64 c,.slice sa n cp,.int .i64 k] w fun e w'=>e = .returned (.string X)∧S w')
 (fin:∀w:World,S w→Q .normal ⟨#[x0,(.pointer (some ⟨b,0,none⟩)),(.bool true),(.string A),(.int .i64 0),x5,x6,x7,x8,x9,x10,x11,x12,x13,x14,x15,x16,x17,x18,x19,x20,x21,x22,x23,x24,(.string A),(.int .i64 (A.size:Int)),(.bool true),(.bool true),(.string A),(.string X),(.pointer (some ⟨b,21,none⟩)),(.int .i64 c),(.pointer (some ⟨b,24,none⟩)),(.slice sa n cp),(.pointer (some ⟨b,0,none⟩)),(.int .i64 k),(.string X),(.bool true),(.bool true)],[]⟩ w) :
 (Code.region 8 (qfhu.opsAt 8 Try.f4.body) true).wp Try.prog Q ⟨#[x0,(.pointer (some ⟨b,0,none⟩)),x2,(.string A),(.int .i64 0),x5,x6,x7,x8,x9,x10,x11,x12,x13,x14,x15,x16,x17,x18,x19,x20,x21,x22,x23,x24,x25,x26,x27,x28,x29,x30,x31,x32,x33,x34,x35,x36,x37,x38,x39],[]⟩ W:=by
 refine qfhu.wp_in (ds:=[25,26,27,28,29,30,31,32,33,34,35,36,37,38,39,2]) (B:=[x0,(.pointer (some ⟨b,0,none⟩)),(.bool true),(.string A),(.int .i64 0),x5,x6,x7,x8,x9,x10,x11,x12,x13,x14,x15,x16,x17,x18,x19,x20,x21,x22,x23,x24,(.string A),(.int .i64 (A.size:Int)),(.bool true),(.bool true),(.string A),(.string X),(.pointer (some ⟨b,21,none⟩)),(.int .i64 c),(.pointer (some ⟨b,24,none⟩)),(.slice sa n cp),(.pointer (some ⟨b,0,none⟩)),(.int .i64 k),(.string X),(.bool true),(.bool true)]) (D:=[]) (by kernel_rfl) (by kernel_rfl) (by kernel_rfl) ?_ hS ?_ fin
 ·exact(by repeat (first | exact trivial | refine⟨.inr rfl,?_⟩ | refine⟨.inl rfl,?_⟩))
 refine qfhu.pu rfl rfl rfl rfl (fun w hS=>rfl) ?_
 refine qfhu.pu rfl rfl rfl rfl (fun w hS=>qmtu rfl) ?_
 refine qfhu.pu rfl rfl rfl rfl (fun w hS=>qd83 rfl h2) ?_
 refine qfhu.pu rfl rfl rfl rfl (fun w hS=>rfl) ?_
 refine qfhu.pu rfl rfl rfl rfl (fun w hS=>rfl) ?_
 refine qfhu.pu rfl rfl rfl rfl (fun w hS=>qo17 rfl h2 hX) ?_
 refine qfhu.pu rfl rfl rfl rfl (fun w hS=>q0yj rfl) ?_
 refine qfhu.pu rfl rfl rfl rfl (fun w hS=>qkcv rfl (K21 w hS)) ?_
 refine qfhu.pu rfl rfl rfl rfl (fun w hS=>q8kw rfl) ?_
 refine qfhu.pu rfl rfl rfl rfl (fun w hS=>q8ba rfl (K24 w hS)) ?_
 refine qfhu.pu rfl rfl rfl rfl (fun w hS=>qd7q rfl) ?_
 refine qfhu.pu rfl rfl rfl rfl (fun w hS=>qkcv rfl (K0 w hS)) ?_
 refine qfhu.ca rfl rfl rfl rfl (fun w=>qpjl.enter3 Try.func12 rfl rfl rfl rfl) H0 ?_
 refine qfhu.pu rfl rfl rfl rfl (fun w hS=>q67e rfl rfl) ?_
 refine qfhu.pu rfl rfl rfl rfl (fun w hS=>rfl) ?_
 refine qfhu.pu rfl rfl rfl rfl (fun w hS=>rfl) ?_
 exact qfhu.All.fin rfl
end Go.Proofs.Ytbklidpadffpgaa
