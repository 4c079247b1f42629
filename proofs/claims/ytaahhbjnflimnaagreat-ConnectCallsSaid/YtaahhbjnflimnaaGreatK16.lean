/- The regions of connect.Body that draw their order: the literal slices' places are a ghost. Condition: none. -/
import Derived.Test.YtaahhbjnflimnaaGreatK02
import Derived.Test.YtaahhbjnflimnaaGreatK12
set_option maxRecDepth 100000
set_option maxHeartbeats 8000000
namespace Go.Proofs.YtaahhbjnflimnaaGreat
open Go.RowKit
def rowN(n:Nat):Option Nat→Value
 | some g => .slice (some ⟨g,0,none⟩) n n
 | none=>undef
def putG(x:Nat→Option Nat)(j g:Nat):Nat→Option Nat:=fun i=>bif Nat.beq i j then some g else x i
theorem qpwk{x:Nat→Option Nat}{j g i:Nat}(h:(x i).isSome=true):(putG x j g i).isSome=true:=by
 unfold putG
 cases Nat.beq i j
 ·exact h
 ·rfl
section
variable{a:Act}{w:World}{d:Option Tmp}{p:String}{af:Array Edge}{gd:Option (Nat×Bool)}{x y z:Tmp}{r:TypeId}
theorem qa2f{g:Nat}{C:Array Value}(hx:a.eval (.tmp x) = .pointer (some ⟨g,0,none⟩))(hs:C.size=25)(hg:w.heap[g]? = some (.cells C 28 (0,0))) :
 (execOp a.eval {dst:=d,op := .load 28 (.tmp x),type:=28,pos:=p,after:=af,guard:=gd}).run Tryz.prog w = .ok (.value (.agg C)) w:=by
 unfold execOp
 simp only[hx,Instr.loadAt,Instr.sureAddr,Sem.run_bind,Sem.run_pure,Result.andThen_ok,run_loadVar_row w g 28 28 C (0,0) _ hg Tryz.underlying28 rfl (by rw[hs];exact q5nr)]
theorem q7bh{g:Nat}(hx:a.eval (.tmp x) = .pointer (some ⟨g,0,none⟩)) :
 (execOp a.eval {dst:=d,op := .fieldAddr 28 (.tmp x) 0,type:=r,pos:=p,after:=af,guard:=gd}).run Tryz.prog w = .ok (.value (.pointer (some ⟨g,0,none⟩))) w:=by
 generalize a.eval=f at *
 go_simp
theorem q9ys{g:Nat}(hx:a.eval (.tmp x) = .pointer (some ⟨g,0,none⟩)) :
 (execOp a.eval {dst:=d,op := .fieldAddr 28 (.tmp x) 8,type:=r,pos:=p,after:=af,guard:=gd}).run Tryz.prog w = .ok (.value (.pointer (some ⟨g,8,none⟩))) w:=by
 generalize a.eval=f at *
 go_simp
theorem qvun{g:Nat}(hx:a.eval (.tmp x) = .pointer (some ⟨g,0,none⟩)) :
 (execOp a.eval {dst:=d,op := .fieldAddr 28 (.tmp x) 9,type:=r,pos:=p,after:=af,guard:=gd}).run Tryz.prog w = .ok (.value (.pointer (some ⟨g,9,none⟩))) w:=by
 generalize a.eval=f at *
 go_simp
theorem qux4{g:Nat}(hx:a.eval (.tmp x) = .pointer (some ⟨g,0,none⟩)) :
 (execOp a.eval {dst:=d,op := .fieldAddr 28 (.tmp x) 10,type:=r,pos:=p,after:=af,guard:=gd}).run Tryz.prog w = .ok (.value (.pointer (some ⟨g,10,none⟩))) w:=by
 generalize a.eval=f at *
 go_simp
theorem qo3x{g:Nat}(hx:a.eval (.tmp x) = .pointer (some ⟨g,0,none⟩)) :
 (execOp a.eval {dst:=d,op := .fieldAddr 28 (.tmp x) 11,type:=r,pos:=p,after:=af,guard:=gd}).run Tryz.prog w = .ok (.value (.pointer (some ⟨g,11,none⟩))) w:=by
 generalize a.eval=f at *
 go_simp
theorem qy7x{g:Nat}(hx:a.eval (.tmp x) = .pointer (some ⟨g,0,none⟩)) :
 (execOp a.eval {dst:=d,op := .fieldAddr 28 (.tmp x) 12,type:=r,pos:=p,after:=af,guard:=gd}).run Tryz.prog w = .ok (.value (.pointer (some ⟨g,12,none⟩))) w:=by
 generalize a.eval=f at *
 go_simp
theorem qsfc{g:Nat}(hx:a.eval (.tmp x) = .pointer (some ⟨g,0,none⟩)) :
 (execOp a.eval {dst:=d,op := .fieldAddr 28 (.tmp x) 13,type:=r,pos:=p,after:=af,guard:=gd}).run Tryz.prog w = .ok (.value (.pointer (some ⟨g,13,none⟩))) w:=by
 generalize a.eval=f at *
 go_simp
theorem qndn{g:Nat}(hx:a.eval (.tmp x) = .pointer (some ⟨g,0,none⟩)) :
 (execOp a.eval {dst:=d,op := .fieldAddr 28 (.tmp x) 14,type:=r,pos:=p,after:=af,guard:=gd}).run Tryz.prog w = .ok (.value (.pointer (some ⟨g,14,none⟩))) w:=by
 generalize a.eval=f at *
 go_simp
theorem q9tf{g:Nat}(hx:a.eval (.tmp x) = .pointer (some ⟨g,0,none⟩)) :
 (execOp a.eval {dst:=d,op := .fieldAddr 28 (.tmp x) 15,type:=r,pos:=p,after:=af,guard:=gd}).run Tryz.prog w = .ok (.value (.pointer (some ⟨g,15,none⟩))) w:=by
 generalize a.eval=f at *
 go_simp
theorem qrr1{g:Nat}(hx:a.eval (.tmp x) = .pointer (some ⟨g,0,none⟩)) :
 (execOp a.eval {dst:=d,op := .fieldAddr 28 (.tmp x) 16,type:=r,pos:=p,after:=af,guard:=gd}).run Tryz.prog w = .ok (.value (.pointer (some ⟨g,20,none⟩))) w:=by
 generalize a.eval=f at *
 go_simp
theorem qpep{g:Nat}(hx:a.eval (.tmp x) = .pointer (some ⟨g,0,none⟩)) :
 (execOp a.eval {dst:=d,op := .fieldAddr 28 (.tmp x) 17,type:=r,pos:=p,after:=af,guard:=gd}).run Tryz.prog w = .ok (.value (.pointer (some ⟨g,21,none⟩))) w:=by
 generalize a.eval=f at *
 go_simp
theorem q10c{g:Nat}(hx:a.eval (.tmp x) = .pointer (some ⟨g,0,none⟩)) :
 (execOp a.eval {dst:=d,op := .fieldAddr 28 (.tmp x) 20,type:=r,pos:=p,after:=af,guard:=gd}).run Tryz.prog w = .ok (.value (.pointer (some ⟨g,24,none⟩))) w:=by
 generalize a.eval=f at *
 go_simp
theorem qg9y{g:Nat}(hx:a.eval (.tmp x) = .pointer (some ⟨g,15,none⟩)) :
 (execOp a.eval {dst:=d,op := .fieldAddr 24 (.tmp x) 0,type:=r,pos:=p,after:=af,guard:=gd}).run Tryz.prog w = .ok (.value (.pointer (some ⟨g,15,none⟩))) w:=by
 generalize a.eval=f at *
 go_simp
theorem q67a{g:Nat}(hx:a.eval (.tmp x) = .pointer (some ⟨g,15,none⟩)) :
 (execOp a.eval {dst:=d,op := .fieldAddr 24 (.tmp x) 1,type:=r,pos:=p,after:=af,guard:=gd}).run Tryz.prog w = .ok (.value (.pointer (some ⟨g,16,none⟩))) w:=by
 generalize a.eval=f at *
 go_simp
theorem q95n{g:Nat}(hx:a.eval (.tmp x) = .pointer (some ⟨g,15,none⟩)) :
 (execOp a.eval {dst:=d,op := .fieldAddr 24 (.tmp x) 4,type:=r,pos:=p,after:=af,guard:=gd}).run Tryz.prog w = .ok (.value (.pointer (some ⟨g,19,none⟩))) w:=by
 generalize a.eval=f at *
 go_simp
theorem qmmx{g j:Nat}{n:Int}(hx:a.eval (.tmp x) = .pointer (some ⟨g,j,none⟩))(hc:w.cell? ⟨g,j,none⟩=some (.int .i64 n)) :
 (execOp a.eval {dst:=d,op := .load 3 (.tmp x),type:=3,pos:=p,after:=af,guard:=gd}).run Tryz.prog w = .ok (.value (.int .i64 n)) w:=by
 generalize a.eval=f at *
 go_simp
theorem qylu{g j:Nat}{n:Bool}(hx:a.eval (.tmp x) = .pointer (some ⟨g,j,none⟩))(hc:w.cell? ⟨g,j,none⟩=some (.bool n)) :
 (execOp a.eval {dst:=d,op := .load 4 (.tmp x),type:=4,pos:=p,after:=af,guard:=gd}).run Tryz.prog w = .ok (.value (.bool n)) w:=by
 generalize a.eval=f at *
 go_simp
theorem qser{g j:Nat}{n:ByteArray}(hx:a.eval (.tmp x) = .pointer (some ⟨g,j,none⟩))(hc:w.cell? ⟨g,j,none⟩=some (.string n)) :
 (execOp a.eval {dst:=d,op := .load 9 (.tmp x),type:=9,pos:=p,after:=af,guard:=gd}).run Tryz.prog w = .ok (.value (.string n)) w:=by
 generalize a.eval=f at *
 go_simp
theorem q27s{g j n c:Nat}{A:Option Addr}(hx:a.eval (.tmp x) = .pointer (some ⟨g,j,none⟩))(hc:w.cell? ⟨g,j,none⟩=some (.slice A n c)) :
 (execOp a.eval {dst:=d,op := .load 22 (.tmp x),type:=22,pos:=p,after:=af,guard:=gd}).run Tryz.prog w = .ok (.value (.slice A n c)) w:=by
 generalize a.eval=f at *
 go_simp
theorem qobe{n:Int}(hx:a.eval (.tmp x) = .int .i64 n)(hw:IntKind.u64.wrap n=n) :
 (execOp a.eval {dst:=d,op := .convert 3 61 (.tmp x),type:=r,pos:=p,after:=af,guard:=gd}).run Tryz.prog w = .ok (.value (.int .u64 n)) w:=by
 generalize a.eval=f at *
 go_simp
theorem qpvg{u v:Int}(hx:a.eval (.tmp x) = .int .i64 u)(hy:a.eval (.tmp y) = .int .i64 v) :
 (execOp a.eval {dst:=d,op := .buildSlice 25 2 #[(0,.tmp x),(1,.tmp y)],type:=r,pos:=p,after:=af,guard:=gd}).run Tryz.prog w = .ok (.value (.slice (some ⟨w.heap.size,0,none⟩) 2 2)) (w.alloc (.cells #[.int .i64 u,.int .i64 v] 3)):=by
 generalize a.eval=f at *
 go_simp
theorem qs4m{u:ByteArray}(hx:a.eval (.tmp x) = .string u) :
 (execOp a.eval {dst:=d,op := .buildSlice 118 1 #[(0,.tmp x)],type:=r,pos:=p,after:=af,guard:=gd}).run Tryz.prog w = .ok (.value (.slice (some ⟨w.heap.size,0,none⟩) 1 1)) (w.alloc (.cells #[.string u] 9)):=by
 generalize a.eval=f at *
 go_simp
theorem q3b0{u v:ByteArray}(hx:a.eval (.tmp x) = .string u)(hy:a.eval (.tmp y) = .string v) :
 (execOp a.eval {dst:=d,op := .buildSlice 118 2 #[(0,.tmp x),(1,.tmp y)],type:=r,pos:=p,after:=af,guard:=gd}).run Tryz.prog w = .ok (.value (.slice (some ⟨w.heap.size,0,none⟩) 2 2)) (w.alloc (.cells #[.string u,.string v] 9)):=by
 generalize a.eval=f at *
 go_simp
theorem ql0f{z1 z2 z3 z4 z5 z6 z7:Tmp}{u1 u2 u3 u4 u5 u6 u7:ByteArray}(h1:a.eval (.tmp z1) = .string u1)(h2:a.eval (.tmp z2) = .string u2)(h3:a.eval (.tmp z3) = .string u3)(h4:a.eval (.tmp z4) = .string u4)(h5:a.eval (.tmp z5) = .string u5)(h6:a.eval (.tmp z6) = .string u6)(h7:a.eval (.tmp z7) = .string u7) :
 (execOp a.eval {dst:=d,op := .buildSlice 118 8 #[(0,.const (.string {data:=#[0,4,77,81,84,84]})),(1,.tmp z1),(2,.tmp z2),(3,.tmp z3),(4,.tmp z4),(5,.tmp z5),(6,.tmp z6),(7,.tmp z7)],type:=r,pos:=p,after:=af,guard:=gd}).run Tryz.prog w = .ok (.value (.slice (some ⟨w.heap.size,0,none⟩) 8 8)) (w.alloc (.cells #[.string {data:=#[0,4,77,81,84,84]},.string u1,.string u2,.string u3,.string u4,.string u5,.string u6,.string u7] 9)):=by
 have hk:a.eval (.const (.string {data:=#[0,4,77,81,84,84]})) = .string {data:=#[0,4,77,81,84,84]}:=rfl
 generalize a.eval=f at *
 go_simp
theorem qy8l{ts:Array TypeId}{u:Value}(hx:a.eval (.tmp x)=u) :
 (execOp a.eval {dst:=d,op := .call {callee := .value (.func 37),args:=#[.tmp x,.const (.int .i64 1)],argTypes:=ts},type:=r,pos:=p,after:=af,guard:=gd}).run Tryz.prog w = .ok (.enter 37 #[u,.int .i64 1]) w:=by
 have hf:a.eval (.func 37) = .func (.func 37) #[] #[]:=rfl
 have hc1:a.eval (.const (.int .i64 1)) = .int .i64 1:=rfl
 generalize a.eval=f at *
 go_simp
theorem qhop{ts:Array TypeId}{u:Value}(hx:a.eval (.tmp x)=u) :
 (execOp a.eval {dst:=d,op := .call {callee := .value (.func 36),args:=#[.tmp x],argTypes:=ts},type:=r,pos:=p,after:=af,guard:=gd}).run Tryz.prog w = .ok (.enter 36 #[u]) w:=by
 have hf:a.eval (.func 36) = .func (.func 36) #[] #[]:=rfl
 generalize a.eval=f at *
 go_simp
theorem qwt7{ts:Array TypeId}{u v u3:Value}(hx:a.eval (.tmp x)=u)(hy:a.eval (.tmp y)=v)(hz:a.eval (.tmp z)=u3) :
 (execOp a.eval {dst:=d,op := .call {callee := .value (.func 38),args:=#[.tmp x,.tmp y,.tmp z],argTypes:=ts},type:=r,pos:=p,after:=af,guard:=gd}).run Tryz.prog w = .ok (.enter 38 #[u,v,u3]) w:=by
 have hf:a.eval (.func 38) = .func (.func 38) #[] #[]:=rfl
 generalize a.eval=f at *
 go_simp
theorem qknt{ts:Array TypeId}{u v:Value}(hx:a.eval (.tmp x)=u)(hy:a.eval (.tmp y)=v) :
 (execOp a.eval {dst:=d,op := .call {callee := .value (.func 38),args:=#[.tmp x,.const (.int .i64 16),.tmp y],argTypes:=ts},type:=r,pos:=p,after:=af,guard:=gd}).run Tryz.prog w = .ok (.enter 38 #[u,.int .i64 16,v]) w:=by
 have hf:a.eval (.func 38) = .func (.func 38) #[] #[]:=rfl
 have hc1:a.eval (.const (.int .i64 16)) = .int .i64 16:=rfl
 generalize a.eval=f at *
 go_simp
theorem qqqf{ts:Array TypeId}{u:Value}(hx:a.eval (.tmp x)=u) :
 (execOp a.eval {dst:=d,op := .call {callee := .value (.func 18),args:=#[.tmp x],argTypes:=ts},type:=r,pos:=p,after:=af,guard:=gd}).run Tryz.prog w = .ok (.enter 18 #[u]) w:=by
 have hf:a.eval (.func 18) = .func (.func 18) #[] #[]:=rfl
 generalize a.eval=f at *
 go_simp
theorem qdxz{ts:Array TypeId}{u:Value}(hx:a.eval (.tmp x)=u) :
 (execOp a.eval {dst:=d,op := .call {callee := .value (.func 39),args:=#[.tmp x,.const (.int .i64 2)],argTypes:=ts},type:=r,pos:=p,after:=af,guard:=gd}).run Tryz.prog w = .ok (.enter 39 #[u,.int .i64 2]) w:=by
 have hf:a.eval (.func 39) = .func (.func 39) #[] #[]:=rfl
 have hc1:a.eval (.const (.int .i64 2)) = .int .i64 2:=rfl
 generalize a.eval=f at *
 go_simp
theorem qi5v{ts:Array TypeId}{u:Value}(hx:a.eval (.tmp x)=u) :
 (execOp a.eval {dst:=d,op := .call {callee := .value (.func 40),args:=#[.tmp x],argTypes:=ts},type:=r,pos:=p,after:=af,guard:=gd}).run Tryz.prog w = .ok (.enter 40 #[u]) w:=by
 have hf:a.eval (.func 40) = .func (.func 40) #[] #[]:=rfl
 generalize a.eval=f at *
 go_simp
theorem qj03{ts:Array TypeId}{u v:Value}(hx:a.eval (.tmp x)=u)(hy:a.eval (.tmp y)=v) :
 (execOp a.eval {dst:=d,op := .call {callee := .value (.func 41),args:=#[.tmp x,.tmp y],argTypes:=ts},type:=r,pos:=p,after:=af,guard:=gd}).run Tryz.prog w = .ok (.enter 41 #[u,v]) w:=by
 have hf:a.eval (.func 41) = .func (.func 41) #[] #[]:=rfl
 generalize a.eval=f at *
 go_simp
theorem qszs{ts:Array TypeId}{u:Value}(hx:a.eval (.tmp x)=u) :
 (execOp a.eval {dst:=d,op := .call {callee := .value (.func 35),args:=#[.tmp x],argTypes:=ts},type:=r,pos:=p,after:=af,guard:=gd}).run Tryz.prog w = .ok (.enter 35 #[u]) w:=by
 have hf:a.eval (.func 35) = .func (.func 35) #[] #[]:=rfl
 generalize a.eval=f at *
 go_simp
end
theorem q2ps{Q:Exit→Act→World→Prop}{S:(Nat→Option Nat)→World→Prop}{W:World}{B:Nat}{v:Int}{C:Array Value}{k code:Int}{session:Bool}{bit:Int}{A:Option Addr}{n c:Nat}{sO sP sR:ByteArray}{x2 x6 x7 x8 x9 x10 x11 x12 x13 x14 x15 x16 x17 x18 x19 x20 x21 x22 x23 x24 x25 x26 x27 x28 x29 x30 x31 x32 x33 x34 x35 x36 x37 x38 x39 x40 x41 x42 x43 x44 x45 x46 x47 x48 x49 x50 x51 x52 x53 x54 x55 x56 x57 x58 x59 x60 x61 x62 x63 x64 x65 x66 x67 x68 x69 x70 x71 x72 x73 x74 x75 x76 x77 x78 x79 x80 x81 x82 x83 x84:Value}
 (hS:S (fun _=>none) W.drew)
 (K0:∀x w,S x w→w.cell? ⟨B,0,none⟩=some (.int .i64 k))
 (K20:∀x w,S x w→w.cell? ⟨B,20,none⟩=some (.bool session))
 (K21:∀x w,S x w→w.cell? ⟨B,21,none⟩=some (.int .i64 code))
 (K24:∀x w,S x w→w.cell? ⟨B,24,none⟩=some (.slice A n c))
 (M5:∀x w,S x w→S (putG x 5 w.heap.size) (w.alloc (.cells #[.int .i64 bit,.int .i64 code] 3)))
 (M13:∀x w,S x w→S (putG x 13 w.heap.size) (w.alloc (.cells #[.string sO,.string sP] 9)))
 (H18:∀(x:Nat→Option Nat) (w:World),S x w→Calls Tryz.prog 37 #[.bool session,.int .i64 1] w fun e w'=>e = .returned (.int .i64 bit)∧S x w')
 (H22:∀(x:Nat→Option Nat) (w:World),S x w→(x 5).isSome=true→Calls Tryz.prog 36 #[rowN 2 (x 5)] w fun e w'=>e = .returned (.string sO)∧S x w')
 (H28:∀(x:Nat→Option Nat) (w:World),S x w→Calls Tryz.prog 38 #[.int .i64 v,.int .i64 k,.slice A n c] w fun e w'=>e = .returned (.string sP)∧S x w')
 (H30:∀(x:Nat→Option Nat) (w:World),S x w→(x 13).isSome=true→Calls Tryz.prog 35 #[rowN 2 (x 13)] w fun e w'=>e = .returned (.string sR)∧S x w')
 (fin:∀(x:Nat→Option Nat) (r5 r13:Value) w,S x w→Q .normal ⟨#[(.int .i64 v),(.agg C),x2,(.pointer (some ⟨B,0,none⟩)),(.string sR),(.int .i64 0),x6,x7,x8,x9,x10,x11,x12,x13,x14,x15,(.pointer (some ⟨B,20,none⟩)),(.bool session),(.int .i64 bit),(.pointer (some ⟨B,21,none⟩)),(.int .i64 code),r5,(.string sO),(.int .i64 v),(.pointer (some ⟨B,0,none⟩)),(.int .i64 k),(.pointer (some ⟨B,24,none⟩)),(.slice A n c),(.string sP),r13,(.string sR),x31,x32,x33,x34,x35,x36,x37,x38,x39,x40,x41,x42,x43,x44,x45,x46,x47,x48,x49,x50,x51,x52,x53,x54,x55,x56,x57,x58,x59,x60,x61,x62,x63,x64,x65,x66,x67,x68,x69,x70,x71,x72,x73,x74,x75,x76,x77,x78,x79,x80,x81,x82,x83,x84],[]⟩ w) :
 (Code.region 5 (qfhu.opsAt 5 Tryz.f10.body) true).wp Tryz.prog Q ⟨#[(.int .i64 v),(.agg C),x2,(.pointer (some ⟨B,0,none⟩)),(.string ⟨#[]⟩),(.int .i64 0),x6,x7,x8,x9,x10,x11,x12,x13,x14,x15,x16,x17,x18,x19,x20,x21,x22,x23,x24,x25,x26,x27,x28,x29,x30,x31,x32,x33,x34,x35,x36,x37,x38,x39,x40,x41,x42,x43,x44,x45,x46,x47,x48,x49,x50,x51,x52,x53,x54,x55,x56,x57,x58,x59,x60,x61,x62,x63,x64,x65,x66,x67,x68,x69,x70,x71,x72,x73,x74,x75,x76,x77,x78,x79,x80,x81,x82,x83,x84],[]⟩ W:=by
 refine q2y4.wp (x:=fun _=>none) (S:=S) (made:=fun i x=>[5,13].contains i=true→(x i).isSome=true) (war:=[]) (ds:=[16,17,18,19,20,21,22,23,24,25,26,27,28,29,30,4,5]) (D:=[]) (by kernel_rfl) (by kernel_rfl) (by kernel_rfl) ?_ hS ?_ (fun x w _ hS=>fin x (rowN 2 (x 5)) (rowN 2 (x 13)) w hS)
 ·exact fun x=>(by repeat (first | exact trivial | refine⟨.inr rfl,?_⟩ | refine⟨.inl rfl,?_⟩))
 refine q2y4.pu rfl rfl (fun _ h=>absurd h (by decide)) (fun x w hm hS=>⟨rfl,rfl,qrr1 rfl⟩) ?_
 refine q2y4.pu rfl rfl (fun _ h=>absurd h (by decide)) (fun x w hm hS=>⟨rfl,rfl,qylu rfl (K20 x w hS)⟩) ?_
 refine q2y4.All.step rfl (q2y4.Does.call (args:=fun x=>#[.bool session,.int .i64 1]) (val:=fun x=>(.int .i64 bit)) rfl (fun _ h=>absurd h (by decide)) (fun x w hm hS=>⟨rfl,rfl,qy8l rfl,H18 x w hS⟩)) ?_
 refine q2y4.pu rfl rfl (fun _ h=>absurd h (by decide)) (fun x w hm hS=>⟨rfl,rfl,qpep rfl⟩) ?_
 refine q2y4.pu rfl rfl (fun _ h=>absurd h (by decide)) (fun x w hm hS=>⟨rfl,rfl,qmmx rfl (K21 x w hS)⟩) ?_
 refine q2y4.All.step rfl ((fun x w hm hS => .inl ⟨rfl,.value (.slice (some ⟨w.heap.size,0,none⟩) 2 2) (putG x 5 w.heap.size) _ (qpvg rfl rfl) ⟨fun d hd=>by cases hd;rfl,M5 x w hS,fun _=>rfl,fun i h hc=>qpwk (h hc),[21],by kernel_rfl,(by repeat (first | exact trivial | refine⟨.inr rfl,?_⟩ | refine⟨.inl rfl,?_⟩))⟩⟩)) ?_
 refine q2y4.All.step rfl (q2y4.Does.call (args:=fun x=>#[rowN 2 (x 5)]) (val:=fun x=>(.string sO)) rfl (fun _ h=>absurd h (by decide)) (fun x w hm hS=>⟨rfl,rfl,qhop rfl,(fun _ _ _=>H22 x w hS (hm 5 (by kernel_rfl) (by decide) (by decide))) x w hS⟩)) ?_
 refine q2y4.pu rfl rfl (fun _ h=>absurd h (by decide)) (fun x w hm hS=>⟨rfl,rfl,rfl⟩) ?_
 refine q2y4.pu rfl rfl (fun _ h=>absurd h (by decide)) (fun x w hm hS=>⟨rfl,rfl,q7bh rfl⟩) ?_
 refine q2y4.pu rfl rfl (fun _ h=>absurd h (by decide)) (fun x w hm hS=>⟨rfl,rfl,qmmx rfl (K0 x w hS)⟩) ?_
 refine q2y4.pu rfl rfl (fun _ h=>absurd h (by decide)) (fun x w hm hS=>⟨rfl,rfl,q10c rfl⟩) ?_
 refine q2y4.pu rfl rfl (fun _ h=>absurd h (by decide)) (fun x w hm hS=>⟨rfl,rfl,q27s rfl (K24 x w hS)⟩) ?_
 refine q2y4.All.step rfl (q2y4.Does.call (args:=fun x=>#[.int .i64 v,.int .i64 k,.slice A n c]) (val:=fun x=>(.string sP)) rfl (fun _ h=>absurd h (by decide)) (fun x w hm hS=>⟨rfl,rfl,qwt7 rfl rfl rfl,H28 x w hS⟩)) ?_
 refine q2y4.All.step rfl ((fun x w hm hS => .inl ⟨rfl,.value (.slice (some ⟨w.heap.size,0,none⟩) 2 2) (putG x 13 w.heap.size) _ (q3b0 rfl rfl) ⟨fun d hd=>by cases hd;rfl,M13 x w hS,fun _=>rfl,fun i h hc=>qpwk (h hc),[29],by kernel_rfl,(by repeat (first | exact trivial | refine⟨.inr rfl,?_⟩ | refine⟨.inl rfl,?_⟩))⟩⟩)) ?_
 refine q2y4.All.step rfl (q2y4.Does.call (args:=fun x=>#[rowN 2 (x 13)]) (val:=fun x=>(.string sR)) rfl (fun _ h=>absurd h (by decide)) (fun x w hm hS=>⟨rfl,rfl,qszs rfl,(fun _ _ _=>H30 x w hS (hm 13 (by kernel_rfl) (by decide) (by decide))) x w hS⟩)) ?_
 iterate 2 refine q2y4.pu rfl rfl (fun _ h=>absurd h (by decide)) (fun x w hm hS=>⟨rfl,rfl,rfl⟩) ?_
 exact q2y4.All.fin rfl
theorem qnpt{Q:Exit→Act→World→Prop}{S:(Nat→Option Nat)→World→Prop}{W:World}{B:Nat}{v:Int}{C:Array Value}{k keep F:Int}{hu ha hw_:Bool}{A AW:Option Addr}{n c nw cw:Nat}{sO sK sP sC sCp sW sT sY sYp sZ sU sUp sUw sA sAp sAw sR:ByteArray}{x2 x6 x7 x8 x9 x10 x11 x12 x13 x14 x15 x16 x17 x18 x19 x20 x21 x22 x23 x24 x25 x26 x27 x28 x29 x30 x31 x32 x33 x34 x35 x36 x37 x38 x39 x40 x41 x42 x43 x44 x45 x46 x47 x48 x49 x50 x51 x52 x53 x54 x55 x56 x57 x58 x59 x60 x61 x62 x63 x64 x65 x66 x67 x68 x69 x70 x71 x72 x73 x74 x75 x76 x77 x78 x79 x80 x81 x82 x83 x84:Value}
 (hS:S (fun _=>none) W.drew) (hC:C.size=25) (hS1:∀x w,S x w→w.heap[B]? = some (.cells C 28 (0,0))) (hw:IntKind.u64.wrap keep=keep)
 (K0:∀x w,S x w→w.cell? ⟨B,0,none⟩=some (.int .i64 k))
 (K8:∀x w,S x w→w.cell? ⟨B,8,none⟩=some (.int .i64 keep))
 (K9:∀x w,S x w→w.cell? ⟨B,9,none⟩=some (.string sC))
 (K10:∀x w,S x w→w.cell? ⟨B,10,none⟩=some (.bool hu))
 (K11:∀x w,S x w→w.cell? ⟨B,11,none⟩=some (.string sU))
 (K12:∀x w,S x w→w.cell? ⟨B,12,none⟩=some (.bool ha))
 (K13:∀x w,S x w→w.cell? ⟨B,13,none⟩=some (.string sA))
 (K14:∀x w,S x w→w.cell? ⟨B,14,none⟩=some (.bool hw_))
 (K15:∀x w,S x w→w.cell? ⟨B,15,none⟩=some (.string sT))
 (K16:∀x w,S x w→w.cell? ⟨B,16,none⟩=some (.string sY))
 (K19:∀x w,S x w→w.cell? ⟨B,19,none⟩=some (.slice AW nw cw))
 (K24:∀x w,S x w→w.cell? ⟨B,24,none⟩=some (.slice A n c))
 (M3:∀x w,S x w→S (putG x 3 w.heap.size) (w.alloc (.cells #[.int .i64 v,.int .i64 F] 3)))
 (M17:∀x w,S x w→S (putG x 17 w.heap.size) (w.alloc (.cells #[.string sC] 9)))
 (M32:∀x w,S x w→S (putG x 32 w.heap.size) (w.alloc (.cells #[.string sT,.string sY] 9)))
 (M34:∀x w,S x w→S (putG x 34 w.heap.size) (w.alloc (.cells #[.string sW,.string sYp] 9)))
 (M40:∀x w,S x w→S (putG x 40 w.heap.size) (w.alloc (.cells #[.string sU] 9)))
 (M42:∀x w,S x w→S (putG x 42 w.heap.size) (w.alloc (.cells #[.string sUp] 9)))
 (M48:∀x w,S x w→S (putG x 48 w.heap.size) (w.alloc (.cells #[.string sA] 9)))
 (M50:∀x w,S x w→S (putG x 50 w.heap.size) (w.alloc (.cells #[.string sAp] 9)))
 (M52:∀x w,S x w→S (putG x 52 w.heap.size) (w.alloc (.cells #[.string {data:=#[0,4,77,81,84,84]},.string sO,.string sK,.string sP,.string sCp,.string sZ,.string sUw,.string sAw] 9)))
 (H33:∀(x:Nat→Option Nat) (w:World),S x w→Calls Tryz.prog 18 #[.agg C] w fun e w'=>e = .returned (.int .i64 F)∧S x w')
 (H35:∀(x:Nat→Option Nat) (w:World),S x w→(x 3).isSome=true→Calls Tryz.prog 36 #[rowN 2 (x 3)] w fun e w'=>e = .returned (.string sO)∧S x w')
 (H39:∀(x:Nat→Option Nat) (w:World),S x w→Calls Tryz.prog 39 #[.int .u64 keep,.int .i64 2] w fun e w'=>e = .returned (.string sK)∧S x w')
 (H45:∀(x:Nat→Option Nat) (w:World),S x w→Calls Tryz.prog 38 #[.int .i64 v,.int .i64 k,.slice A n c] w fun e w'=>e = .returned (.string sP)∧S x w')
 (H49:∀(x:Nat→Option Nat) (w:World),S x w→(x 17).isSome=true→Calls Tryz.prog 40 #[rowN 1 (x 17)] w fun e w'=>e = .returned (.string sCp)∧S x w')
 (H56:∀(x:Nat→Option Nat) (w:World),S x w→Calls Tryz.prog 38 #[.int .i64 v,.int .i64 16,.slice AW nw cw] w fun e w'=>e = .returned (.string sW)∧S x w')
 (H64:∀(x:Nat→Option Nat) (w:World),S x w→(x 32).isSome=true→Calls Tryz.prog 40 #[rowN 2 (x 32)] w fun e w'=>e = .returned (.string sYp)∧S x w')
 (H66:∀(x:Nat→Option Nat) (w:World),S x w→(x 34).isSome=true→Calls Tryz.prog 41 #[.bool hw_,rowN 2 (x 34)] w fun e w'=>e = .returned (.string sZ)∧S x w')
 (H72:∀(x:Nat→Option Nat) (w:World),S x w→(x 40).isSome=true→Calls Tryz.prog 40 #[rowN 1 (x 40)] w fun e w'=>e = .returned (.string sUp)∧S x w')
 (H74:∀(x:Nat→Option Nat) (w:World),S x w→(x 42).isSome=true→Calls Tryz.prog 41 #[.bool hu,rowN 1 (x 42)] w fun e w'=>e = .returned (.string sUw)∧S x w')
 (H80:∀(x:Nat→Option Nat) (w:World),S x w→(x 48).isSome=true→Calls Tryz.prog 40 #[rowN 1 (x 48)] w fun e w'=>e = .returned (.string sAp)∧S x w')
 (H82:∀(x:Nat→Option Nat) (w:World),S x w→(x 50).isSome=true→Calls Tryz.prog 41 #[.bool ha,rowN 1 (x 50)] w fun e w'=>e = .returned (.string sAw)∧S x w')
 (H84:∀(x:Nat→Option Nat) (w:World),S x w→(x 52).isSome=true→Calls Tryz.prog 35 #[rowN 8 (x 52)] w fun e w'=>e = .returned (.string sR)∧S x w')
 (fin:∀(x:Nat→Option Nat) (r3 r17 r32 r34 r40 r42 r48 r50 r52:Value) w,S x w→Q .normal ⟨#[(.int .i64 v),(.agg C),x2,(.pointer (some ⟨B,0,none⟩)),(.string sR),(.int .i64 0),x6,x7,x8,x9,x10,x11,x12,x13,x14,x15,x16,x17,x18,x19,x20,x21,x22,x23,x24,x25,x26,x27,x28,x29,x30,(.int .i64 v),(.agg C),(.int .i64 F),r3,(.string sO),(.pointer (some ⟨B,8,none⟩)),(.int .i64 keep),(.int .u64 keep),(.string sK),(.int .i64 v),(.pointer (some ⟨B,0,none⟩)),(.int .i64 k),(.pointer (some ⟨B,24,none⟩)),(.slice A n c),(.string sP),(.pointer (some ⟨B,9,none⟩)),(.string sC),r17,(.string sCp),(.pointer (some ⟨B,14,none⟩)),(.bool hw_),(.int .i64 v),(.pointer (some ⟨B,15,none⟩)),(.pointer (some ⟨B,19,none⟩)),(.slice AW nw cw),(.string sW),(.pointer (some ⟨B,15,none⟩)),(.pointer (some ⟨B,15,none⟩)),(.string sT),(.pointer (some ⟨B,15,none⟩)),(.pointer (some ⟨B,16,none⟩)),(.string sY),r32,(.string sYp),r34,(.string sZ),(.pointer (some ⟨B,10,none⟩)),(.bool hu),(.pointer (some ⟨B,11,none⟩)),(.string sU),r40,(.string sUp),r42,(.string sUw),(.pointer (some ⟨B,12,none⟩)),(.bool ha),(.pointer (some ⟨B,13,none⟩)),(.string sA),r48,(.string sAp),r50,(.string sAw),r52,(.string sR)],[]⟩ w) :
 (Code.region 6 (qfhu.opsAt 6 Tryz.f10.body) true).wp Tryz.prog Q ⟨#[(.int .i64 v),(.agg C),x2,(.pointer (some ⟨B,0,none⟩)),(.string ⟨#[]⟩),(.int .i64 0),x6,x7,x8,x9,x10,x11,x12,x13,x14,x15,x16,x17,x18,x19,x20,x21,x22,x23,x24,x25,x26,x27,x28,x29,x30,x31,x32,x33,x34,x35,x36,x37,x38,x39,x40,x41,x42,x43,x44,x45,x46,x47,x48,x49,x50,x51,x52,x53,x54,x55,x56,x57,x58,x59,x60,x61,x62,x63,x64,x65,x66,x67,x68,x69,x70,x71,x72,x73,x74,x75,x76,x77,x78,x79,x80,x81,x82,x83,x84],[]⟩ W:=by
 refine q2y4.wp (x:=fun _=>none) (S:=S) (made:=fun i x=>[3,17,32,34,40,42,48,50,52].contains i=true→(x i).isSome=true) (war:=[]) (ds:=[31,32,33,34,35,36,37,38,39,40,41,42,43,44,45,46,47,48,49,50,51,52,53,54,55,56,57,58,59,60,61,62,63,64,65,66,67,68,69,70,71,72,73,74,75,76,77,78,79,80,81,82,83,84,4,5]) (D:=[]) (by kernel_rfl) (by kernel_rfl) (by kernel_rfl) ?_ hS ?_ (fun x w _ hS=>fin x (rowN 2 (x 3)) (rowN 1 (x 17)) (rowN 2 (x 32)) (rowN 2 (x 34)) (rowN 1 (x 40)) (rowN 1 (x 42)) (rowN 1 (x 48)) (rowN 1 (x 50)) (rowN 8 (x 52)) w hS)
 ·exact fun x=>(by repeat (first | exact trivial | refine⟨.inr rfl,?_⟩ | refine⟨.inl rfl,?_⟩))
 refine q2y4.pu rfl rfl (fun _ h=>absurd h (by decide)) (fun x w hm hS=>⟨rfl,rfl,rfl⟩) ?_
 refine q2y4.pu rfl rfl (fun _ h=>absurd h (by decide)) (fun x w hm hS=>⟨rfl,rfl,qa2f rfl hC (hS1 x w hS)⟩) ?_
 refine q2y4.All.step rfl (q2y4.Does.call (args:=fun x=>#[.agg C]) (val:=fun x=>(.int .i64 F)) rfl (fun _ h=>absurd h (by decide)) (fun x w hm hS=>⟨rfl,rfl,qqqf rfl,H33 x w hS⟩)) ?_
 refine q2y4.All.step rfl ((fun x w hm hS => .inl ⟨rfl,.value (.slice (some ⟨w.heap.size,0,none⟩) 2 2) (putG x 3 w.heap.size) _ (qpvg rfl rfl) ⟨fun d hd=>by cases hd;rfl,M3 x w hS,fun _=>rfl,fun i h hc=>qpwk (h hc),[34],by kernel_rfl,(by repeat (first | exact trivial | refine⟨.inr rfl,?_⟩ | refine⟨.inl rfl,?_⟩))⟩⟩)) ?_
 refine q2y4.All.step rfl (q2y4.Does.call (args:=fun x=>#[rowN 2 (x 3)]) (val:=fun x=>(.string sO)) rfl (fun _ h=>absurd h (by decide)) (fun x w hm hS=>⟨rfl,rfl,qhop rfl,(fun _ _ _=>H35 x w hS (hm 3 (by kernel_rfl) (by decide) (by decide))) x w hS⟩)) ?_
 refine q2y4.pu rfl rfl (fun _ h=>absurd h (by decide)) (fun x w hm hS=>⟨rfl,rfl,q9ys rfl⟩) ?_
 refine q2y4.pu rfl rfl (fun _ h=>absurd h (by decide)) (fun x w hm hS=>⟨rfl,rfl,qmmx rfl (K8 x w hS)⟩) ?_
 refine q2y4.pu rfl rfl (fun _ h=>absurd h (by decide)) (fun x w hm hS=>⟨rfl,rfl,qobe rfl hw⟩) ?_
 refine q2y4.All.step rfl (q2y4.Does.call (args:=fun x=>#[.int .u64 keep,.int .i64 2]) (val:=fun x=>(.string sK)) rfl (fun _ h=>absurd h (by decide)) (fun x w hm hS=>⟨rfl,rfl,qdxz rfl,H39 x w hS⟩)) ?_
 refine q2y4.pu rfl rfl (fun _ h=>absurd h (by decide)) (fun x w hm hS=>⟨rfl,rfl,rfl⟩) ?_
 refine q2y4.pu rfl rfl (fun _ h=>absurd h (by decide)) (fun x w hm hS=>⟨rfl,rfl,q7bh rfl⟩) ?_
 refine q2y4.pu rfl rfl (fun _ h=>absurd h (by decide)) (fun x w hm hS=>⟨rfl,rfl,qmmx rfl (K0 x w hS)⟩) ?_
 refine q2y4.pu rfl rfl (fun _ h=>absurd h (by decide)) (fun x w hm hS=>⟨rfl,rfl,q10c rfl⟩) ?_
 refine q2y4.pu rfl rfl (fun _ h=>absurd h (by decide)) (fun x w hm hS=>⟨rfl,rfl,q27s rfl (K24 x w hS)⟩) ?_
 refine q2y4.All.step rfl (q2y4.Does.call (args:=fun x=>#[.int .i64 v,.int .i64 k,.slice A n c]) (val:=fun x=>(.string sP)) rfl (fun _ h=>absurd h (by decide)) (fun x w hm hS=>⟨rfl,rfl,qwt7 rfl rfl rfl,H45 x w hS⟩)) ?_
 refine q2y4.pu rfl rfl (fun _ h=>absurd h (by decide)) (fun x w hm hS=>⟨rfl,rfl,qvun rfl⟩) ?_
 refine q2y4.pu rfl rfl (fun _ h=>absurd h (by decide)) (fun x w hm hS=>⟨rfl,rfl,qser rfl (K9 x w hS)⟩) ?_
 refine q2y4.All.step rfl ((fun x w hm hS => .inl ⟨rfl,.value (.slice (some ⟨w.heap.size,0,none⟩) 1 1) (putG x 17 w.heap.size) _ (qs4m rfl) ⟨fun d hd=>by cases hd;rfl,M17 x w hS,fun _=>rfl,fun i h hc=>qpwk (h hc),[48],by kernel_rfl,(by repeat (first | exact trivial | refine⟨.inr rfl,?_⟩ | refine⟨.inl rfl,?_⟩))⟩⟩)) ?_
 refine q2y4.All.step rfl (q2y4.Does.call (args:=fun x=>#[rowN 1 (x 17)]) (val:=fun x=>(.string sCp)) rfl (fun _ h=>absurd h (by decide)) (fun x w hm hS=>⟨rfl,rfl,qi5v rfl,(fun _ _ _=>H49 x w hS (hm 17 (by kernel_rfl) (by decide) (by decide))) x w hS⟩)) ?_
 refine q2y4.pu rfl rfl (fun _ h=>absurd h (by decide)) (fun x w hm hS=>⟨rfl,rfl,qndn rfl⟩) ?_
 refine q2y4.pu rfl rfl (fun _ h=>absurd h (by decide)) (fun x w hm hS=>⟨rfl,rfl,qylu rfl (K14 x w hS)⟩) ?_
 refine q2y4.pu rfl rfl (fun _ h=>absurd h (by decide)) (fun x w hm hS=>⟨rfl,rfl,rfl⟩) ?_
 refine q2y4.pu rfl rfl (fun _ h=>absurd h (by decide)) (fun x w hm hS=>⟨rfl,rfl,q9tf rfl⟩) ?_
 refine q2y4.pu rfl rfl (fun _ h=>absurd h (by decide)) (fun x w hm hS=>⟨rfl,rfl,q95n rfl⟩) ?_
 refine q2y4.pu rfl rfl (fun _ h=>absurd h (by decide)) (fun x w hm hS=>⟨rfl,rfl,q27s rfl (K19 x w hS)⟩) ?_
 refine q2y4.All.step rfl (q2y4.Does.call (args:=fun x=>#[.int .i64 v,.int .i64 16,.slice AW nw cw]) (val:=fun x=>(.string sW)) rfl (fun _ h=>absurd h (by decide)) (fun x w hm hS=>⟨rfl,rfl,qknt rfl rfl,H56 x w hS⟩)) ?_
 refine q2y4.pu rfl rfl (fun _ h=>absurd h (by decide)) (fun x w hm hS=>⟨rfl,rfl,q9tf rfl⟩) ?_
 refine q2y4.pu rfl rfl (fun _ h=>absurd h (by decide)) (fun x w hm hS=>⟨rfl,rfl,qg9y rfl⟩) ?_
 refine q2y4.pu rfl rfl (fun _ h=>absurd h (by decide)) (fun x w hm hS=>⟨rfl,rfl,qser rfl (K15 x w hS)⟩) ?_
 refine q2y4.pu rfl rfl (fun _ h=>absurd h (by decide)) (fun x w hm hS=>⟨rfl,rfl,q9tf rfl⟩) ?_
 refine q2y4.pu rfl rfl (fun _ h=>absurd h (by decide)) (fun x w hm hS=>⟨rfl,rfl,q67a rfl⟩) ?_
 refine q2y4.pu rfl rfl (fun _ h=>absurd h (by decide)) (fun x w hm hS=>⟨rfl,rfl,qser rfl (K16 x w hS)⟩) ?_
 refine q2y4.All.step rfl ((fun x w hm hS => .inl ⟨rfl,.value (.slice (some ⟨w.heap.size,0,none⟩) 2 2) (putG x 32 w.heap.size) _ (q3b0 rfl rfl) ⟨fun d hd=>by cases hd;rfl,M32 x w hS,fun _=>rfl,fun i h hc=>qpwk (h hc),[63],by kernel_rfl,(by repeat (first | exact trivial | refine⟨.inr rfl,?_⟩ | refine⟨.inl rfl,?_⟩))⟩⟩)) ?_
 refine q2y4.All.step rfl (q2y4.Does.call (args:=fun x=>#[rowN 2 (x 32)]) (val:=fun x=>(.string sYp)) rfl (fun _ h=>absurd h (by decide)) (fun x w hm hS=>⟨rfl,rfl,qi5v rfl,(fun _ _ _=>H64 x w hS (hm 32 (by kernel_rfl) (by decide) (by decide))) x w hS⟩)) ?_
 refine q2y4.All.step rfl ((fun x w hm hS => .inl ⟨rfl,.value (.slice (some ⟨w.heap.size,0,none⟩) 2 2) (putG x 34 w.heap.size) _ (q3b0 rfl rfl) ⟨fun d hd=>by cases hd;rfl,M34 x w hS,fun _=>rfl,fun i h hc=>qpwk (h hc),[65],by kernel_rfl,(by repeat (first | exact trivial | refine⟨.inr rfl,?_⟩ | refine⟨.inl rfl,?_⟩))⟩⟩)) ?_
 refine q2y4.All.step rfl (q2y4.Does.call (args:=fun x=>#[.bool hw_,rowN 2 (x 34)]) (val:=fun x=>(.string sZ)) rfl (fun _ h=>absurd h (by decide)) (fun x w hm hS=>⟨rfl,rfl,qj03 rfl rfl,(fun _ _ _=>H66 x w hS (hm 34 (by kernel_rfl) (by decide) (by decide))) x w hS⟩)) ?_
 refine q2y4.pu rfl rfl (fun _ h=>absurd h (by decide)) (fun x w hm hS=>⟨rfl,rfl,qux4 rfl⟩) ?_
 refine q2y4.pu rfl rfl (fun _ h=>absurd h (by decide)) (fun x w hm hS=>⟨rfl,rfl,qylu rfl (K10 x w hS)⟩) ?_
 refine q2y4.pu rfl rfl (fun _ h=>absurd h (by decide)) (fun x w hm hS=>⟨rfl,rfl,qo3x rfl⟩) ?_
 refine q2y4.pu rfl rfl (fun _ h=>absurd h (by decide)) (fun x w hm hS=>⟨rfl,rfl,qser rfl (K11 x w hS)⟩) ?_
 refine q2y4.All.step rfl ((fun x w hm hS => .inl ⟨rfl,.value (.slice (some ⟨w.heap.size,0,none⟩) 1 1) (putG x 40 w.heap.size) _ (qs4m rfl) ⟨fun d hd=>by cases hd;rfl,M40 x w hS,fun _=>rfl,fun i h hc=>qpwk (h hc),[71],by kernel_rfl,(by repeat (first | exact trivial | refine⟨.inr rfl,?_⟩ | refine⟨.inl rfl,?_⟩))⟩⟩)) ?_
 refine q2y4.All.step rfl (q2y4.Does.call (args:=fun x=>#[rowN 1 (x 40)]) (val:=fun x=>(.string sUp)) rfl (fun _ h=>absurd h (by decide)) (fun x w hm hS=>⟨rfl,rfl,qi5v rfl,(fun _ _ _=>H72 x w hS (hm 40 (by kernel_rfl) (by decide) (by decide))) x w hS⟩)) ?_
 refine q2y4.All.step rfl ((fun x w hm hS => .inl ⟨rfl,.value (.slice (some ⟨w.heap.size,0,none⟩) 1 1) (putG x 42 w.heap.size) _ (qs4m rfl) ⟨fun d hd=>by cases hd;rfl,M42 x w hS,fun _=>rfl,fun i h hc=>qpwk (h hc),[73],by kernel_rfl,(by repeat (first | exact trivial | refine⟨.inr rfl,?_⟩ | refine⟨.inl rfl,?_⟩))⟩⟩)) ?_
 refine q2y4.All.step rfl (q2y4.Does.call (args:=fun x=>#[.bool hu,rowN 1 (x 42)]) (val:=fun x=>(.string sUw)) rfl (fun _ h=>absurd h (by decide)) (fun x w hm hS=>⟨rfl,rfl,qj03 rfl rfl,(fun _ _ _=>H74 x w hS (hm 42 (by kernel_rfl) (by decide) (by decide))) x w hS⟩)) ?_
 refine q2y4.pu rfl rfl (fun _ h=>absurd h (by decide)) (fun x w hm hS=>⟨rfl,rfl,qy7x rfl⟩) ?_
 refine q2y4.pu rfl rfl (fun _ h=>absurd h (by decide)) (fun x w hm hS=>⟨rfl,rfl,qylu rfl (K12 x w hS)⟩) ?_
 refine q2y4.pu rfl rfl (fun _ h=>absurd h (by decide)) (fun x w hm hS=>⟨rfl,rfl,qsfc rfl⟩) ?_
 refine q2y4.pu rfl rfl (fun _ h=>absurd h (by decide)) (fun x w hm hS=>⟨rfl,rfl,qser rfl (K13 x w hS)⟩) ?_
 refine q2y4.All.step rfl ((fun x w hm hS => .inl ⟨rfl,.value (.slice (some ⟨w.heap.size,0,none⟩) 1 1) (putG x 48 w.heap.size) _ (qs4m rfl) ⟨fun d hd=>by cases hd;rfl,M48 x w hS,fun _=>rfl,fun i h hc=>qpwk (h hc),[79],by kernel_rfl,(by repeat (first | exact trivial | refine⟨.inr rfl,?_⟩ | refine⟨.inl rfl,?_⟩))⟩⟩)) ?_
 refine q2y4.All.step rfl (q2y4.Does.call (args:=fun x=>#[rowN 1 (x 48)]) (val:=fun x=>(.string sAp)) rfl (fun _ h=>absurd h (by decide)) (fun x w hm hS=>⟨rfl,rfl,qi5v rfl,(fun _ _ _=>H80 x w hS (hm 48 (by kernel_rfl) (by decide) (by decide))) x w hS⟩)) ?_
 refine q2y4.All.step rfl ((fun x w hm hS => .inl ⟨rfl,.value (.slice (some ⟨w.heap.size,0,none⟩) 1 1) (putG x 50 w.heap.size) _ (qs4m rfl) ⟨fun d hd=>by cases hd;rfl,M50 x w hS,fun _=>rfl,fun i h hc=>qpwk (h hc),[81],by kernel_rfl,(by repeat (first | exact trivial | refine⟨.inr rfl,?_⟩ | refine⟨.inl rfl,?_⟩))⟩⟩)) ?_
 refine q2y4.All.step rfl (q2y4.Does.call (args:=fun x=>#[.bool ha,rowN 1 (x 50)]) (val:=fun x=>(.string sAw)) rfl (fun _ h=>absurd h (by decide)) (fun x w hm hS=>⟨rfl,rfl,qj03 rfl rfl,(fun _ _ _=>H82 x w hS (hm 50 (by kernel_rfl) (by decide) (by decide))) x w hS⟩)) ?_
 refine q2y4.All.step rfl ((fun x w hm hS => .inl ⟨rfl,.value (.slice (some ⟨w.heap.size,0,none⟩) 8 8) (putG x 52 w.heap.size) _ (ql0f rfl rfl rfl rfl rfl rfl rfl) ⟨fun d hd=>by cases hd;rfl,M52 x w hS,fun _=>rfl,fun i h hc=>qpwk (h hc),[83],by kernel_rfl,(by repeat (first | exact trivial | refine⟨.inr rfl,?_⟩ | refine⟨.inl rfl,?_⟩))⟩⟩)) ?_
 refine q2y4.All.step rfl (q2y4.Does.call (args:=fun x=>#[rowN 8 (x 52)]) (val:=fun x=>(.string sR)) rfl (fun _ h=>absurd h (by decide)) (fun x w hm hS=>⟨rfl,rfl,qszs rfl,(fun _ _ _=>H84 x w hS (hm 52 (by kernel_rfl) (by decide) (by decide))) x w hS⟩)) ?_
 iterate 2 refine q2y4.pu rfl rfl (fun _ h=>absurd h (by decide)) (fun x w hm hS=>⟨rfl,rfl,rfl⟩) ?_
 exact q2y4.All.fin rfl
end Go.Proofs.YtaahhbjnflimnaaGreat
