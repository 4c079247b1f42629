/- The regions of polyglotref08.Body that draw. Condition: none. -/
import Derived.Deep.DeepCutAuto
import Derived.Test.YtaahhbjnflimnaaGreatK02
import Derived.Test.YtaahhbjnflimnaaGreatK49
import Derived.Test.YtaahhbjnflimnaaGreatK27
import Derived.Test.YtaahhbjnflimnaaGreatK38
set_option maxRecDepth 100000
set_option maxHeartbeats 4000000
namespace Go.Proofs.YtaahhbjnflimnaaGreat
open Go.RowKit
def qjuc:Option Nat→Value
 | some g => .slice (some ⟨g,0,none⟩) 2 2
 | none=>undef
section
variable{a:Act}{w:World}{d:Option Tmp}{p:String}{af:Array Edge}{gd:Option (Nat×Bool)}{x y z:Tmp}{r:TypeId}
theorem q3nb{g j:Nat}{k:Int}(hx:a.eval (.tmp x) = .pointer (some ⟨g,j,none⟩))(hc:w.cell? ⟨g,j,none⟩=some (.int .i64 k)) :
 (execOp a.eval {dst:=d,op := .load 3 (.tmp x),type:=3,pos:=p,after:=af,guard:=gd}).run Tryz.prog w = .ok (.value (.int .i64 k)) w:=by
 generalize a.eval=f at *
 go_simp
theorem q4hk{g j:Nat}{k:Bool}(hx:a.eval (.tmp x) = .pointer (some ⟨g,j,none⟩))(hc:w.cell? ⟨g,j,none⟩=some (.bool k)) :
 (execOp a.eval {dst:=d,op := .load 4 (.tmp x),type:=4,pos:=p,after:=af,guard:=gd}).run Tryz.prog w = .ok (.value (.bool k)) w:=by
 generalize a.eval=f at *
 go_simp
theorem qjdc{g j:Nat}{k:ByteArray}(hx:a.eval (.tmp x) = .pointer (some ⟨g,j,none⟩))(hc:w.cell? ⟨g,j,none⟩=some (.string k)) :
 (execOp a.eval {dst:=d,op := .load 9 (.tmp x),type:=9,pos:=p,after:=af,guard:=gd}).run Tryz.prog w = .ok (.value (.string k)) w:=by
 generalize a.eval=f at *
 go_simp
theorem qu1j{g j:Nat}{k:Option Addr}{n c:Nat}(hx:a.eval (.tmp x) = .pointer (some ⟨g,j,none⟩))(hc:w.cell? ⟨g,j,none⟩=some (.slice k n c)) :
 (execOp a.eval {dst:=d,op := .load 22 (.tmp x),type:=22,pos:=p,after:=af,guard:=gd}).run Tryz.prog w = .ok (.value (.slice k n c)) w:=by
 generalize a.eval=f at *
 go_simp
theorem qpcj{g:Nat}{C:Array Value}(hx:a.eval (.tmp x) = .pointer (some ⟨g,0,none⟩))(hs:C.size=25)(hg:w.heap[g]? = some (.cells C 28 (0,0))) :
 (execOp a.eval {dst:=d,op := .load 28 (.tmp x),type:=28,pos:=p,after:=af,guard:=gd}).run Tryz.prog w = .ok (.value (.agg C)) w:=by
 unfold execOp
 simp only[hx,Instr.loadAt,Instr.sureAddr,Sem.run_bind,Sem.run_pure,Result.andThen_ok,run_loadVar_row w g 28 28 C (0,0) _ hg Tryz.underlying28 rfl (by rw[hs];exact q5nr)]
theorem q1zi{v:Int}{b:UInt8}(hx:a.eval (.tmp x) = .int .i64 v)(hw:IntKind.u8.wrap v=(b.toNat:Int)) :
 (execOp a.eval {dst:=d,op := .convert 3 5 (.tmp x),type:=r,pos:=p,after:=af,guard:=gd}).run Tryz.prog w = .ok (.value (.int .u8 b.toNat)) w:=by
 generalize a.eval=f at *
 go_simp
theorem qp89{v:Int}{u:Int}(hx:a.eval (.tmp x) = .int .i64 v)(hw:IntKind.u64.wrap v=u) :
 (execOp a.eval {dst:=d,op := .convert 3 61 (.tmp x),type:=r,pos:=p,after:=af,guard:=gd}).run Tryz.prog w = .ok (.value (.int .u64 u)) w:=by
 generalize a.eval=f at *
 go_simp
theorem qphh{u v:Int}(hx:a.eval (.tmp x) = .int .u8 u)(hy:a.eval (.tmp y) = .int .u8 v) :
 (execOp a.eval {dst:=d,op := .buildSlice 51 2 #[(0,.tmp x),(1,.tmp y)],type:=r,pos:=p,after:=af,guard:=gd}).run Tryz.prog w = .ok (.value (.slice (some ⟨w.heap.size,0,none⟩) 2 2)) (w.alloc (.cells #[.int .u8 u,.int .u8 v] 5)):=by
 generalize a.eval=f at *
 go_simp
theorem qfjm{g:Nat}{b c:UInt8}(hx:a.eval (.tmp x) = .slice (some ⟨g,0,none⟩) 2 2)(hc:w.heap[g]? = some (.cells #[.int .u8 b.toNat,.int .u8 c.toNat] 5 (0,0))) :
 (execOp a.eval {dst:=d,op := .convert 51 9 (.tmp x),type:=r,pos:=p,after:=af,guard:=gd}).run Tryz.prog w = .ok (.value (.string ⟨#[b,c]⟩)) w:=by
 have H:(convert 51 9 (.slice (some ⟨g,0,none⟩) 2 2)).run Tryz.prog w = .ok (.string ⟨#[b,c]⟩) w:=q3j9 (base:=g) [b,c] ⟨rfl,.inr ⟨_,2,_,rfl,Nat.le_refl _,hc,Nat.le_refl _,by decide,rfl,rfl⟩⟩
 generalize a.eval=f at *
 go_simp
theorem qxhk{u v z:ByteArray}(hx:a.eval (.tmp x) = .string u)(hy:a.eval (.tmp y) = .string v)(hz:u++v=z)(hn:z.size≤9223372036854775807) :
 (execOp a.eval {dst:=d,op := .binOp .add 9 (.tmp x) (.tmp y) 9,type:=r,pos:=p,after:=af,guard:=gd}).run Tryz.prog w = .ok (.value (.string z)) w:=by
 have hn:¬9223372036854775807 < u.size+v.size:=by rw[←hz,ByteArray.size_append] at hn;omega
 generalize a.eval=f at *
 rw[←hz]
 go_simp
theorem qlyn{ts:Array TypeId}{u:Value}(hx:a.eval (.tmp x)=u) :
 (execOp a.eval {dst:=d,op := .call {callee := .value (.func 45),args:=#[.tmp x,.const (.int .i64 1)],argTypes:=ts},type:=r,pos:=p,after:=af,guard:=gd}).run Tryz.prog w = .ok (.enter 45 #[u,.int .i64 1]) w:=by
 have hf:a.eval (.func 45) = .func (.func 45) #[] #[]:=rfl
 have hc1:a.eval (.const (.int .i64 1)) = .int .i64 1:=rfl
 generalize a.eval=f at *
 go_simp
theorem qi1a{ts:Array TypeId}{u v u3:Value}(hx:a.eval (.tmp x)=u)(hy:a.eval (.tmp y)=v)(hz:a.eval (.tmp z)=u3) :
 (execOp a.eval {dst:=d,op := .call {callee := .value (.func 46),args:=#[.tmp x,.tmp y,.tmp z],argTypes:=ts},type:=r,pos:=p,after:=af,guard:=gd}).run Tryz.prog w = .ok (.enter 46 #[u,v,u3]) w:=by
 have hf:a.eval (.func 46) = .func (.func 46) #[] #[]:=rfl
 generalize a.eval=f at *
 go_simp
theorem qc0k{g:Nat}(hx:a.eval (.tmp x) = .pointer (some ⟨g,0,none⟩)) :
 (execOp a.eval {dst:=d,op := .fieldAddr 28 (.tmp x) 16,type:=r,pos:=p,after:=af,guard:=gd}).run Tryz.prog w = .ok (.value (.pointer (some ⟨g,20,none⟩))) w:=by
 generalize a.eval=f at *
 go_simp
theorem qer4{g:Nat}(hx:a.eval (.tmp x) = .pointer (some ⟨g,0,none⟩)) :
 (execOp a.eval {dst:=d,op := .fieldAddr 28 (.tmp x) 17,type:=r,pos:=p,after:=af,guard:=gd}).run Tryz.prog w = .ok (.value (.pointer (some ⟨g,21,none⟩))) w:=by
 generalize a.eval=f at *
 go_simp
theorem qx3r{g:Nat}(hx:a.eval (.tmp x) = .pointer (some ⟨g,0,none⟩)) :
 (execOp a.eval {dst:=d,op := .fieldAddr 28 (.tmp x) 0,type:=r,pos:=p,after:=af,guard:=gd}).run Tryz.prog w = .ok (.value (.pointer (some ⟨g,0,none⟩))) w:=by
 generalize a.eval=f at *
 go_simp
theorem qujj{g:Nat}(hx:a.eval (.tmp x) = .pointer (some ⟨g,0,none⟩)) :
 (execOp a.eval {dst:=d,op := .fieldAddr 28 (.tmp x) 20,type:=r,pos:=p,after:=af,guard:=gd}).run Tryz.prog w = .ok (.value (.pointer (some ⟨g,24,none⟩))) w:=by
 generalize a.eval=f at *
 go_simp
theorem q9km{ts:Array TypeId}  :
 (execOp a.eval {dst:=d,op := .call {callee := .value (.func 47),args:=#[.const (.string {data:=#[77,81,84,84]})],argTypes:=ts},type:=r,pos:=p,after:=af,guard:=gd}).run Tryz.prog w = .ok (.enter 47 #[.string {data:=#[77,81,84,84]}]) w:=by
 have hf:a.eval (.func 47) = .func (.func 47) #[] #[]:=rfl
 have hc0:a.eval (.const (.string {data:=#[77,81,84,84]})) = .string {data:=#[77,81,84,84]}:=rfl
 generalize a.eval=f at *
 go_simp
theorem qt50{ts:Array TypeId}{u:Value}(hx:a.eval (.tmp x)=u) :
 (execOp a.eval {dst:=d,op := .call {callee := .value (.func 19),args:=#[.tmp x],argTypes:=ts},type:=r,pos:=p,after:=af,guard:=gd}).run Tryz.prog w = .ok (.enter 19 #[u]) w:=by
 have hf:a.eval (.func 19) = .func (.func 19) #[] #[]:=rfl
 generalize a.eval=f at *
 go_simp
theorem q8rt{ts:Array TypeId}{u:Value}(hx:a.eval (.tmp x)=u) :
 (execOp a.eval {dst:=d,op := .call {callee := .value (.func 48),args:=#[.tmp x,.const (.int .i64 2)],argTypes:=ts},type:=r,pos:=p,after:=af,guard:=gd}).run Tryz.prog w = .ok (.enter 48 #[u,.int .i64 2]) w:=by
 have hf:a.eval (.func 48) = .func (.func 48) #[] #[]:=rfl
 have hc1:a.eval (.const (.int .i64 2)) = .int .i64 2:=rfl
 generalize a.eval=f at *
 go_simp
theorem qvep{ts:Array TypeId}{u:Value}(hx:a.eval (.tmp x)=u) :
 (execOp a.eval {dst:=d,op := .call {callee := .value (.func 47),args:=#[.tmp x],argTypes:=ts},type:=r,pos:=p,after:=af,guard:=gd}).run Tryz.prog w = .ok (.enter 47 #[u]) w:=by
 have hf:a.eval (.func 47) = .func (.func 47) #[] #[]:=rfl
 generalize a.eval=f at *
 go_simp
theorem q3bg{g:Nat}(hx:a.eval (.tmp x) = .pointer (some ⟨g,0,none⟩)) :
 (execOp a.eval {dst:=d,op := .fieldAddr 28 (.tmp x) 8,type:=r,pos:=p,after:=af,guard:=gd}).run Tryz.prog w = .ok (.value (.pointer (some ⟨g,8,none⟩))) w:=by
 generalize a.eval=f at *
 go_simp
theorem q90x{g:Nat}(hx:a.eval (.tmp x) = .pointer (some ⟨g,0,none⟩)) :
 (execOp a.eval {dst:=d,op := .fieldAddr 28 (.tmp x) 9,type:=r,pos:=p,after:=af,guard:=gd}).run Tryz.prog w = .ok (.value (.pointer (some ⟨g,9,none⟩))) w:=by
 generalize a.eval=f at *
 go_simp
theorem qgtkl{ts:Array TypeId}{u v:Value}(hx:a.eval (.tmp x)=u)(hy:a.eval (.tmp y)=v) :
 (execOp a.eval {dst:=d,op := .call {callee := .value (.func 46),args:=#[.tmp x,.const (.int .i64 16),.tmp y],argTypes:=ts},type:=r,pos:=p,after:=af,guard:=gd}).run Tryz.prog w = .ok (.enter 46 #[u,.int .i64 16,v]) w:=by
 have hf:a.eval (.func 46) = .func (.func 46) #[] #[]:=rfl
 have hc1:a.eval (.const (.int .i64 16)) = .int .i64 16:=rfl
 generalize a.eval=f at *
 go_simp
theorem q2h9{g:Nat}(hx:a.eval (.tmp x) = .pointer (some ⟨g,0,none⟩)) :
 (execOp a.eval {dst:=d,op := .fieldAddr 28 (.tmp x) 15,type:=r,pos:=p,after:=af,guard:=gd}).run Tryz.prog w = .ok (.value (.pointer (some ⟨g,15,none⟩))) w:=by
 generalize a.eval=f at *
 go_simp
theorem q7j8{g:Nat}(hx:a.eval (.tmp x) = .pointer (some ⟨g,15,none⟩)) :
 (execOp a.eval {dst:=d,op := .fieldAddr 24 (.tmp x) 4,type:=r,pos:=p,after:=af,guard:=gd}).run Tryz.prog w = .ok (.value (.pointer (some ⟨g,19,none⟩))) w:=by
 generalize a.eval=f at *
 go_simp
theorem qm99{g:Nat}(hx:a.eval (.tmp x) = .pointer (some ⟨g,15,none⟩)) :
 (execOp a.eval {dst:=d,op := .fieldAddr 24 (.tmp x) 0,type:=r,pos:=p,after:=af,guard:=gd}).run Tryz.prog w = .ok (.value (.pointer (some ⟨g,15,none⟩))) w:=by
 generalize a.eval=f at *
 go_simp
theorem qot1{g:Nat}(hx:a.eval (.tmp x) = .pointer (some ⟨g,15,none⟩)) :
 (execOp a.eval {dst:=d,op := .fieldAddr 24 (.tmp x) 1,type:=r,pos:=p,after:=af,guard:=gd}).run Tryz.prog w = .ok (.value (.pointer (some ⟨g,16,none⟩))) w:=by
 generalize a.eval=f at *
 go_simp
end
theorem qnng{Q:Exit→Act→World→Prop}{T:World→Prop}{W:World}{B:Nat}{v k co sb:Int}{se:Bool}{A:Option Addr}{n c:Nat}{TL Z1:ByteArray}{b0 b1:UInt8}{x1 x2 x4 x6 x7 x8 x9 x10 x11 x12 x13 x14 x15 x16 x17 x18 x19 x20 x21 x22 x23 x24 x25 x26 x27 x28 x29 x30 x31 x32 x33 x34 x35 x36 x37 x38 x39 x40 x41 x42 x43 x44 x45 x46 x47 x48 x49 x50 x51 x52 x53 x54 x55 x56 x57 x58 x59 x60 x61 x62 x63 x64 x65 x66 x67 x68 x69 x70 x71 x72 x73 x74 x75 x76 x77 x78 x79 x80 x81 x82 x83 x84 x85 x86 x87 x88 x89 x90 x91:Value}
 (hT:T W.drew) (LO:∀w w',T w→Below w.heap.size w w'→T w') (ML:∀w,T w→T (w.alloc (.cells #[.int .u8 b0.toNat,.int .u8 b1.toNat] 5)))
 (K0:∀w,T w→w.cell? ⟨B,0,none⟩=some (.int .i64 k))
 (K20:∀w,T w→w.cell? ⟨B,20,none⟩=some (.bool se))
 (K21:∀w,T w→w.cell? ⟨B,21,none⟩=some (.int .i64 co))
 (K24:∀w,T w→w.cell? ⟨B,24,none⟩=some (.slice A n c))
 (wb0:IntKind.u8.wrap sb=(b0.toNat:Int)) (wb1:IntKind.u8.wrap co=(b1.toNat:Int)) (eZ1:⟨#[b0,b1]⟩++TL=Z1) (sZ1:Z1.size≤9223372036854775807)
 (H19:∀w,T w→Calls Tryz.prog 45 #[.bool se,.int .i64 1] w fun e w'=>e = .returned (.int .i64 sb)∧Below w.heap.size w w')
 (H31:∀w,T w→Calls Tryz.prog 46 #[.int .i64 v,.int .i64 k,.slice A n c] w fun e w'=>e = .returned (.string TL)∧Below w.heap.size w w')
 (fin:∀(xs:Value) w,T w→Q .normal ⟨#[(.int .i64 v),x1,x2,(.pointer (some ⟨B,0,none⟩)),(.string Z1),(.int .i64 0),x6,x7,x8,x9,x10,x11,x12,x13,x14,x15,x16,(.pointer (some ⟨B,20,none⟩)),(.bool se),(.int .i64 sb),(.int .u8 b0.toNat),(.pointer (some ⟨B,21,none⟩)),(.int .i64 co),(.int .u8 b1.toNat),xs,(.string ⟨#[b0,b1]⟩),(.int .i64 v),(.pointer (some ⟨B,0,none⟩)),(.int .i64 k),(.pointer (some ⟨B,24,none⟩)),(.slice A n c),(.string TL),(.string Z1),x33,x34,x35,x36,x37,x38,x39,x40,x41,x42,x43,x44,x45,x46,x47,x48,x49,x50,x51,x52,x53,x54,x55,x56,x57,x58,x59,x60,x61,x62,x63,x64,x65,x66,x67,x68,x69,x70,x71,x72,x73,x74,x75,x76,x77,x78,x79,x80,x81,x82,x83,x84,x85,x86,x87,x88,x89,x90,x91],[]⟩ w) :
 (Code.region 5 (qfhu.opsAt 5 Tryz.f12.body) true).wp Tryz.prog Q ⟨#[(.int .i64 v),x1,x2,(.pointer (some ⟨B,0,none⟩)),x4,(.int .i64 0),x6,x7,x8,x9,x10,x11,x12,x13,x14,x15,x16,x17,x18,x19,x20,x21,x22,x23,x24,x25,x26,x27,x28,x29,x30,x31,x32,x33,x34,x35,x36,x37,x38,x39,x40,x41,x42,x43,x44,x45,x46,x47,x48,x49,x50,x51,x52,x53,x54,x55,x56,x57,x58,x59,x60,x61,x62,x63,x64,x65,x66,x67,x68,x69,x70,x71,x72,x73,x74,x75,x76,x77,x78,x79,x80,x81,x82,x83,x84,x85,x86,x87,x88,x89,x90,x91],[]⟩ W:=by
 refine q2y4.wp (x:=(none:Option Nat)) (S:=fun x w=>T w∧∀a,x=some a→w.heap[a]? = some (.cells #[.int .u8 b0.toNat,.int .u8 b1.toNat] 5 (0,0))) (made:=fun i x=>i=7→x.isSome=true) (war:=[]) (ds:=[17,18,19,20,21,22,23,24,25,26,27,28,29,30,31,32,4,5]) (D:=[]) (by kernel_rfl) (by kernel_rfl) (by kernel_rfl) ?_ ⟨hT,(fun a ha=>by cases ha)⟩ ?_ (fun x w _ hS=>fin (qjuc x) w hS.1)
 ·exact fun x=>(by repeat (first | exact trivial | refine⟨.inr rfl,?_⟩ | refine⟨.inl rfl,?_⟩))
 refine q2y4.pu rfl rfl (fun _ h=>absurd h (by decide)) (fun x w hm hS=>⟨rfl,rfl,qc0k rfl⟩) ?_
 refine q2y4.pu rfl rfl (fun _ h=>absurd h (by decide)) (fun x w hm hS=>⟨rfl,rfl,q4hk rfl (K20 w hS.1)⟩) ?_
 refine q2y4.All.step rfl (q2y4.Does.call (val:=fun x=>(.int .i64 sb)) rfl (fun _ h=>absurd h (by decide)) (fun x w hm hS=>⟨rfl,rfl,qlyn rfl,(H19 w hS.1).mono fun e w' ⟨h1,h2⟩=>⟨h1,LO w w' hS.1 h2,fun a ha=>(h2.block a (lt_of_block (hS.2 a ha))).trans (hS.2 a ha)⟩⟩)) ?_
 refine q2y4.pu rfl rfl (fun _ h=>absurd h (by decide)) (fun x w hm hS=>⟨rfl,rfl,q1zi rfl wb0⟩) ?_
 refine q2y4.pu rfl rfl (fun _ h=>absurd h (by decide)) (fun x w hm hS=>⟨rfl,rfl,qer4 rfl⟩) ?_
 refine q2y4.pu rfl rfl (fun _ h=>absurd h (by decide)) (fun x w hm hS=>⟨rfl,rfl,q3nb rfl (K21 w hS.1)⟩) ?_
 refine q2y4.pu rfl rfl (fun _ h=>absurd h (by decide)) (fun x w hm hS=>⟨rfl,rfl,q1zi rfl wb1⟩) ?_
 refine q2y4.All.step rfl ((fun x w hm hS => .inl ⟨rfl,.value (.slice (some ⟨w.heap.size,0,none⟩) 2 2) (some w.heap.size) _ (qphh rfl rfl) ⟨fun d hd=>by cases hd;rfl,⟨ML w hS.1,fun a ha=>by cases ha;exact heap_alloc_new w _⟩,fun _=>rfl,fun i hi _=>rfl,[24],by kernel_rfl,(by repeat (first | exact trivial | refine⟨.inr rfl,?_⟩ | refine⟨.inl rfl,?_⟩))⟩⟩)) ?_
 refine q2y4.pu rfl rfl (fun _ h=>absurd h (by decide)) (fun x w hm hS=>⟨rfl,rfl,by obtain⟨g,rfl⟩:=Option.isSome_iff_exists.1 (hm 7 (by kernel_rfl) (by decide) rfl);exact qfjm rfl (hS.2 g rfl)⟩) ?_
 refine q2y4.pu rfl rfl (fun _ h=>absurd h (by decide)) (fun x w hm hS=>⟨rfl,rfl,rfl⟩) ?_
 refine q2y4.pu rfl rfl (fun _ h=>absurd h (by decide)) (fun x w hm hS=>⟨rfl,rfl,qx3r rfl⟩) ?_
 refine q2y4.pu rfl rfl (fun _ h=>absurd h (by decide)) (fun x w hm hS=>⟨rfl,rfl,q3nb rfl (K0 w hS.1)⟩) ?_
 refine q2y4.pu rfl rfl (fun _ h=>absurd h (by decide)) (fun x w hm hS=>⟨rfl,rfl,qujj rfl⟩) ?_
 refine q2y4.pu rfl rfl (fun _ h=>absurd h (by decide)) (fun x w hm hS=>⟨rfl,rfl,qu1j rfl (K24 w hS.1)⟩) ?_
 refine q2y4.All.step rfl (q2y4.Does.call (val:=fun x=>(.string TL)) rfl (fun _ h=>absurd h (by decide)) (fun x w hm hS=>⟨rfl,rfl,qi1a rfl rfl rfl,(H31 w hS.1).mono fun e w' ⟨h1,h2⟩=>⟨h1,LO w w' hS.1 h2,fun a ha=>(h2.block a (lt_of_block (hS.2 a ha))).trans (hS.2 a ha)⟩⟩)) ?_
 refine q2y4.pu rfl rfl (fun _ h=>absurd h (by decide)) (fun x w hm hS=>⟨rfl,rfl,qxhk rfl rfl eZ1 sZ1⟩) ?_
 iterate 2 refine q2y4.pu rfl rfl (fun _ h=>absurd h (by decide)) (fun x w hm hS=>⟨rfl,rfl,rfl⟩) ?_
 exact q2y4.All.fin rfl
theorem qqtl{Q:Exit→Act→World→Prop}{T:World→Prop}{W:World}{B:Nat}{v k F ke kw:Int}{A:Option Addr}{n c:Nat}{M KS TL CI CE Z1 Z2 Z3 Z4:ByteArray}{b0 b1:UInt8}{D:Array Value}{x1 x2 x4 x5 x6 x7 x8 x9 x10 x11 x12 x13 x14 x15 x16 x17 x18 x19 x20 x21 x22 x23 x24 x25 x26 x27 x28 x29 x30 x31 x32 x33 x34 x35 x36 x37 x38 x39 x40 x41 x42 x43 x44 x45 x46 x47 x48 x49 x50 x51 x52 x53 x54 x55 x56 x57 x58 x59 x60 x61 x62 x63 x64 x65 x66 x67 x68 x69 x70 x71 x72 x73 x74 x75 x76 x77 x78 x79 x80 x81 x82 x83 x84 x85 x86 x87 x88 x89 x90 x91:Value}
 (hT:T W.drew) (LO:∀w w',T w→Below w.heap.size w w'→T w') (ML:∀w,T w→T (w.alloc (.cells #[.int .u8 b0.toNat,.int .u8 b1.toNat] 5)))
 (K0:∀w,T w→w.cell? ⟨B,0,none⟩=some (.int .i64 k))
 (K8:∀w,T w→w.cell? ⟨B,8,none⟩=some (.int .i64 ke))
 (K9:∀w,T w→w.cell? ⟨B,9,none⟩=some (.string CI))
 (K24:∀w,T w→w.cell? ⟨B,24,none⟩=some (.slice A n c))
 (hD:D.size=25) (DR:∀w,T w→w.heap[B]? = some (.cells D 28 (0,0)))
 (wb0:IntKind.u8.wrap v=(b0.toNat:Int)) (wb1:IntKind.u8.wrap F=(b1.toNat:Int)) (hkw:IntKind.u64.wrap ke=kw)
 (eZ1:M++⟨#[b0,b1]⟩=Z1) (sZ1:Z1.size≤9223372036854775807) (eZ2:Z1++KS=Z2) (sZ2:Z2.size≤9223372036854775807) (eZ3:Z2++TL=Z3) (sZ3:Z3.size≤9223372036854775807) (eZ4:Z3++CE=Z4) (sZ4:Z4.size≤9223372036854775807)
 (H33:∀w,T w→Calls Tryz.prog 47 #[.string {data:=#[77,81,84,84]}] w fun e w'=>e = .returned (.string M)∧Below w.heap.size w w')
 (H37:∀w,T w→Calls Tryz.prog 19 #[.agg D] w fun e w'=>e = .returned (.int .i64 F)∧Below w.heap.size w w')
 (H45:∀w,T w→Calls Tryz.prog 48 #[.int .u64 kw,.int .i64 2] w fun e w'=>e = .returned (.string KS)∧Below w.heap.size w w')
 (H52:∀w,T w→Calls Tryz.prog 46 #[.int .i64 v,.int .i64 k,.slice A n c] w fun e w'=>e = .returned (.string TL)∧Below w.heap.size w w')
 (H56:∀w,T w→Calls Tryz.prog 47 #[.string CI] w fun e w'=>e = .returned (.string CE)∧Below w.heap.size w w')
 (fin:∀(xs:Value) w,T w→Q .normal ⟨#[(.int .i64 v),x1,x2,(.pointer (some ⟨B,0,none⟩)),x4,x5,x6,(.string Z4),x8,x9,x10,x11,x12,x13,x14,x15,x16,x17,x18,x19,x20,x21,x22,x23,x24,x25,x26,x27,x28,x29,x30,x31,x32,(.string M),(.int .i64 v),(.int .u8 b0.toNat),(.agg D),(.int .i64 F),(.int .u8 b1.toNat),xs,(.string ⟨#[b0,b1]⟩),(.string Z1),(.pointer (some ⟨B,8,none⟩)),(.int .i64 ke),(.int .u64 kw),(.string KS),(.string Z2),(.int .i64 v),(.pointer (some ⟨B,0,none⟩)),(.int .i64 k),(.pointer (some ⟨B,24,none⟩)),(.slice A n c),(.string TL),(.string Z3),(.pointer (some ⟨B,9,none⟩)),(.string CI),(.string CE),(.string Z4),x58,x59,x60,x61,x62,x63,x64,x65,x66,x67,x68,x69,x70,x71,x72,x73,x74,x75,x76,x77,x78,x79,x80,x81,x82,x83,x84,x85,x86,x87,x88,x89,x90,x91],[]⟩ w) :
 (Code.region 6 (qfhu.opsAt 6 Tryz.f12.body) true).wp Tryz.prog Q ⟨#[(.int .i64 v),x1,x2,(.pointer (some ⟨B,0,none⟩)),x4,x5,x6,x7,x8,x9,x10,x11,x12,x13,x14,x15,x16,x17,x18,x19,x20,x21,x22,x23,x24,x25,x26,x27,x28,x29,x30,x31,x32,x33,x34,x35,x36,x37,x38,x39,x40,x41,x42,x43,x44,x45,x46,x47,x48,x49,x50,x51,x52,x53,x54,x55,x56,x57,x58,x59,x60,x61,x62,x63,x64,x65,x66,x67,x68,x69,x70,x71,x72,x73,x74,x75,x76,x77,x78,x79,x80,x81,x82,x83,x84,x85,x86,x87,x88,x89,x90,x91],[]⟩ W:=by
 refine q2y4.wp (x:=(none:Option Nat)) (S:=fun x w=>T w∧∀a,x=some a→w.heap[a]? = some (.cells #[.int .u8 b0.toNat,.int .u8 b1.toNat] 5 (0,0))) (made:=fun i x=>i=6→x.isSome=true) (war:=[]) (ds:=[33,34,35,36,37,38,39,40,41,42,43,44,45,46,47,48,49,50,51,52,53,54,55,56,57,7]) (D:=[]) (by kernel_rfl) (by kernel_rfl) (by kernel_rfl) ?_ ⟨hT,(fun a ha=>by cases ha)⟩ ?_ (fun x w _ hS=>fin (qjuc x) w hS.1)
 ·exact fun x=>(by repeat (first | exact trivial | refine⟨.inr rfl,?_⟩ | refine⟨.inl rfl,?_⟩))
 refine q2y4.All.step rfl (q2y4.Does.call (val:=fun x=>(.string M)) rfl (fun _ h=>absurd h (by decide)) (fun x w hm hS=>⟨rfl,rfl,q9km,(H33 w hS.1).mono fun e w' ⟨h1,h2⟩=>⟨h1,LO w w' hS.1 h2,fun a ha=>(h2.block a (lt_of_block (hS.2 a ha))).trans (hS.2 a ha)⟩⟩)) ?_
 refine q2y4.pu rfl rfl (fun _ h=>absurd h (by decide)) (fun x w hm hS=>⟨rfl,rfl,rfl⟩) ?_
 refine q2y4.pu rfl rfl (fun _ h=>absurd h (by decide)) (fun x w hm hS=>⟨rfl,rfl,q1zi rfl wb0⟩) ?_
 refine q2y4.pu rfl rfl (fun _ h=>absurd h (by decide)) (fun x w hm hS=>⟨rfl,rfl,qpcj rfl hD (DR w hS.1)⟩) ?_
 refine q2y4.All.step rfl (q2y4.Does.call (val:=fun x=>(.int .i64 F)) rfl (fun _ h=>absurd h (by decide)) (fun x w hm hS=>⟨rfl,rfl,qt50 rfl,(H37 w hS.1).mono fun e w' ⟨h1,h2⟩=>⟨h1,LO w w' hS.1 h2,fun a ha=>(h2.block a (lt_of_block (hS.2 a ha))).trans (hS.2 a ha)⟩⟩)) ?_
 refine q2y4.pu rfl rfl (fun _ h=>absurd h (by decide)) (fun x w hm hS=>⟨rfl,rfl,q1zi rfl wb1⟩) ?_
 refine q2y4.All.step rfl ((fun x w hm hS => .inl ⟨rfl,.value (.slice (some ⟨w.heap.size,0,none⟩) 2 2) (some w.heap.size) _ (qphh rfl rfl) ⟨fun d hd=>by cases hd;rfl,⟨ML w hS.1,fun a ha=>by cases ha;exact heap_alloc_new w _⟩,fun _=>rfl,fun i hi _=>rfl,[39],by kernel_rfl,(by repeat (first | exact trivial | refine⟨.inr rfl,?_⟩ | refine⟨.inl rfl,?_⟩))⟩⟩)) ?_
 refine q2y4.pu rfl rfl (fun _ h=>absurd h (by decide)) (fun x w hm hS=>⟨rfl,rfl,by obtain⟨g,rfl⟩:=Option.isSome_iff_exists.1 (hm 6 (by kernel_rfl) (by decide) rfl);exact qfjm rfl (hS.2 g rfl)⟩) ?_
 refine q2y4.pu rfl rfl (fun _ h=>absurd h (by decide)) (fun x w hm hS=>⟨rfl,rfl,qxhk rfl rfl eZ1 sZ1⟩) ?_
 refine q2y4.pu rfl rfl (fun _ h=>absurd h (by decide)) (fun x w hm hS=>⟨rfl,rfl,q3bg rfl⟩) ?_
 refine q2y4.pu rfl rfl (fun _ h=>absurd h (by decide)) (fun x w hm hS=>⟨rfl,rfl,q3nb rfl (K8 w hS.1)⟩) ?_
 refine q2y4.pu rfl rfl (fun _ h=>absurd h (by decide)) (fun x w hm hS=>⟨rfl,rfl,qp89 rfl hkw⟩) ?_
 refine q2y4.All.step rfl (q2y4.Does.call (val:=fun x=>(.string KS)) rfl (fun _ h=>absurd h (by decide)) (fun x w hm hS=>⟨rfl,rfl,q8rt rfl,(H45 w hS.1).mono fun e w' ⟨h1,h2⟩=>⟨h1,LO w w' hS.1 h2,fun a ha=>(h2.block a (lt_of_block (hS.2 a ha))).trans (hS.2 a ha)⟩⟩)) ?_
 refine q2y4.pu rfl rfl (fun _ h=>absurd h (by decide)) (fun x w hm hS=>⟨rfl,rfl,qxhk rfl rfl eZ2 sZ2⟩) ?_
 refine q2y4.pu rfl rfl (fun _ h=>absurd h (by decide)) (fun x w hm hS=>⟨rfl,rfl,rfl⟩) ?_
 refine q2y4.pu rfl rfl (fun _ h=>absurd h (by decide)) (fun x w hm hS=>⟨rfl,rfl,qx3r rfl⟩) ?_
 refine q2y4.pu rfl rfl (fun _ h=>absurd h (by decide)) (fun x w hm hS=>⟨rfl,rfl,q3nb rfl (K0 w hS.1)⟩) ?_
 refine q2y4.pu rfl rfl (fun _ h=>absurd h (by decide)) (fun x w hm hS=>⟨rfl,rfl,qujj rfl⟩) ?_
 refine q2y4.pu rfl rfl (fun _ h=>absurd h (by decide)) (fun x w hm hS=>⟨rfl,rfl,qu1j rfl (K24 w hS.1)⟩) ?_
 refine q2y4.All.step rfl (q2y4.Does.call (val:=fun x=>(.string TL)) rfl (fun _ h=>absurd h (by decide)) (fun x w hm hS=>⟨rfl,rfl,qi1a rfl rfl rfl,(H52 w hS.1).mono fun e w' ⟨h1,h2⟩=>⟨h1,LO w w' hS.1 h2,fun a ha=>(h2.block a (lt_of_block (hS.2 a ha))).trans (hS.2 a ha)⟩⟩)) ?_
 refine q2y4.pu rfl rfl (fun _ h=>absurd h (by decide)) (fun x w hm hS=>⟨rfl,rfl,qxhk rfl rfl eZ3 sZ3⟩) ?_
 refine q2y4.pu rfl rfl (fun _ h=>absurd h (by decide)) (fun x w hm hS=>⟨rfl,rfl,q90x rfl⟩) ?_
 refine q2y4.pu rfl rfl (fun _ h=>absurd h (by decide)) (fun x w hm hS=>⟨rfl,rfl,qjdc rfl (K9 w hS.1)⟩) ?_
 refine q2y4.All.step rfl (q2y4.Does.call (val:=fun x=>(.string CE)) rfl (fun _ h=>absurd h (by decide)) (fun x w hm hS=>⟨rfl,rfl,qvep rfl,(H56 w hS.1).mono fun e w' ⟨h1,h2⟩=>⟨h1,LO w w' hS.1 h2,fun a ha=>(h2.block a (lt_of_block (hS.2 a ha))).trans (hS.2 a ha)⟩⟩)) ?_
 refine q2y4.pu rfl rfl (fun _ h=>absurd h (by decide)) (fun x w hm hS=>⟨rfl,rfl,qxhk rfl rfl eZ4 sZ4⟩) ?_
 refine q2y4.pu rfl rfl (fun _ h=>absurd h (by decide)) (fun x w hm hS=>⟨rfl,rfl,rfl⟩) ?_
 exact q2y4.All.fin rfl
theorem qx12{Q:Exit→Act→World→Prop}{T:World→Prop}{W:World}{B:Nat}{v:Int}{A:Option Addr}{n c:Nat}{TL TO PA E1 E2 Z0 Z1 Z2 Z3:ByteArray}{x1 x2 x4 x5 x6 x8 x9 x10 x11 x12 x13 x14 x15 x16 x17 x18 x19 x20 x21 x22 x23 x24 x25 x26 x27 x28 x29 x30 x31 x32 x33 x34 x35 x36 x37 x38 x39 x40 x41 x42 x43 x44 x45 x46 x47 x48 x49 x50 x51 x52 x53 x54 x55 x56 x57 x58 x59 x60 x61 x62 x63 x64 x65 x66 x67 x68 x69 x70 x71 x72 x73 x74 x75 x76 x77 x78 x79 x80 x81 x82 x83 x84 x85 x86 x87 x88 x89 x90 x91:Value}
 (hT:T W.drew) (LO:∀w w',T w→Below w.heap.size w w'→T w')
 (K15:∀w,T w→w.cell? ⟨B,15,none⟩=some (.string TO))
 (K16:∀w,T w→w.cell? ⟨B,16,none⟩=some (.string PA))
 (K19:∀w,T w→w.cell? ⟨B,19,none⟩=some (.slice A n c))
 (eZ1:Z0++TL=Z1) (sZ1:Z1.size≤9223372036854775807) (eZ2:Z1++E1=Z2) (sZ2:Z2.size≤9223372036854775807) (eZ3:Z2++E2=Z3) (sZ3:Z3.size≤9223372036854775807)
 (H65:∀w,T w→Calls Tryz.prog 46 #[.int .i64 v,.int .i64 16,.slice A n c] w fun e w'=>e = .returned (.string TL)∧Below w.heap.size w w')
 (H70:∀w,T w→Calls Tryz.prog 47 #[.string TO] w fun e w'=>e = .returned (.string E1)∧Below w.heap.size w w')
 (H75:∀w,T w→Calls Tryz.prog 47 #[.string PA] w fun e w'=>e = .returned (.string E2)∧Below w.heap.size w w')
 (fin:∀w,T w→Q .normal ⟨#[(.int .i64 v),x1,x2,(.pointer (some ⟨B,0,none⟩)),x4,x5,x6,(.string Z3),x8,x9,x10,x11,x12,x13,x14,x15,x16,x17,x18,x19,x20,x21,x22,x23,x24,x25,x26,x27,x28,x29,x30,x31,x32,x33,x34,x35,x36,x37,x38,x39,x40,x41,x42,x43,x44,x45,x46,x47,x48,x49,x50,x51,x52,x53,x54,x55,x56,x57,x58,x59,(.string Z0),(.int .i64 v),(.pointer (some ⟨B,15,none⟩)),(.pointer (some ⟨B,19,none⟩)),(.slice A n c),(.string TL),(.string Z1),(.pointer (some ⟨B,15,none⟩)),(.pointer (some ⟨B,15,none⟩)),(.string TO),(.string E1),(.string Z2),(.pointer (some ⟨B,15,none⟩)),(.pointer (some ⟨B,16,none⟩)),(.string PA),(.string E2),(.string Z3),x77,x78,x79,x80,x81,x82,x83,x84,x85,x86,x87,x88,x89,x90,x91],[]⟩ w) :
 (Code.region 8 (qfhu.opsAt 8 Tryz.f12.body) true).wp Tryz.prog Q ⟨#[(.int .i64 v),x1,x2,(.pointer (some ⟨B,0,none⟩)),x4,x5,x6,(.string Z0),x8,x9,x10,x11,x12,x13,x14,x15,x16,x17,x18,x19,x20,x21,x22,x23,x24,x25,x26,x27,x28,x29,x30,x31,x32,x33,x34,x35,x36,x37,x38,x39,x40,x41,x42,x43,x44,x45,x46,x47,x48,x49,x50,x51,x52,x53,x54,x55,x56,x57,x58,x59,x60,x61,x62,x63,x64,x65,x66,x67,x68,x69,x70,x71,x72,x73,x74,x75,x76,x77,x78,x79,x80,x81,x82,x83,x84,x85,x86,x87,x88,x89,x90,x91],[]⟩ W:=by
 refine q2y4.wp (x:=()) (S:=fun(_:Unit) w=>T w) (made:=fun _ _=>True) (war:=[(0,7)]) (ds:=[60,61,62,63,64,65,66,67,68,69,70,71,72,73,74,75,76,7]) (D:=[]) (by kernel_rfl) (by kernel_rfl) (by kernel_rfl) ?_ hT ?_ (fun x w _ hS=>fin w hS)
 ·exact fun x=>(by repeat (first | exact trivial | refine⟨.inr rfl,?_⟩ | refine⟨.inl rfl,?_⟩))
 iterate 2 refine q2y4.pu rfl rfl (fun _=>trivial) (fun x w hm hS=>⟨rfl,rfl,rfl⟩) ?_
 refine q2y4.pu rfl rfl (fun _=>trivial) (fun x w hm hS=>⟨rfl,rfl,q2h9 rfl⟩) ?_
 refine q2y4.pu rfl rfl (fun _=>trivial) (fun x w hm hS=>⟨rfl,rfl,q7j8 rfl⟩) ?_
 refine q2y4.pu rfl rfl (fun _=>trivial) (fun x w hm hS=>⟨rfl,rfl,qu1j rfl (K19 w hS)⟩) ?_
 refine q2y4.All.step rfl (q2y4.Does.call (val:=fun x=>(.string TL)) rfl (fun _=>trivial) (fun x w hm hS=>⟨rfl,rfl,qgtkl rfl rfl,(H65 w hS).mono fun e w' ⟨h1,h2⟩=>⟨h1,LO w w' hS h2⟩⟩)) ?_
 refine q2y4.pu rfl rfl (fun _=>trivial) (fun x w hm hS=>⟨rfl,rfl,qxhk rfl rfl eZ1 sZ1⟩) ?_
 refine q2y4.pu rfl rfl (fun _=>trivial) (fun x w hm hS=>⟨rfl,rfl,q2h9 rfl⟩) ?_
 refine q2y4.pu rfl rfl (fun _=>trivial) (fun x w hm hS=>⟨rfl,rfl,qm99 rfl⟩) ?_
 refine q2y4.pu rfl rfl (fun _=>trivial) (fun x w hm hS=>⟨rfl,rfl,qjdc rfl (K15 w hS)⟩) ?_
 refine q2y4.All.step rfl (q2y4.Does.call (val:=fun x=>(.string E1)) rfl (fun _=>trivial) (fun x w hm hS=>⟨rfl,rfl,qvep rfl,(H70 w hS).mono fun e w' ⟨h1,h2⟩=>⟨h1,LO w w' hS h2⟩⟩)) ?_
 refine q2y4.pu rfl rfl (fun _=>trivial) (fun x w hm hS=>⟨rfl,rfl,qxhk rfl rfl eZ2 sZ2⟩) ?_
 refine q2y4.pu rfl rfl (fun _=>trivial) (fun x w hm hS=>⟨rfl,rfl,q2h9 rfl⟩) ?_
 refine q2y4.pu rfl rfl (fun _=>trivial) (fun x w hm hS=>⟨rfl,rfl,qot1 rfl⟩) ?_
 refine q2y4.pu rfl rfl (fun _=>trivial) (fun x w hm hS=>⟨rfl,rfl,qjdc rfl (K16 w hS)⟩) ?_
 refine q2y4.All.step rfl (q2y4.Does.call (val:=fun x=>(.string E2)) rfl (fun _=>trivial) (fun x w hm hS=>⟨rfl,rfl,qvep rfl,(H75 w hS).mono fun e w' ⟨h1,h2⟩=>⟨h1,LO w w' hS h2⟩⟩)) ?_
 refine q2y4.pu rfl rfl (fun _=>trivial) (fun x w hm hS=>⟨rfl,rfl,qxhk rfl rfl eZ3 sZ3⟩) ?_
 refine q2y4.pu rfl rfl (fun _=>trivial) (fun x w hm hS=>⟨rfl,rfl,rfl⟩) ?_
 exact q2y4.All.fin rfl
theorem qgbm{l:List UInt8}(h:l.length≤9223372036854775807):(bs l).size≤9223372036854775807:=by rw[q5zk];exact h
theorem q557{n:Int}(h:0≤n∧n < 256):IntKind.u8.wrap n=((UInt8.ofNat n.toNat).toNat:Int):=by
 rw[n8 (by omega)]
 simp only[IntKind.wrap,IntKind.bits,IntKind.signed]
 simp
 omega
theorem qiko(l:List UInt8)(w:World)(h:l.length≤65535):Calls Tryz.prog 47 #[.string (bs l)] w fun e w'=>e = .returned (.string (bs (enc2 l)))∧Below w.heap.size w w':=
 q6hpk (bs l) w (by rw[q5zk];exact h)
theorem q9a7(v:Int)(p:Pk)(a:Ad)(w:World)(hp:PkAt w p a)(sp:q21o p)(fp:RfP p a)(hv:validC v p=0)(hk:p.kind=2) :
 Calls Tryz.prog 12 #[.int .i64 v,.agg (pkC p a)] w fun e w'=>e = .returned (.tuple #[.string (bs (rawC v p)),.int .i64 0])∧Below w.heap.size w w':=by
 have S0:=Lib.hid (BxS.made w p a)
 have VA:=fun W (h:BxS w p a W)=>qvbv v p a W (hp.below h.low) sp fp
 rw[hv] at VA
 have VA:=Lib.hid VA
 have C1:=Lib.hid (qwmp p a)
 obtain⟨hok,_,_,_,_,_,hr,_⟩:=qgoi hv
 have hv4:=(ok_c hok).1
 have hc2:=qp3s ((ok_c hok).2.2.2.2.1 hk).1
 obtain⟨b,hb⟩:∃b,(if p.session=true then(1:Int) else 0)=b:=⟨_,rfl⟩
 have hb0:0≤b∧b < 256:=by rw[←hb];split<;>decide
 have hbt:UInt8.ofNat b.toNat=UInt8.ofNat (bitC p.session 1):=by rw[←hb];unfold bitC;split<;>rfl
 have hraw:rawC v p=[UInt8.ofNat b.toNat,UInt8.ofNat p.code.toNat]++qasq v 2 p.props:=by rw[rawC,if_pos hk,hbt];rfl
 have htl:=qp2i hr
 rw[hk] at htl
 have w0:=Lib.hid (q557 hb0)
 have w1:=Lib.hid (q557 (show 0≤p.code∧p.code < 256 by omega))
 have eZ:(⟨#[UInt8.ofNat b.toNat,UInt8.ofNat p.code.toNat]⟩:ByteArray)++bs (qasq v 2 p.props)=bs (rawC v p):=by rw[hraw];exact qyv7 [_,_] _
 have sZ:(bs (rawC v p)).size≤9223372036854775807:=qgbm (by rw[hraw];simp only[List.length_append,List.length_cons,List.length_nil];omega)
 have BI:=fun W=>qp37g p.session 1 W
 rw[hb] at BI
 have TA:=fun W (h:BxS w p a W)=>q8yx v p.kind a.ps p.props.length a.pc p.props W (fp.ps W (hp.below h.low)) hv4
 have HK:=Lib.hid hk
 rw[show qasq v p.kind p.props=qasq v 2 p.props by rw[hk]] at TA
 have BI:=Lib.hid BI
 have TA:=Lib.hid TA
 have EZ:=Lib.hid eZ
 have SZ:=Lib.hid sZ
 clear hp sp fp hv hk hok hr hv4 hc2 hb hb0 hbt hraw htl eZ sZ
 go_enter Tryz.func12,Tryz.ntmps12
 go_wp2_with (refine wpList_load_row rfl _ _ rfl w.heap.size rfl 28 _ (0,0) _ S0.out.box Tryz.underlying28 rfl (by rw[C1.out];exact q5nr) ?_)
 refine(VA.out _ S0.out).mono ?_
 rintro e W ⟨rfl,hb⟩
 have S1:=Lib.hid (S0.out.call hb)
 clear hb
 have k0:W.cell? ⟨w.heap.size,0,none⟩=some (.int .i64 2):=by rw[←HK.out];exact S1.out.cell 0
 go_upto_region 5 with fail
 refine qnng (T:=BxS w p a) (B:=w.heap.size) (k:=p.kind) (sb:=b) (se:=p.session) (co:=p.code) (b0:=UInt8.ofNat b.toNat) (b1:=UInt8.ofNat p.code.toNat) (TL:=bs (qasq v 2 p.props)) (Z1:=bs (rawC v p)) S1.out.draw (fun x y h hb=>h.call hb) (fun x h=>h.call (qybm _))
  (fun x h=>h.cell 0) (fun x h=>h.cell 20) (fun x h=>h.cell 21) (fun x h=>h.cell 24) w0.out w1.out EZ.out SZ.out
  (fun x h=>(BI.out x).mono fun e w' ⟨he,hw⟩=>⟨he,hw▸Below.refl _ _⟩)
  (fun x h=>TA.out x h) ?_
 intro xs W2 h
 have L:=Lib.hid h.low
 clear h
 go_wp2_with fail
 go_ret2
 exact⟨rfl,L.out⟩
theorem q4ux(v:Int)(p:Pk)(a:Ad)(w:World)(hp:PkAt w p a)(sp:q21o p)(fp:RfP p a)(hv:validC v p=0)(hk:p.kind=1) :
 Calls Tryz.prog 12 #[.int .i64 v,.agg (pkC p a)] w fun e w'=>e = .returned (.tuple #[.string (bs (rawC v p)),.int .i64 0])∧Below w.heap.size w w':=by
 have S0:=Lib.hid (BxS.made w p a)
 have VA:=fun W (h:BxS w p a W)=>qvbv v p a W (hp.below h.low) sp fp
 rw[hv] at VA
 have VA:=Lib.hid VA
 have C1:=Lib.hid (qwmp p a)
 obtain⟨hv4,f1,f2,l1,l2,l3,l4,l5,l6,l7⟩:=qglk hv hk
 obtain⟨_,_,q0,q2⟩:=(ok_c (qgoi hv).1).2.2.2.2.2 hk
 have TA:=fun W (h:BxS w p a W)=>q8yx v p.kind a.ps p.props.length a.pc p.props W (fp.ps W (hp.below h.low)) hv4
 rw[hk] at TA
 have TW:=fun W (h:BxS w p a W)=>q8yx v 16 a.w p.wProps.length a.wc p.wProps W (fp.ws W (hp.below h.low)) hv4
 have FL:=fun W=>qyrz p a W (by omega)
 have TM:=fun W=>qiko q1f4 W (by decide)
 have TC:=fun W=>qiko p.client W l1
 have TU:=Lib.hid (fun W=>qiko p.user W l2)
 have TT:=fun W=>qiko p.wTopic W l3
 have TP:=fun W=>qiko p.wPayload W l4
 have TS:=Lib.hid (fun W=>qiko p.pass W l5)
 have PU:=fun W=>qyzg p.keep.toNat W (by omega)
 have hkn:((p.keep.toNat:Nat):Int)=p.keep:=by omega
 rw[hkn] at PU
 have w0:=Lib.hid (q557 (show 0≤v∧v < 256 by omega))
 have w1:=q557 (show 0≤((qc61 p:Nat):Int)∧((qc61 p:Nat):Int) < 256 by omega)
 rw[Int.toNat_natCast] at w1
 have hkw:IntKind.u64.wrap p.keep=p.keep:=by rw[IntKind.wrap_u64];omega
 have m6:(enc2 q1f4).length=6:=by decide
 have b2:(be p.keep.toNat 2).length=2:=q0rl 2 _
 obtain⟨L4,hL4⟩:∃L,enc2 q1f4++[UInt8.ofNat v.toNat,UInt8.ofNat (qc61 p)]++be p.keep.toNat 2++qasq v 1 p.props++enc2 p.client=L:=⟨_,rfl⟩
 obtain⟨L5,hL5⟩:∃L,L4++(if p.hasWill then qasq v 16 p.wProps++(enc2 p.wTopic++enc2 p.wPayload) else [])=L:=⟨_,rfl⟩
 obtain⟨L6,hL6⟩:∃L,L5++(if p.hasUser then enc2 p.user else [])=L:=⟨_,rfl⟩
 have hL7:rawC v p=L6++(if p.hasPass then enc2 p.pass else []):=by
  rw[rawC,if_neg (by omega),←hL6,←hL5,←hL4]
  simp only[List.append_assoc,List.cons_append,List.nil_append]
 have n4:L4.length≤300200000:=by rw[←hL4];simp only[List.length_append,qnp6,List.length_cons,List.length_nil,b2] at m6 ⊢;omega
 have n5:L5.length≤700000000:=by rw[←hL5];split<;>simp only[List.length_append,qnp6,List.length_nil]<;>omega
 have n6:L6.length≤700100000:=by rw[←hL6];split<;>simp only[List.length_append,qnp6,List.length_nil]<;>omega
 have n7:(rawC v p).length≤700200000:=by rw[hL7];split<;>simp only[List.length_append,qnp6,List.length_nil]<;>omega
 have g1:bs (enc2 q1f4)++(⟨#[UInt8.ofNat v.toNat,UInt8.ofNat (qc61 p)]⟩:ByteArray)=bs (enc2 q1f4++[UInt8.ofNat v.toNat,UInt8.ofNat (qc61 p)]):=qyv7 _ [_,_]
 have z1:(bs (enc2 q1f4++[UInt8.ofNat v.toNat,UInt8.ofNat (qc61 p)])).size≤9223372036854775807:=qgbm (by simp only[List.length_append,List.length_cons,List.length_nil,m6];omega)
 have z2:(bs (enc2 q1f4++[UInt8.ofNat v.toNat,UInt8.ofNat (qc61 p)]++be p.keep.toNat 2)).size≤9223372036854775807:=qgbm (by simp only[List.length_append,List.length_cons,List.length_nil,m6,b2];omega)
 have z3:(bs (enc2 q1f4++[UInt8.ofNat v.toNat,UInt8.ofNat (qc61 p)]++be p.keep.toNat 2++qasq v 1 p.props)).size≤9223372036854775807:=qgbm (by simp only[List.length_append,List.length_cons,List.length_nil,m6,b2];omega)
 have g4:bs (enc2 q1f4++[UInt8.ofNat v.toNat,UInt8.ofNat (qc61 p)]++be p.keep.toNat 2++qasq v 1 p.props)++bs (enc2 p.client)=bs L4:=by rw[qyv7,hL4]
 have z4:=qgbm (show L4.length≤9223372036854775807 by omega)
 have HK:=Lib.hid hk
 have W1:=Lib.hid w1
 have HKW:=Lib.hid hkw
 have G1:=Lib.hid g1
 have Z1:=Lib.hid z1
 have Z2:=Lib.hid z2
 have Z3:=Lib.hid z3
 have G4:=Lib.hid g4
 have Z4:=Lib.hid z4
 have TA:=Lib.hid TA
 have TW:=Lib.hid TW
 have FL:=Lib.hid FL
 have TM:=Lib.hid TM
 have TC:=Lib.hid TC
 have TT:=Lib.hid TT
 have TP:=Lib.hid TP
 have PU:=Lib.hid PU
 have HL5:=Lib.hid hL5
 have HL6:=Lib.hid hL6
 have HL7:=Lib.hid hL7
 have N4:=Lib.hid n4
 have N5:=Lib.hid n5
 have N6:=Lib.hid n6
 have N7:=Lib.hid n7
 clear hp sp fp hv hk hv4 f1 f2 l1 l2 l3 l4 l5 q0 q2 hkn w1 hkw m6 b2 hL4 hL5 hL6 hL7 n4 n5 n6 n7 g1 z1 z2 z3 g4 z4
 have L67:=Lib.hid (And.intro l6 l7)
 clear l6 l7
 generalize rawC v p=L7 at *
 go_enter Tryz.func12,Tryz.ntmps12
 go_wp2_with (refine wpList_load_row rfl _ _ rfl w.heap.size rfl 28 _ (0,0) _ S0.out.box Tryz.underlying28 rfl (by rw[C1.out];exact q5nr) ?_)
 refine(VA.out _ S0.out).mono ?_
 rintro e W ⟨rfl,hb⟩
 have S1:=Lib.hid (S0.out.call hb)
 clear hb
 have k0:W.cell? ⟨w.heap.size,0,none⟩=some (.int .i64 1):=by rw[←HK.out];exact S1.out.cell 0
 go_upto_region 6 with fail
 refine qqtl (T:=BxS w p a) (B:=w.heap.size) (k:=1) (F:=((qc61 p:Nat):Int)) (ke:=p.keep) (kw:=p.keep) (b0:=UInt8.ofNat v.toNat) (b1:=UInt8.ofNat (qc61 p)) (D:=pkC p a) (M:=bs (enc2 q1f4)) (KS:=bs (be p.keep.toNat 2)) (TL:=bs (qasq v 1 p.props)) (CI:=bs p.client) (CE:=bs (enc2 p.client))
  (Z1:=bs (enc2 q1f4++[UInt8.ofNat v.toNat,UInt8.ofNat (qc61 p)])) (Z2:=bs (enc2 q1f4++[UInt8.ofNat v.toNat,UInt8.ofNat (qc61 p)]++be p.keep.toNat 2)) (Z3:=bs (enc2 q1f4++[UInt8.ofNat v.toNat,UInt8.ofNat (qc61 p)]++be p.keep.toNat 2++qasq v 1 p.props)) (Z4:=bs L4)
  S1.out.draw (fun x y h hb=>h.call hb) (fun x h=>h.call (qybm _))
  (fun x h=>(h.cell 0).trans (by show some (Value.int .i64 p.kind)=_;rw[HK.out])) (fun x h=>h.cell 8) (fun x h=>h.cell 9) (fun x h=>h.cell 24) C1.out (fun x h=>h.box) w0.out W1.out HKW.out
  G1.out Z1.out (qyv7 _ _) Z2.out (qyv7 _ _) Z3.out G4.out Z4.out
  (fun x h=>TM.out x) (fun x h=>FL.out x) (fun x h=>PU.out x) (fun x h=>TA.out x h) (fun x h=>TC.out x) ?_
 intro xs W2 h
 have S2:=Lib.hid h
 have k14:W2.cell? ⟨w.heap.size,14,none⟩=some (.bool p.hasWill):=h.cell 14
 clear h S1 S0 k0 G1 Z1 Z2 Z3 G4 Z4 TM FL PU TA TC VA W1 w0 HKW HK
 go_upto_if 59 with fail
 go_cut [7] (fun s7 wx=>s7 = .string (bs L5)∧BxS w p a wx)
 case first=>
  cases hf:p.hasWill with
  | false=>
   rw[hf] at k14
   have HT:=Lib.hid (show L4=L5 by rw[←HL5.out,hf];simp)
   clear hf
   go_wp2_with fail
   go_meet
   exact⟨by rw[HT.out],S2.out⟩
  | true=>
   rw[hf] at k14
   have HT:=Lib.hid (show L4++qasq v 16 p.wProps++enc2 p.wTopic++enc2 p.wPayload=L5 by rw[←HL5.out,hf];simp)
   clear hf
   go_upto_region 8 with fail
   refine qx12 (T:=BxS w p a) (B:=w.heap.size) (TL:=bs (qasq v 16 p.wProps)) (TO:=bs p.wTopic) (PA:=bs p.wPayload) (E1:=bs (enc2 p.wTopic)) (E2:=bs (enc2 p.wPayload)) (Z0:=bs L4) (Z1:=bs (L4++qasq v 16 p.wProps)) (Z2:=bs (L4++qasq v 16 p.wProps++enc2 p.wTopic)) (Z3:=bs L5)
    S2.out.draw (fun x y h hb=>h.call hb) (fun x h=>h.cell 15) (fun x h=>h.cell 16) (fun x h=>h.cell 19)
    (qyv7 _ _) (qgbm (by have:=N5.out;rw[←HT.out] at this;simp only[List.length_append] at this ⊢;omega)) (qyv7 _ _) (qgbm (by have:=N5.out;rw[←HT.out] at this;simp only[List.length_append] at this ⊢;omega)) (by rw[qyv7,HT.out]) (qgbm (by have:=N5.out;omega))
    (fun x h=>TW.out x h) (fun x h=>TT.out x) (fun x h=>TP.out x) ?_
   intro W3 h
   have S3:=Lib.hid h
   clear h
   go_wp2_with fail
   go_meet
   exact⟨rfl,S3.out⟩
 case rest=>
  clear k14 S2
  obtain⟨rfl,hS⟩:=hcut
  have S3:=Lib.hid hS
  clear hS HL5
  have k10:wc.cell? ⟨w.heap.size,10,none⟩=some (.bool p.hasUser):=S3.out.cell 10
  go_upto_if 78 with fail
  go_cut [7] (fun s7 wx=>s7 = .string (bs L6)∧BxS w p a wx)
  case first=>
   cases hf:p.hasUser with
   | false=>
    rw[hf] at k10
    have HT:=Lib.hid (show L5=L6 by rw[←HL6.out,hf];simp)
    clear hf
    go_wp2_with fail
    go_meet
    exact⟨by rw[HT.out],S3.out⟩
   | true=>
    rw[hf] at k10
    have HT:=Lib.hid (show bs L5++bs (enc2 p.user)=bs L6 by rw[qyv7,←HL6.out,hf];rfl)
    have hz:¬9223372036854775807 < (bs L5).size+(bs (enc2 p.user)).size:=by have:=N6.out;rw[←HL6.out,hf] at this;simp only[q5zk];simp only[List.length_append,if_true] at this;omega
    have k11:wc.cell? ⟨w.heap.size,11,none⟩=some (.string (bs p.user)):=S3.out.cell 11
    clear hf
    go_wp2_with fail
    refine(TU.out _).mono ?_
    rintro e W4 ⟨rfl,hb⟩
    have S4:=Lib.hid (S3.out.call hb)
    clear hb
    go_wp2_with fail
    go_meet
    exact⟨by rw[HT.out],S4.out⟩
  case rest=>
   clear k10 S3
   obtain⟨rfl,hS⟩:=hcut
   have S4:=Lib.hid hS
   clear hS HL6
   have k12:wc.cell? ⟨w.heap.size,12,none⟩=some (.bool p.hasPass):=S4.out.cell 12
   cases hf:p.hasPass with
   | false=>
    rw[hf] at k12
    have HT:=Lib.hid (show L6=L7 by rw[HL7.out,hf];simp)
    clear hf
    go_wp2_with fail
    go_ret2
    exact⟨congrArg (fun l=>Ending.returned (Value.tuple #[.string (bs l),.int .i64 0])) HT.out,S4.out.low⟩
   | true=>
    rw[hf] at k12
    have HT:=Lib.hid (show bs L6++bs (enc2 p.pass)=bs L7 by rw[qyv7,HL7.out,hf];rfl)
    have hz:¬9223372036854775807 < (bs L6).size+(bs (enc2 p.pass)).size:=by have:=N7.out;rw[HL7.out,hf] at this;simp only[q5zk];simp only[List.length_append,if_true] at this;omega
    have k13:wc.cell? ⟨w.heap.size,13,none⟩=some (.string (bs p.pass)):=S4.out.cell 13
    clear hf
    go_wp2_with fail
    refine(TS.out _).mono ?_
    rintro e W5 ⟨rfl,hb⟩
    have S5:=Lib.hid (S4.out.call hb)
    clear hb
    go_wp2_with fail
    go_ret2
    exact⟨congrArg (fun l=>Ending.returned (Value.tuple #[.string l,.int .i64 0])) HT.out,S5.out.low⟩
theorem qbtv(v:Int)(p:Pk)(a:Ad)(w:World)(hp:PkAt w p a)(sp:q21o p)(fp:RfP p a) :
 Calls Tryz.prog 12 #[.int .i64 v,.agg (pkC p a)] w fun e w'=>e = .returned (.tuple #[.string (bs (qso1 v p).1),.int .i64 ((qso1 v p).2:Nat)])∧Below w.heap.size w w':=by
 unfold qso1
 by_cases hv:validC v p=0
 ·rw[if_neg (by simpa using hv)]
  rcases(ok_c (qgoi hv).1).2.1 with hk | hk
  ·exact q4ux v p a w hp sp fp hv hk
  ·exact q9a7 v p a w hp sp fp hv hk
 ·rw[if_pos hv]
  have S0:=Lib.hid (BxS.made w p a)
  have VA:=fun W (h:BxS w p a W)=>qvbv v p a W (hp.below h.low) sp fp
  have C1:=Lib.hid (qwmp p a)
  generalize validC v p=R at *
  have hr1:((R:Int)==0)=false:=by simp;omega
  have hr2:((R:Int) != 0)=true:=by simp;omega
  have VA:=Lib.hid VA
  clear hv hp sp fp
  go_enter Tryz.func12,Tryz.ntmps12
  go_wp2_with (refine wpList_load_row rfl _ _ rfl w.heap.size rfl 28 _ (0,0) _ S0.out.box Tryz.underlying28 rfl (by rw[C1.out];exact q5nr) ?_)
  refine(VA.out _ S0.out).mono ?_
  rintro e W ⟨rfl,hb⟩
  have LO:=Lib.hid (qxh2 S0.out.low hb)
  clear hb
  go_wp2_with fail
  go_ret2
  exact⟨rfl,LO.out⟩
end Go.Proofs.YtaahhbjnflimnaaGreat
