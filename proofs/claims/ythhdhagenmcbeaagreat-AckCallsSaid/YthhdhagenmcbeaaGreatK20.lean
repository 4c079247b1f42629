/- Operations of a region upon a packet in a box: its fields' addresses, loads, comparisons. No condition. -/
import Derived.Test.YthhdhagenmcbeaaGreatK02
import Derived.Test.YthhdhagenmcbeaaGreatK16
import Derived.Test.YthhdhagenmcbeaaGreatK08
import Derived.Test.YthhdhagenmcbeaaGreatK09
import Derived.Test.YthhdhagenmcbeaaGreatK17
set_option maxRecDepth 100000
set_option maxHeartbeats 8000000
namespace Go.Proofs.YthhdhagenmcbeaaGreat
open Go.RowKit
section
variable{a:Act}{w:World}{d:Option Tmp}{p:String}{af:Array Edge}{gd:Option (Nat×Bool)}{x y z:Tmp}{r:TypeId}
theorem qjuh{g:Nat}{C:Array Value}(hx:a.eval (.tmp x) = .pointer (some ⟨g,0,none⟩))(hs:C.size=25)(hg:w.heap[g]? = some (.cells C 35 (0,0))) :
 (execOp a.eval {dst:=d,op := .load 35 (.tmp x),type:=35,pos:=p,after:=af,guard:=gd}).run Tryz.prog w = .ok (.value (.agg C)) w:=by
 unfold execOp
 simp only[hx,Instr.loadAt,Instr.sureAddr,Sem.run_bind,Sem.run_pure,Result.andThen_ok,run_loadVar_row w g 35 35 C (0,0) _ hg Tryz.underlying35 rfl (by rw[hs];exact q5nr)]
theorem qd7q{g:Nat}(hx:a.eval (.tmp x) = .pointer (some ⟨g,0,none⟩)) :
 (execOp a.eval {dst:=d,op := .fieldAddr 35 (.tmp x) 0,type:=r,pos:=p,after:=af,guard:=gd}).run Tryz.prog w = .ok (.value (.pointer (some ⟨g,0,none⟩))) w:=by
 generalize a.eval=f at *
 go_simp
theorem q43k{g:Nat}(hx:a.eval (.tmp x) = .pointer (some ⟨g,0,none⟩)) :
 (execOp a.eval {dst:=d,op := .fieldAddr 35 (.tmp x) 4,type:=r,pos:=p,after:=af,guard:=gd}).run Tryz.prog w = .ok (.value (.pointer (some ⟨g,4,none⟩))) w:=by
 generalize a.eval=f at *
 go_simp
theorem q0yj{g:Nat}(hx:a.eval (.tmp x) = .pointer (some ⟨g,0,none⟩)) :
 (execOp a.eval {dst:=d,op := .fieldAddr 35 (.tmp x) 17,type:=r,pos:=p,after:=af,guard:=gd}).run Tryz.prog w = .ok (.value (.pointer (some ⟨g,21,none⟩))) w:=by
 generalize a.eval=f at *
 go_simp
theorem q8kw{g:Nat}(hx:a.eval (.tmp x) = .pointer (some ⟨g,0,none⟩)) :
 (execOp a.eval {dst:=d,op := .fieldAddr 35 (.tmp x) 20,type:=r,pos:=p,after:=af,guard:=gd}).run Tryz.prog w = .ok (.value (.pointer (some ⟨g,24,none⟩))) w:=by
 generalize a.eval=f at *
 go_simp
theorem qkcv{g j:Nat}{n:Int}(hx:a.eval (.tmp x) = .pointer (some ⟨g,j,none⟩))(hc:w.cell? ⟨g,j,none⟩=some (.int .i64 n)) :
 (execOp a.eval {dst:=d,op := .load 3 (.tmp x),type:=3,pos:=p,after:=af,guard:=gd}).run Tryz.prog w = .ok (.value (.int .i64 n)) w:=by
 generalize a.eval=f at *
 go_simp
theorem q8ba{g j n c:Nat}{A:Option Addr}(hx:a.eval (.tmp x) = .pointer (some ⟨g,j,none⟩))(hc:w.cell? ⟨g,j,none⟩=some (.slice A n c)) :
 (execOp a.eval {dst:=d,op := .load 26 (.tmp x),type:=26,pos:=p,after:=af,guard:=gd}).run Tryz.prog w = .ok (.value (.slice A n c)) w:=by
 generalize a.eval=f at *
 go_simp
theorem qyhu{n c:Int}{b:Bool}(hx:a.eval (.tmp x) = .int .i64 n)(hb:decide (c < n)=b) :
 (execOp a.eval {dst:=d,op := .binOp .gtr 3 (.tmp x) (.const (.int .i64 c)) 3,type:=r,pos:=p,after:=af,guard:=gd}).run Tryz.prog w = .ok (.value (.bool b)) w:=by
 subst hb
 have hc:a.eval (.const (.int .i64 c)) = .int .i64 c:=rfl
 generalize a.eval=f at *
 go_simp
theorem qbhz{n c:Int}{b:Bool}(hx:a.eval (.tmp x) = .int .i64 n)(hb:decide (n≤c)=b) :
 (execOp a.eval {dst:=d,op := .binOp .leq 3 (.tmp x) (.const (.int .i64 c)) 3,type:=r,pos:=p,after:=af,guard:=gd}).run Tryz.prog w = .ok (.value (.bool b)) w:=by
 subst hb
 have hc:a.eval (.const (.int .i64 c)) = .int .i64 c:=rfl
 generalize a.eval=f at *
 go_simp
end
section
variable{a:Act}{w:World}{d:Option Tmp}{p:String}{af:Array Edge}{gd:Option (Nat×Bool)}{x y z:Tmp}{r:TypeId}
theorem qb7v{v:ByteArray}(hx:a.eval (.tmp x) = .string v)(hy:a.eval (.tmp y) = .string v) :
 (execOp a.eval {dst:=d,op := .binOp .eql 9 (.tmp x) (.tmp y) 9,type:=r,pos:=p,after:=af,guard:=gd}).run Tryz.prog w = .ok (.value (.bool true)) w:=by
 generalize a.eval=f at *
 go_simp
theorem q73w{v:Int}(hx:a.eval (.tmp x) = .int .i64 v)(hy:a.eval (.tmp y) = .int .i64 v) :
 (execOp a.eval {dst:=d,op := .binOp .eql 27 (.tmp x) (.tmp y) 27,type:=r,pos:=p,after:=af,guard:=gd}).run Tryz.prog w = .ok (.value (.bool true)) w:=by
 generalize a.eval=f at *
 go_simp
theorem q21d{v:Bool}(hx:a.eval (.tmp x) = .bool v)(hy:a.eval (.tmp y) = .bool v) :
 (execOp a.eval {dst:=d,op := .binOp .eql 4 (.tmp x) (.tmp y) 4,type:=r,pos:=p,after:=af,guard:=gd}).run Tryz.prog w = .ok (.value (.bool true)) w:=by
 generalize a.eval=f at *
 cases v<;>go_simp
end
theorem qpnh{Q:Exit→Act→World→Prop}{S:World→Prop}{W:World}{b b1 b2 b3 b4:Nat}{v x y z:Int}{t:Bool}{A:ByteArray}{C D E M:Array Value}{x1 x2 x3 x4 x6 x7 x8 x21 x22 x23 x24 x25 x26 x27 x28 x29 x30 x31 x32 x33 x34 x35 x36 x37 x38 x39 x40 x41 x42 x43 x44 x45 x46 x47 x48 x49 x50 x51 x52 x53 x54 x55 x56 x57 x58 x59 x60 x61 x62 x63 x64 x65 x66 x67 x68 x69 x70 x71 x72 x73 x74 x75 x76 x77 x78 x79 x80 x81 x82 x83 x84 x85 x86 x87 x88 x89 x90 x91 x92 x93 x94 x95 x96 x97 x98 x99 x100 x101 x102 x103 x104:Value}
 (hS:S W.drew) (hC:C.size=25) (hD:D.size=25) (hE:E.size=25) (hM:M.size=25) (KC:∀w,S w→w.heap[b1]? = some (.cells C 35 (0,0))) (KD:∀w,S w→w.heap[b2]? = some (.cells D 35 (0,0))) (KE:∀w,S w→w.heap[b]? = some (.cells E 35 (0,0))) (KM:∀w,S w→w.heap[b3]? = some (.cells M 35 (0,0))) (KN:∀w,S w→w.heap[b4]? = some (.cells M 35 (0,0)))
 (H0:∀w,S w→Calls Tryz.prog 10 #[(.agg C),(.agg D)] w fun e w'=>e = .returned (.bool true)∧S w')
 (H1:∀w,S w→Calls Tryz.prog 10 #[(.agg M),(.agg M)] w fun e w'=>e = .returned (.bool true)∧S w')
 (H2:∀w,S w→Calls Tryz.prog 11 #[(.int .i64 v),(.agg E)] w fun e w'=>e = .returned (.int .i64 z)∧S w')
 (H3:∀w,S w→Calls Tryz.prog 17 #[(.int .i64 v),(.agg E)] w fun e w'=>e = .returned (.int .i64 z)∧S w')
 (fin:∀w,S w→Q .normal ⟨#[(.int .i64 v),x1,x2,x3,x4,(.pointer (some ⟨b,0,none⟩)),x6,x7,(.bool true),(.string A),(.int .i64 x),(.string A),(.int .i64 x),(.pointer (some ⟨b1,0,none⟩)),(.int .i64 y),(.pointer (some ⟨b2,0,none⟩)),(.int .i64 y),(.pointer (some ⟨b3,0,none⟩)),(.bool t),(.pointer (some ⟨b4,0,none⟩)),(.bool t),x21,x22,x23,x24,x25,x26,x27,x28,x29,x30,x31,x32,x33,x34,x35,x36,x37,x38,x39,x40,x41,x42,x43,x44,x45,x46,x47,x48,x49,x50,x51,x52,x53,x54,x55,x56,x57,x58,x59,x60,x61,x62,x63,x64,x65,x66,x67,(.string A),(.string A),(.bool true),(.bool true),(.int .i64 x),(.int .i64 x),(.bool true),(.bool true),(.bool true),(.agg C),(.agg D),(.bool true),(.bool true),(.bool true),(.int .i64 y),(.int .i64 y),(.bool true),(.bool true),(.bool true),(.agg M),(.agg M),(.bool true),(.bool true),(.bool true),(.bool t),(.bool t),(.bool true),(.bool true),(.bool true),(.int .i64 v),(.agg E),(.int .i64 z),(.int .i64 v),(.agg E),(.int .i64 z),(.bool true),(.bool true)],[]⟩ w) :
 (Code.region 11 (qfhu.opsAt 11 Tryz.f4.body) true).wp Tryz.prog Q ⟨#[(.int .i64 v),x1,x2,x3,x4,(.pointer (some ⟨b,0,none⟩)),x6,x7,x8,(.string A),(.int .i64 x),(.string A),(.int .i64 x),(.pointer (some ⟨b1,0,none⟩)),(.int .i64 y),(.pointer (some ⟨b2,0,none⟩)),(.int .i64 y),(.pointer (some ⟨b3,0,none⟩)),(.bool t),(.pointer (some ⟨b4,0,none⟩)),(.bool t),x21,x22,x23,x24,x25,x26,x27,x28,x29,x30,x31,x32,x33,x34,x35,x36,x37,x38,x39,x40,x41,x42,x43,x44,x45,x46,x47,x48,x49,x50,x51,x52,x53,x54,x55,x56,x57,x58,x59,x60,x61,x62,x63,x64,x65,x66,x67,x68,x69,x70,x71,x72,x73,x74,x75,x76,x77,x78,x79,x80,x81,x82,x83,x84,x85,x86,x87,x88,x89,x90,x91,x92,x93,x94,x95,x96,x97,x98,x99,x100,x101,x102,x103,x104],[]⟩ W:=by
 refine qfhu.wp_in (ds:=[68,69,70,71,72,73,74,75,76,77,78,79,80,81,82,83,84,85,86,87,88,89,90,91,92,93,94,95,96,97,98,99,100,101,102,103,104,8]) (D:=[]) (by kernel_rfl) (by kernel_rfl) (by kernel_rfl) ?_ hS ?_ (fun w hS=>fin w hS)
 ·exact(by repeat (first | exact trivial | refine⟨.inr rfl,?_⟩ | refine⟨.inl rfl,?_⟩))
 refine qfhu.pu rfl rfl rfl rfl (fun w hS=>rfl) ?_
 refine qfhu.pu rfl rfl rfl rfl (fun w hS=>rfl) ?_
 refine qfhu.pu rfl rfl rfl rfl (fun w hS=>qb7v rfl rfl) ?_
 iterate 3 refine qfhu.pu rfl rfl rfl rfl (fun w hS=>rfl) ?_
 refine qfhu.pu rfl rfl rfl rfl (fun w hS=>q73w rfl rfl) ?_
 refine qfhu.pu rfl rfl rfl rfl (fun w hS=>rfl) ?_
 refine qfhu.pu rfl rfl rfl rfl (fun w hS=>rfl) ?_
 refine qfhu.pu rfl rfl rfl rfl (fun w hS=>qjuh rfl hC (KC w hS)) ?_
 refine qfhu.pu rfl rfl rfl rfl (fun w hS=>qjuh rfl hD (KD w hS)) ?_
 refine qfhu.ca rfl rfl rfl rfl (fun w=>qpjl.enter2 Tryz.func10 rfl rfl rfl) H0 ?_
 iterate 4 refine qfhu.pu rfl rfl rfl rfl (fun w hS=>rfl) ?_
 refine qfhu.pu rfl rfl rfl rfl (fun w hS=>q73w rfl rfl) ?_
 refine qfhu.pu rfl rfl rfl rfl (fun w hS=>rfl) ?_
 refine qfhu.pu rfl rfl rfl rfl (fun w hS=>rfl) ?_
 refine qfhu.pu rfl rfl rfl rfl (fun w hS=>qjuh rfl hM (KM w hS)) ?_
 refine qfhu.pu rfl rfl rfl rfl (fun w hS=>qjuh rfl hM (KN w hS)) ?_
 refine qfhu.ca rfl rfl rfl rfl (fun w=>qpjl.enter2 Tryz.func10 rfl rfl rfl) H1 ?_
 iterate 4 refine qfhu.pu rfl rfl rfl rfl (fun w hS=>rfl) ?_
 refine qfhu.pu rfl rfl rfl rfl (fun w hS=>q21d rfl rfl) ?_
 iterate 3 refine qfhu.pu rfl rfl rfl rfl (fun w hS=>rfl) ?_
 refine qfhu.pu rfl rfl rfl rfl (fun w hS=>qjuh rfl hE (KE w hS)) ?_
 refine qfhu.ca rfl rfl rfl rfl (fun w=>qpjl.enter2 Tryz.func11 rfl rfl rfl) H2 ?_
 refine qfhu.pu rfl rfl rfl rfl (fun w hS=>rfl) ?_
 refine qfhu.pu rfl rfl rfl rfl (fun w hS=>qjuh rfl hE (KE w hS)) ?_
 refine qfhu.ca rfl rfl rfl rfl (fun w=>qpjl.enter2 Tryz.func17 rfl rfl rfl) H3 ?_
 refine qfhu.pu rfl rfl rfl rfl (fun w hS=>q73w rfl rfl) ?_
 refine qfhu.pu rfl rfl rfl rfl (fun w hS=>rfl) ?_
 refine qfhu.pu rfl rfl rfl rfl (fun w hS=>rfl) ?_
 exact qfhu.All.fin rfl
theorem qm47{Q:Exit→Act→World→Prop}{S:World→Prop}{W:World}{B:Nat}{v k i c:Int}{C D:Array Value}{m s:Bool}{x1 x2 x5 x6 x7 x8 x9 x10 x11 x12 x13 x14 x15 x16 x17 x18 x19 x20 x21 x22 x23 x24 x25 x26 x27 x28 x29 x30 x31 x32:Value}
 (hS:S W.drew)
 (hC:C.size=25) (KC:∀w,S w→w.heap[B]? = some (.cells C 35 (0,0))) (K0:∀w,S w→w.cell? ⟨B,0,none⟩=some (.int .i64 k)) (K4:∀w,S w→w.cell? ⟨B,4,none⟩=some (.int .i64 i)) (K21:∀w,S w→w.cell? ⟨B,21,none⟩=some (.int .i64 c))
 (H0:∀w,S w→Calls Tryz.prog 22 #[.int .i64 v,.int .i64 k] w fun e w'=>e = .returned (.bool (versC v&&qvya k))∧S w')
 (H1:∀w,S w→Calls Tryz.prog 54 #[.int .i64 k,.int .i64 c] w fun e w'=>e = .returned (.bool m)∧S w')
 (H2:∀w,S w→Calls Tryz.prog 56 #[.int .i64 v,.agg C] w fun e w'=>e = .returned (.agg D)∧S w')
 (H3:∀w,S w→Calls Tryz.prog 55 #[.agg C,.agg D] w fun e w'=>e = .returned (.bool s)∧S w')
 (fin:∀(r:Bool) (w:World),(versC v&&qvya k&&decide (0 < i)&&decide (i≤65535)&&m&&s)=r→S w→∀x5 x6 x7 x8 x9 x10 x11 x12 x13 x14 x15 x16 x17 x18 x19 x20 x21 x22 x23 x24 x25 x26 x27 x28 x29 x30 x31 x32,Q .normal ⟨#[(.int .i64 v),x1,x2,(.pointer (some ⟨B,0,none⟩)),(.bool r),x5,x6,x7,x8,x9,x10,x11,x12,x13,x14,x15,x16,x17,x18,x19,x20,x21,x22,x23,x24,x25,x26,x27,x28,x29,x30,x31,x32],[]⟩ w) :
 (Code.region 1 (qfhu.opsAt 1 Tryz.f29.body) true).wp Tryz.prog Q ⟨#[(.int .i64 v),x1,x2,(.pointer (some ⟨B,0,none⟩)),(.bool false),x5,x6,x7,x8,x9,x10,x11,x12,x13,x14,x15,x16,x17,x18,x19,x20,x21,x22,x23,x24,x25,x26,x27,x28,x29,x30,x31,x32],[]⟩ W:=by
 obtain⟨d0,ed0⟩:∃d,(versC v&&qvya k)=d:=⟨_,rfl⟩
 obtain⟨d1,ed1⟩:∃d,(decide (0 < i))=d:=⟨_,rfl⟩
 obtain⟨d2,ed2⟩:∃d,(decide (i≤65535))=d:=⟨_,rfl⟩
 obtain⟨d3,ed3⟩:∃d,(m)=d:=⟨_,rfl⟩
 obtain⟨d4,ed4⟩:∃d,(s)=d:=⟨_,rfl⟩
 rw[ed0,ed1,ed2,ed3,ed4] at fin
 rw[ed0] at H0
 rw[ed3] at H1
 rw[ed4] at H3
 cases d0
 case' false=>refine qfhu.wp_in (ds:=[5,6,7,8,9,10,11,12,13,14,15,16,17,18,19,20,21,22,23,24,25,26,27,28,29,30,31,32,4]) (B:=[(.int .i64 v),x1,x2,(.pointer (some ⟨B,0,none⟩)),(.bool false),(.int .i64 v),(.pointer (some ⟨B,0,none⟩)),(.int .i64 k),(.bool false),(.bool false),undef,undef,undef,(.bool false),(.bool false),undef,undef,undef,(.bool false),(.bool false),undef,undef,undef,undef,undef,(.bool false),(.bool false),undef,undef,undef,undef,undef,(.bool false)]) (D:=[]) (by kernel_rfl) (by kernel_rfl) (by kernel_rfl) ?_ hS ?_ (fun w hS=>fin false w rfl hS _ _ _ _ _ _ _ _ _ _ _ _ _ _ _ _ _ _ _ _ _ _ _ _ _ _ _ _)
 case' true=>
  cases d1
  case' false=>refine qfhu.wp_in (ds:=[5,6,7,8,9,10,11,12,13,14,15,16,17,18,19,20,21,22,23,24,25,26,27,28,29,30,31,32,4]) (B:=[(.int .i64 v),x1,x2,(.pointer (some ⟨B,0,none⟩)),(.bool false),(.int .i64 v),(.pointer (some ⟨B,0,none⟩)),(.int .i64 k),(.bool true),(.bool true),(.pointer (some ⟨B,4,none⟩)),(.int .i64 i),(.bool false),(.bool false),(.bool false),undef,undef,undef,(.bool false),(.bool false),undef,undef,undef,undef,undef,(.bool false),(.bool false),undef,undef,undef,undef,undef,(.bool false)]) (D:=[]) (by kernel_rfl) (by kernel_rfl) (by kernel_rfl) ?_ hS ?_ (fun w hS=>fin false w rfl hS _ _ _ _ _ _ _ _ _ _ _ _ _ _ _ _ _ _ _ _ _ _ _ _ _ _ _ _)
  case' true=>
   cases d2
   case' false=>refine qfhu.wp_in (ds:=[5,6,7,8,9,10,11,12,13,14,15,16,17,18,19,20,21,22,23,24,25,26,27,28,29,30,31,32,4]) (B:=[(.int .i64 v),x1,x2,(.pointer (some ⟨B,0,none⟩)),(.bool false),(.int .i64 v),(.pointer (some ⟨B,0,none⟩)),(.int .i64 k),(.bool true),(.bool true),(.pointer (some ⟨B,4,none⟩)),(.int .i64 i),(.bool true),(.bool true),(.bool true),(.pointer (some ⟨B,4,none⟩)),(.int .i64 i),(.bool false),(.bool false),(.bool false),undef,undef,undef,undef,undef,(.bool false),(.bool false),undef,undef,undef,undef,undef,(.bool false)]) (D:=[]) (by kernel_rfl) (by kernel_rfl) (by kernel_rfl) ?_ hS ?_ (fun w hS=>fin false w rfl hS _ _ _ _ _ _ _ _ _ _ _ _ _ _ _ _ _ _ _ _ _ _ _ _ _ _ _ _)
   case' true=>
    cases d3
    case' false=>refine qfhu.wp_in (ds:=[5,6,7,8,9,10,11,12,13,14,15,16,17,18,19,20,21,22,23,24,25,26,27,28,29,30,31,32,4]) (B:=[(.int .i64 v),x1,x2,(.pointer (some ⟨B,0,none⟩)),(.bool false),(.int .i64 v),(.pointer (some ⟨B,0,none⟩)),(.int .i64 k),(.bool true),(.bool true),(.pointer (some ⟨B,4,none⟩)),(.int .i64 i),(.bool true),(.bool true),(.bool true),(.pointer (some ⟨B,4,none⟩)),(.int .i64 i),(.bool true),(.bool true),(.bool true),(.pointer (some ⟨B,0,none⟩)),(.int .i64 k),(.pointer (some ⟨B,21,none⟩)),(.int .i64 c),(.bool false),(.bool false),(.bool false),undef,undef,undef,undef,undef,(.bool false)]) (D:=[]) (by kernel_rfl) (by kernel_rfl) (by kernel_rfl) ?_ hS ?_ (fun w hS=>fin false w rfl hS _ _ _ _ _ _ _ _ _ _ _ _ _ _ _ _ _ _ _ _ _ _ _ _ _ _ _ _)
    case' true=>
     cases d4
     case' false=>refine qfhu.wp_in (ds:=[5,6,7,8,9,10,11,12,13,14,15,16,17,18,19,20,21,22,23,24,25,26,27,28,29,30,31,32,4]) (B:=[(.int .i64 v),x1,x2,(.pointer (some ⟨B,0,none⟩)),(.bool false),(.int .i64 v),(.pointer (some ⟨B,0,none⟩)),(.int .i64 k),(.bool true),(.bool true),(.pointer (some ⟨B,4,none⟩)),(.int .i64 i),(.bool true),(.bool true),(.bool true),(.pointer (some ⟨B,4,none⟩)),(.int .i64 i),(.bool true),(.bool true),(.bool true),(.pointer (some ⟨B,0,none⟩)),(.int .i64 k),(.pointer (some ⟨B,21,none⟩)),(.int .i64 c),(.bool true),(.bool true),(.bool true),(.agg C),(.int .i64 v),(.agg C),(.agg D),(.bool false),(.bool false)]) (D:=[]) (by kernel_rfl) (by kernel_rfl) (by kernel_rfl) ?_ hS ?_ (fun w hS=>fin false w rfl hS _ _ _ _ _ _ _ _ _ _ _ _ _ _ _ _ _ _ _ _ _ _ _ _ _ _ _ _)
     case' true=>
      refine qfhu.wp_in (ds:=[5,6,7,8,9,10,11,12,13,14,15,16,17,18,19,20,21,22,23,24,25,26,27,28,29,30,31,32,4]) (B:=[(.int .i64 v),x1,x2,(.pointer (some ⟨B,0,none⟩)),(.bool true),(.int .i64 v),(.pointer (some ⟨B,0,none⟩)),(.int .i64 k),(.bool true),(.bool true),(.pointer (some ⟨B,4,none⟩)),(.int .i64 i),(.bool true),(.bool true),(.bool true),(.pointer (some ⟨B,4,none⟩)),(.int .i64 i),(.bool true),(.bool true),(.bool true),(.pointer (some ⟨B,0,none⟩)),(.int .i64 k),(.pointer (some ⟨B,21,none⟩)),(.int .i64 c),(.bool true),(.bool true),(.bool true),(.agg C),(.int .i64 v),(.agg C),(.agg D),(.bool true),(.bool true)]) (D:=[]) (by kernel_rfl) (by kernel_rfl) (by kernel_rfl) ?_ hS ?_ (fun w hS=>fin true w rfl hS _ _ _ _ _ _ _ _ _ _ _ _ _ _ _ _ _ _ _ _ _ _ _ _ _ _ _ _)
 all_goals first
  | (
   refine qfhu.pu rfl rfl rfl rfl (fun w hS=>rfl) ?_
   refine qfhu.pu rfl rfl rfl rfl (fun w hS=>qd7q rfl) ?_
   refine qfhu.pu rfl rfl rfl rfl (fun w hS=>qkcv rfl (K0 w hS)) ?_
   refine qfhu.ca rfl rfl rfl rfl (fun w=>qpjl.enter2 Tryz.func22 rfl rfl rfl) H0 ?_
   refine qfhu.pu rfl rfl rfl rfl (fun w hS=>rfl) ?_
   first | refine qfhu.sk rfl rfl rfl rfl ?_ | refine qfhu.pu rfl rfl rfl rfl (fun w hS=>q43k rfl) ?_
   first | refine qfhu.sk rfl rfl rfl rfl ?_ | refine qfhu.pu rfl rfl rfl rfl (fun w hS=>qkcv rfl (K4 w hS)) ?_
   first | refine qfhu.sk rfl rfl rfl rfl ?_ | refine qfhu.pu rfl rfl rfl rfl (fun w hS=>qyhu rfl ed1) ?_
   refine qfhu.pu rfl rfl rfl rfl (fun w hS=>rfl) ?_
   refine qfhu.pu rfl rfl rfl rfl (fun w hS=>rfl) ?_
   first | refine qfhu.sk rfl rfl rfl rfl ?_ | refine qfhu.pu rfl rfl rfl rfl (fun w hS=>q43k rfl) ?_
   first | refine qfhu.sk rfl rfl rfl rfl ?_ | refine qfhu.pu rfl rfl rfl rfl (fun w hS=>qkcv rfl (K4 w hS)) ?_
   first | refine qfhu.sk rfl rfl rfl rfl ?_ | refine qfhu.pu rfl rfl rfl rfl (fun w hS=>qbhz rfl ed2) ?_
   refine qfhu.pu rfl rfl rfl rfl (fun w hS=>rfl) ?_
   refine qfhu.pu rfl rfl rfl rfl (fun w hS=>rfl) ?_
   first | refine qfhu.sk rfl rfl rfl rfl ?_ | refine qfhu.pu rfl rfl rfl rfl (fun w hS=>qd7q rfl) ?_
   first | refine qfhu.sk rfl rfl rfl rfl ?_ | refine qfhu.pu rfl rfl rfl rfl (fun w hS=>qkcv rfl (K0 w hS)) ?_
   first | refine qfhu.sk rfl rfl rfl rfl ?_ | refine qfhu.pu rfl rfl rfl rfl (fun w hS=>q0yj rfl) ?_
   first | refine qfhu.sk rfl rfl rfl rfl ?_ | refine qfhu.pu rfl rfl rfl rfl (fun w hS=>qkcv rfl (K21 w hS)) ?_
   first | refine qfhu.sk rfl rfl rfl rfl ?_ | refine qfhu.ca rfl rfl rfl rfl (fun w=>qpjl.enter2 Tryz.func54 rfl rfl rfl) H1 ?_
   refine qfhu.pu rfl rfl rfl rfl (fun w hS=>rfl) ?_
   refine qfhu.pu rfl rfl rfl rfl (fun w hS=>rfl) ?_
   first | refine qfhu.sk rfl rfl rfl rfl ?_ | refine qfhu.pu rfl rfl rfl rfl (fun w hS=>qjuh rfl hC (KC w hS)) ?_
   first | refine qfhu.sk rfl rfl rfl rfl ?_ | refine qfhu.pu rfl rfl rfl rfl (fun w hS=>rfl) ?_
   first | refine qfhu.sk rfl rfl rfl rfl ?_ | refine qfhu.pu rfl rfl rfl rfl (fun w hS=>qjuh rfl hC (KC w hS)) ?_
   first | refine qfhu.sk rfl rfl rfl rfl ?_ | refine qfhu.ca rfl rfl rfl rfl (fun w=>qpjl.enter2 Tryz.func56 rfl rfl rfl) H2 ?_
   first | refine qfhu.sk rfl rfl rfl rfl ?_ | refine qfhu.ca rfl rfl rfl rfl (fun w=>qpjl.enter2 Tryz.func55 rfl rfl rfl) H3 ?_
   refine qfhu.pu rfl rfl rfl rfl (fun w hS=>rfl) ?_
   refine qfhu.pu rfl rfl rfl rfl (fun w hS=>rfl) ?_
   exact qfhu.All.fin rfl)
  | exact(by repeat (first | exact trivial | refine⟨.inr rfl,?_⟩ | refine⟨.inl rfl,?_⟩))
section
variable{a:Act}{w:World}{d:Option Tmp}{p:String}{af:Array Edge}{gd:Option (Nat×Bool)}{x y z:Tmp}{r:TypeId}
theorem qtsc{g:Nat}{C:Array Value}(hx:a.eval (.tmp x) = .pointer (some ⟨g,0,none⟩))(hs:C.size=25)(hg:w.heap[g]? = some (.cells C 35 (0,0))) :
 (execOp a.eval {dst:=d,op := .load 35 (.tmp x),type:=35,pos:=p,after:=af,guard:=gd}).run Tryz.prog w = .ok (.value (.agg C)) w:=by
 unfold execOp
 simp only[hx,Instr.loadAt,Instr.sureAddr,Sem.run_bind,Sem.run_pure,Result.andThen_ok,run_loadVar_row w g 35 35 C (0,0) _ hg Tryz.underlying35 rfl (by rw[hs];exact q5nr)]
theorem qb5w{g:Nat}(hx:a.eval (.tmp x) = .pointer (some ⟨g,0,none⟩)) :
 (execOp a.eval {dst:=d,op := .fieldAddr 35 (.tmp x) 18,type:=r,pos:=p,after:=af,guard:=gd}).run Tryz.prog w = .ok (.value (.pointer (some ⟨g,22,none⟩))) w:=by
 generalize a.eval=f at *
 go_simp
theorem qdvg{g:Nat}(hx:a.eval (.tmp x) = .pointer (some ⟨g,0,none⟩)) :
 (execOp a.eval {dst:=d,op := .fieldAddr 35 (.tmp x) 19,type:=r,pos:=p,after:=af,guard:=gd}).run Tryz.prog w = .ok (.value (.pointer (some ⟨g,23,none⟩))) w:=by
 generalize a.eval=f at *
 go_simp
theorem qmir{g:Nat}(hx:a.eval (.tmp x) = .pointer (some ⟨g,0,none⟩)) :
 (execOp a.eval {dst:=d,op := .fieldAddr 35 (.tmp x) 20,type:=r,pos:=p,after:=af,guard:=gd}).run Tryz.prog w = .ok (.value (.pointer (some ⟨g,24,none⟩))) w:=by
 generalize a.eval=f at *
 go_simp
theorem qa2v{g:Nat}(hx:a.eval (.tmp x) = .pointer (some ⟨g,0,none⟩)) :
 (execOp a.eval {dst:=d,op := .fieldAddr 35 (.tmp x) 15,type:=r,pos:=p,after:=af,guard:=gd}).run Tryz.prog w = .ok (.value (.pointer (some ⟨g,15,none⟩))) w:=by
 generalize a.eval=f at *
 go_simp
theorem q4lz{g:Nat}(hx:a.eval (.tmp x) = .pointer (some ⟨g,15,none⟩)) :
 (execOp a.eval {dst:=d,op := .fieldAddr 31 (.tmp x) 4,type:=r,pos:=p,after:=af,guard:=gd}).run Tryz.prog w = .ok (.value (.pointer (some ⟨g,19,none⟩))) w:=by
 generalize a.eval=f at *
 go_simp
theorem qajx{g j n c:Nat}{A:Option Addr}(hx:a.eval (.tmp x) = .pointer (some ⟨g,j,none⟩))(hc:w.cell? ⟨g,j,none⟩=some (.slice A n c)) :
 (execOp a.eval {dst:=d,op := .load 32 (.tmp x),type:=32,pos:=p,after:=af,guard:=gd}).run Tryz.prog w = .ok (.value (.slice A n c)) w:=by
 generalize a.eval=f at *
 go_simp
theorem q352{g j n c:Nat}{A:Option Addr}(hx:a.eval (.tmp x) = .pointer (some ⟨g,j,none⟩))(hc:w.cell? ⟨g,j,none⟩=some (.slice A n c)) :
 (execOp a.eval {dst:=d,op := .load 33 (.tmp x),type:=33,pos:=p,after:=af,guard:=gd}).run Tryz.prog w = .ok (.value (.slice A n c)) w:=by
 generalize a.eval=f at *
 go_simp
theorem qms8{g j n c:Nat}{A:Option Addr}(hx:a.eval (.tmp x) = .pointer (some ⟨g,j,none⟩))(hc:w.cell? ⟨g,j,none⟩=some (.slice A n c)) :
 (execOp a.eval {dst:=d,op := .load 26 (.tmp x),type:=26,pos:=p,after:=af,guard:=gd}).run Tryz.prog w = .ok (.value (.slice A n c)) w:=by
 generalize a.eval=f at *
 go_simp
theorem q3lh{p' q':Pk}{b:Bool}(hx:a.eval (.tmp x) = .agg (q3zb p'))(hy:a.eval (.tmp y) = .agg (q3zb q'))(hb:decide (p'.nums=q'.nums)=b) :
 (execOp a.eval {dst:=d,op := .binOp .eql 124 (.tmp x) (.tmp y) 124,type:=r,pos:=p,after:=af,guard:=gd}).run Tryz.prog w = .ok (.value (.bool b)) w:=by
 subst hb
 unfold execOp
 simp only[hx,hy,Sem.run_bind,run_eqGuard_agg w .eql 124 (.tmp x) (.tmp y) _ _ (show Tryz.prog.eqGuardType Tryz.prog.depth 124=false by kernel_rfl),Result.andThen_ok,qh1o p' q' w,Sem.run_pure]
theorem qtwp8{p' q':Pk}{b:Bool}(hx:a.eval (.tmp x) = .agg (qjjk p'))(hy:a.eval (.tmp y) = .agg (qjjk q'))(hb:decide (p'.marks=q'.marks)=b) :
 (execOp a.eval {dst:=d,op := .binOp .eql 126 (.tmp x) (.tmp y) 126,type:=r,pos:=p,after:=af,guard:=gd}).run Tryz.prog w = .ok (.value (.bool b)) w:=by
 subst hb
 unfold execOp
 simp only[hx,hy,Sem.run_bind,run_eqGuard_agg w .eql 126 (.tmp x) (.tmp y) _ _ (show Tryz.prog.eqGuardType Tryz.prog.depth 126=false by kernel_rfl),Result.andThen_ok,quaf p' q' w,Sem.run_pure]
theorem qpii{p' q':Pk}{b:Bool}(hx:a.eval (.tmp x) = .agg (q5cx p'))(hy:a.eval (.tmp y) = .agg (q5cx q'))(hb:decide (p'.texts=q'.texts)=b) :
 (execOp a.eval {dst:=d,op := .binOp .eql 128 (.tmp x) (.tmp y) 128,type:=r,pos:=p,after:=af,guard:=gd}).run Tryz.prog w = .ok (.value (.bool b)) w:=by
 subst hb
 unfold execOp
 simp only[hx,hy,Sem.run_bind,run_eqGuard_agg w .eql 128 (.tmp x) (.tmp y) _ _ (show Tryz.prog.eqGuardType Tryz.prog.depth 128=false by kernel_rfl),Result.andThen_ok,q6p1 p' q' w,Sem.run_pure]
end
theorem qw00{Q:Exit→Act→World→Prop}{S:World→Prop}{W:World}{p q:Pk}{a b:Ad}{C E:Array Value}{B:Nat}{x5 x6 x7 x8 x9 x10 x11 x12 x13 x14 x15 x16 x17 x18 x19 x20 x21 x22 x23 x24 x25 x26 x27 x28 x29 x30 x31 x32 x33 x34 x35 x36 x37 x38 x39 x40 x41 x42 x43 x44 x45 x46 x47 x48 x49 x50 x51 x52 x53:Value}
 (hS:S W.drew) (hC:C.size=25) (hE:E.size=25) (hS1:∀w,S w→w.heap[B]? = some (.cells C 35 (0,0))) (hS2:∀w,S w→w.heap[B+1]? = some (.cells E 35 (0,0)))
 (N0p:∀w,S w→Calls Tryz.prog 85 #[.agg C] w fun e w'=>e = .returned (.agg (q3zb p))∧S w')
 (N0q:∀w,S w→Calls Tryz.prog 85 #[.agg E] w fun e w'=>e = .returned (.agg (q3zb q))∧S w')
 (N1p:∀w,S w→Calls Tryz.prog 86 #[.agg C] w fun e w'=>e = .returned (.agg (qjjk p))∧S w')
 (N1q:∀w,S w→Calls Tryz.prog 86 #[.agg E] w fun e w'=>e = .returned (.agg (qjjk q))∧S w')
 (N2p:∀w,S w→Calls Tryz.prog 87 #[.agg C] w fun e w'=>e = .returned (.agg (q5cx p))∧S w')
 (N2q:∀w,S w→Calls Tryz.prog 87 #[.agg E] w fun e w'=>e = .returned (.agg (q5cx q))∧S w')
 (hp22:∀w,S w→w.cell? ⟨B,22,none⟩=some (.slice a.cs p.codes.length a.cc))
 (hq22:∀w,S w→w.cell? ⟨B+1,22,none⟩=some (.slice b.cs q.codes.length b.cc))
 (F3:∀w,S w→Calls Tryz.prog 88 #[(.slice a.cs p.codes.length a.cc),(.slice b.cs q.codes.length b.cc),.func (.func 89) #[] #[]] w fun e w'=>e = .returned (.bool (decide (p.codes=q.codes)))∧S w')
 (hp23:∀w,S w→w.cell? ⟨B,23,none⟩=some (.slice a.fs p.filters.length a.fc))
 (hq23:∀w,S w→w.cell? ⟨B+1,23,none⟩=some (.slice b.fs q.filters.length b.fc))
 (F4:∀w,S w→Calls Tryz.prog 90 #[(.slice a.fs p.filters.length a.fc),(.slice b.fs q.filters.length b.fc),.func (.func 91) #[] #[]] w fun e w'=>e = .returned (.bool (decide (p.filters=q.filters)))∧S w')
 (hp24:∀w,S w→w.cell? ⟨B,24,none⟩=some (.slice a.ps p.props.length a.pc))
 (hq24:∀w,S w→w.cell? ⟨B+1,24,none⟩=some (.slice b.ps q.props.length b.pc))
 (F5:∀w,S w→Calls Tryz.prog 92 #[(.slice a.ps p.props.length a.pc),(.slice b.ps q.props.length b.pc),.func (.func 93) #[] #[]] w fun e w'=>e = .returned (.bool (decide (p.props=q.props)))∧S w')
 (hp19:∀w,S w→w.cell? ⟨B,19,none⟩=some (.slice a.w p.wProps.length a.wc))
 (hq19:∀w,S w→w.cell? ⟨B+1,19,none⟩=some (.slice b.w q.wProps.length b.wc))
 (F6:∀w,S w→Calls Tryz.prog 92 #[(.slice a.w p.wProps.length a.wc),(.slice b.w q.wProps.length b.wc),.func (.func 93) #[] #[]] w fun e w'=>e = .returned (.bool (decide (p.wProps=q.wProps)))∧S w')
 (fin:∀(r:Bool) (w:World),(decide (p.nums=q.nums)&&decide (p.marks=q.marks)&&decide (p.texts=q.texts)&&decide (p.codes=q.codes)&&decide (p.filters=q.filters)&&decide (p.props=q.props)&&decide (p.wProps=q.wProps))=r→S w→∀x5 x6 x7 x8 x9 x10 x11 x12 x13 x14 x15 x16 x17 x18 x19 x20 x21 x22 x23 x24 x25 x26 x27 x28 x29 x30 x31 x32 x33 x34 x35 x36 x37 x38 x39 x40 x41 x42 x43 x44 x45 x46 x47 x48 x49 x50 x51 x52 x53,Q .normal ⟨#[(.agg C),(.agg E),(.pointer (some ⟨B,0,none⟩)),(.pointer (some ⟨B+1,0,none⟩)),(.bool r),x5,x6,x7,x8,x9,x10,x11,x12,x13,x14,x15,x16,x17,x18,x19,x20,x21,x22,x23,x24,x25,x26,x27,x28,x29,x30,x31,x32,x33,x34,x35,x36,x37,x38,x39,x40,x41,x42,x43,x44,x45,x46,x47,x48,x49,x50,x51,x52,x53],[]⟩ w) :
 (Code.region 1 (qfhu.opsAt 1 Tryz.f55.body) true).wp Tryz.prog Q ⟨#[(.agg C),(.agg E),(.pointer (some ⟨B,0,none⟩)),(.pointer (some ⟨B+1,0,none⟩)),(.bool false),x5,x6,x7,x8,x9,x10,x11,x12,x13,x14,x15,x16,x17,x18,x19,x20,x21,x22,x23,x24,x25,x26,x27,x28,x29,x30,x31,x32,x33,x34,x35,x36,x37,x38,x39,x40,x41,x42,x43,x44,x45,x46,x47,x48,x49,x50,x51,x52,x53],[]⟩ W:=by
 obtain⟨d0,h0⟩:∃d,decide (p.nums=q.nums)=d:=⟨_,rfl⟩
 obtain⟨d1,h1⟩:∃d,decide (p.marks=q.marks)=d:=⟨_,rfl⟩
 obtain⟨d2,h2⟩:∃d,decide (p.texts=q.texts)=d:=⟨_,rfl⟩
 obtain⟨d3,h3⟩:∃d,decide (p.codes=q.codes)=d:=⟨_,rfl⟩
 obtain⟨d4,h4⟩:∃d,decide (p.filters=q.filters)=d:=⟨_,rfl⟩
 obtain⟨d5,h5⟩:∃d,decide (p.props=q.props)=d:=⟨_,rfl⟩
 obtain⟨d6,h6⟩:∃d,decide (p.wProps=q.wProps)=d:=⟨_,rfl⟩
 rw[h0,h1,h2,h3,h4,h5,h6] at fin
 rw[h3] at F3
 rw[h4] at F4
 rw[h5] at F5
 rw[h6] at F6
 cases d0
 case' false=>refine qfhu.wp_in (ds:=[5,6,7,8,9,10,11,12,13,14,15,16,17,18,19,20,21,22,23,24,25,26,27,28,29,30,31,32,33,34,35,36,37,38,39,40,41,42,43,44,45,46,47,48,49,50,51,52,53,4]) (B:=[(.agg C),(.agg E),(.pointer (some ⟨B,0,none⟩)),(.pointer (some ⟨B+1,0,none⟩)),(.bool false),(.agg C),(.agg (q3zb p)),(.agg E),(.agg (q3zb q)),(.bool false),(.bool false),undef,undef,undef,undef,undef,(.bool false),(.bool false),undef,undef,undef,undef,undef,(.bool false),(.bool false),undef,undef,undef,undef,undef,(.bool false),(.bool false),undef,undef,undef,undef,undef,(.bool false),(.bool false),undef,undef,undef,undef,undef,(.bool false),(.bool false),undef,undef,undef,undef,undef,undef,undef,(.bool false)]) (D:=[]) (by kernel_rfl) (by kernel_rfl) (by kernel_rfl) ?_ hS ?_ (fun w h=>by apply fin<;>first | rfl | exact h)
 case' true=>
  cases d1
  case' false=>refine qfhu.wp_in (ds:=[5,6,7,8,9,10,11,12,13,14,15,16,17,18,19,20,21,22,23,24,25,26,27,28,29,30,31,32,33,34,35,36,37,38,39,40,41,42,43,44,45,46,47,48,49,50,51,52,53,4]) (B:=[(.agg C),(.agg E),(.pointer (some ⟨B,0,none⟩)),(.pointer (some ⟨B+1,0,none⟩)),(.bool false),(.agg C),(.agg (q3zb p)),(.agg E),(.agg (q3zb q)),(.bool true),(.bool true),(.agg C),(.agg (qjjk p)),(.agg E),(.agg (qjjk q)),(.bool false),(.bool false),(.bool false),undef,undef,undef,undef,undef,(.bool false),(.bool false),undef,undef,undef,undef,undef,(.bool false),(.bool false),undef,undef,undef,undef,undef,(.bool false),(.bool false),undef,undef,undef,undef,undef,(.bool false),(.bool false),undef,undef,undef,undef,undef,undef,undef,(.bool false)]) (D:=[]) (by kernel_rfl) (by kernel_rfl) (by kernel_rfl) ?_ hS ?_ (fun w h=>by apply fin<;>first | rfl | exact h)
  case' true=>
   cases d2
   case' false=>refine qfhu.wp_in (ds:=[5,6,7,8,9,10,11,12,13,14,15,16,17,18,19,20,21,22,23,24,25,26,27,28,29,30,31,32,33,34,35,36,37,38,39,40,41,42,43,44,45,46,47,48,49,50,51,52,53,4]) (B:=[(.agg C),(.agg E),(.pointer (some ⟨B,0,none⟩)),(.pointer (some ⟨B+1,0,none⟩)),(.bool false),(.agg C),(.agg (q3zb p)),(.agg E),(.agg (q3zb q)),(.bool true),(.bool true),(.agg C),(.agg (qjjk p)),(.agg E),(.agg (qjjk q)),(.bool true),(.bool true),(.bool true),(.agg C),(.agg (q5cx p)),(.agg E),(.agg (q5cx q)),(.bool false),(.bool false),(.bool false),undef,undef,undef,undef,undef,(.bool false),(.bool false),undef,undef,undef,undef,undef,(.bool false),(.bool false),undef,undef,undef,undef,undef,(.bool false),(.bool false),undef,undef,undef,undef,undef,undef,undef,(.bool false)]) (D:=[]) (by kernel_rfl) (by kernel_rfl) (by kernel_rfl) ?_ hS ?_ (fun w h=>by apply fin<;>first | rfl | exact h)
   case' true=>
    cases d3
    case' false=>refine qfhu.wp_in (ds:=[5,6,7,8,9,10,11,12,13,14,15,16,17,18,19,20,21,22,23,24,25,26,27,28,29,30,31,32,33,34,35,36,37,38,39,40,41,42,43,44,45,46,47,48,49,50,51,52,53,4]) (B:=[(.agg C),(.agg E),(.pointer (some ⟨B,0,none⟩)),(.pointer (some ⟨B+1,0,none⟩)),(.bool false),(.agg C),(.agg (q3zb p)),(.agg E),(.agg (q3zb q)),(.bool true),(.bool true),(.agg C),(.agg (qjjk p)),(.agg E),(.agg (qjjk q)),(.bool true),(.bool true),(.bool true),(.agg C),(.agg (q5cx p)),(.agg E),(.agg (q5cx q)),(.bool true),(.bool true),(.bool true),(.pointer (some ⟨B,22,none⟩)),(.slice a.cs p.codes.length a.cc),(.pointer (some ⟨B+1,22,none⟩)),(.slice b.cs q.codes.length b.cc),(.bool false),(.bool false),(.bool false),undef,undef,undef,undef,undef,(.bool false),(.bool false),undef,undef,undef,undef,undef,(.bool false),(.bool false),undef,undef,undef,undef,undef,undef,undef,(.bool false)]) (D:=[]) (by kernel_rfl) (by kernel_rfl) (by kernel_rfl) ?_ hS ?_ (fun w h=>by apply fin<;>first | rfl | exact h)
    case' true=>
     cases d4
     case' false=>refine qfhu.wp_in (ds:=[5,6,7,8,9,10,11,12,13,14,15,16,17,18,19,20,21,22,23,24,25,26,27,28,29,30,31,32,33,34,35,36,37,38,39,40,41,42,43,44,45,46,47,48,49,50,51,52,53,4]) (B:=[(.agg C),(.agg E),(.pointer (some ⟨B,0,none⟩)),(.pointer (some ⟨B+1,0,none⟩)),(.bool false),(.agg C),(.agg (q3zb p)),(.agg E),(.agg (q3zb q)),(.bool true),(.bool true),(.agg C),(.agg (qjjk p)),(.agg E),(.agg (qjjk q)),(.bool true),(.bool true),(.bool true),(.agg C),(.agg (q5cx p)),(.agg E),(.agg (q5cx q)),(.bool true),(.bool true),(.bool true),(.pointer (some ⟨B,22,none⟩)),(.slice a.cs p.codes.length a.cc),(.pointer (some ⟨B+1,22,none⟩)),(.slice b.cs q.codes.length b.cc),(.bool true),(.bool true),(.bool true),(.pointer (some ⟨B,23,none⟩)),(.slice a.fs p.filters.length a.fc),(.pointer (some ⟨B+1,23,none⟩)),(.slice b.fs q.filters.length b.fc),(.bool false),(.bool false),(.bool false),undef,undef,undef,undef,undef,(.bool false),(.bool false),undef,undef,undef,undef,undef,undef,undef,(.bool false)]) (D:=[]) (by kernel_rfl) (by kernel_rfl) (by kernel_rfl) ?_ hS ?_ (fun w h=>by apply fin<;>first | rfl | exact h)
     case' true=>
      cases d5
      case' false=>refine qfhu.wp_in (ds:=[5,6,7,8,9,10,11,12,13,14,15,16,17,18,19,20,21,22,23,24,25,26,27,28,29,30,31,32,33,34,35,36,37,38,39,40,41,42,43,44,45,46,47,48,49,50,51,52,53,4]) (B:=[(.agg C),(.agg E),(.pointer (some ⟨B,0,none⟩)),(.pointer (some ⟨B+1,0,none⟩)),(.bool false),(.agg C),(.agg (q3zb p)),(.agg E),(.agg (q3zb q)),(.bool true),(.bool true),(.agg C),(.agg (qjjk p)),(.agg E),(.agg (qjjk q)),(.bool true),(.bool true),(.bool true),(.agg C),(.agg (q5cx p)),(.agg E),(.agg (q5cx q)),(.bool true),(.bool true),(.bool true),(.pointer (some ⟨B,22,none⟩)),(.slice a.cs p.codes.length a.cc),(.pointer (some ⟨B+1,22,none⟩)),(.slice b.cs q.codes.length b.cc),(.bool true),(.bool true),(.bool true),(.pointer (some ⟨B,23,none⟩)),(.slice a.fs p.filters.length a.fc),(.pointer (some ⟨B+1,23,none⟩)),(.slice b.fs q.filters.length b.fc),(.bool true),(.bool true),(.bool true),(.pointer (some ⟨B,24,none⟩)),(.slice a.ps p.props.length a.pc),(.pointer (some ⟨B+1,24,none⟩)),(.slice b.ps q.props.length b.pc),(.bool false),(.bool false),(.bool false),undef,undef,undef,undef,undef,undef,undef,(.bool false)]) (D:=[]) (by kernel_rfl) (by kernel_rfl) (by kernel_rfl) ?_ hS ?_ (fun w h=>by apply fin<;>first | rfl | exact h)
      case' true=>
       cases d6
       case' false=>refine qfhu.wp_in (ds:=[5,6,7,8,9,10,11,12,13,14,15,16,17,18,19,20,21,22,23,24,25,26,27,28,29,30,31,32,33,34,35,36,37,38,39,40,41,42,43,44,45,46,47,48,49,50,51,52,53,4]) (B:=[(.agg C),(.agg E),(.pointer (some ⟨B,0,none⟩)),(.pointer (some ⟨B+1,0,none⟩)),(.bool false),(.agg C),(.agg (q3zb p)),(.agg E),(.agg (q3zb q)),(.bool true),(.bool true),(.agg C),(.agg (qjjk p)),(.agg E),(.agg (qjjk q)),(.bool true),(.bool true),(.bool true),(.agg C),(.agg (q5cx p)),(.agg E),(.agg (q5cx q)),(.bool true),(.bool true),(.bool true),(.pointer (some ⟨B,22,none⟩)),(.slice a.cs p.codes.length a.cc),(.pointer (some ⟨B+1,22,none⟩)),(.slice b.cs q.codes.length b.cc),(.bool true),(.bool true),(.bool true),(.pointer (some ⟨B,23,none⟩)),(.slice a.fs p.filters.length a.fc),(.pointer (some ⟨B+1,23,none⟩)),(.slice b.fs q.filters.length b.fc),(.bool true),(.bool true),(.bool true),(.pointer (some ⟨B,24,none⟩)),(.slice a.ps p.props.length a.pc),(.pointer (some ⟨B+1,24,none⟩)),(.slice b.ps q.props.length b.pc),(.bool true),(.bool true),(.bool true),(.pointer (some ⟨B,15,none⟩)),(.pointer (some ⟨B,19,none⟩)),(.slice a.w p.wProps.length a.wc),(.pointer (some ⟨B+1,15,none⟩)),(.pointer (some ⟨B+1,19,none⟩)),(.slice b.w q.wProps.length b.wc),(.bool false),(.bool false)]) (D:=[]) (by kernel_rfl) (by kernel_rfl) (by kernel_rfl) ?_ hS ?_ (fun w h=>by apply fin<;>first | rfl | exact h)
       case' true=>
        refine qfhu.wp_in (ds:=[5,6,7,8,9,10,11,12,13,14,15,16,17,18,19,20,21,22,23,24,25,26,27,28,29,30,31,32,33,34,35,36,37,38,39,40,41,42,43,44,45,46,47,48,49,50,51,52,53,4]) (B:=[(.agg C),(.agg E),(.pointer (some ⟨B,0,none⟩)),(.pointer (some ⟨B+1,0,none⟩)),(.bool true),(.agg C),(.agg (q3zb p)),(.agg E),(.agg (q3zb q)),(.bool true),(.bool true),(.agg C),(.agg (qjjk p)),(.agg E),(.agg (qjjk q)),(.bool true),(.bool true),(.bool true),(.agg C),(.agg (q5cx p)),(.agg E),(.agg (q5cx q)),(.bool true),(.bool true),(.bool true),(.pointer (some ⟨B,22,none⟩)),(.slice a.cs p.codes.length a.cc),(.pointer (some ⟨B+1,22,none⟩)),(.slice b.cs q.codes.length b.cc),(.bool true),(.bool true),(.bool true),(.pointer (some ⟨B,23,none⟩)),(.slice a.fs p.filters.length a.fc),(.pointer (some ⟨B+1,23,none⟩)),(.slice b.fs q.filters.length b.fc),(.bool true),(.bool true),(.bool true),(.pointer (some ⟨B,24,none⟩)),(.slice a.ps p.props.length a.pc),(.pointer (some ⟨B+1,24,none⟩)),(.slice b.ps q.props.length b.pc),(.bool true),(.bool true),(.bool true),(.pointer (some ⟨B,15,none⟩)),(.pointer (some ⟨B,19,none⟩)),(.slice a.w p.wProps.length a.wc),(.pointer (some ⟨B+1,15,none⟩)),(.pointer (some ⟨B+1,19,none⟩)),(.slice b.w q.wProps.length b.wc),(.bool true),(.bool true)]) (D:=[]) (by kernel_rfl) (by kernel_rfl) (by kernel_rfl) ?_ hS ?_ (fun w h=>by apply fin<;>first | rfl | exact h)
 all_goals first
  | (
   first | refine qfhu.sk rfl rfl rfl rfl ?_ | refine qfhu.pu rfl rfl rfl rfl (fun w hS=>qtsc rfl hC (hS1 w hS)) ?_
   first | refine qfhu.sk rfl rfl rfl rfl ?_ | refine qfhu.ca rfl rfl rfl rfl (fun w=>qpjl.enter1 Tryz.func85 rfl rfl) N0p ?_
   first | refine qfhu.sk rfl rfl rfl rfl ?_ | refine qfhu.pu rfl rfl rfl rfl (fun w hS=>qtsc rfl hE (hS2 w hS)) ?_
   first | refine qfhu.sk rfl rfl rfl rfl ?_ | refine qfhu.ca rfl rfl rfl rfl (fun w=>qpjl.enter1 Tryz.func85 rfl rfl) N0q ?_
   first | refine qfhu.sk rfl rfl rfl rfl ?_ | refine qfhu.pu rfl rfl rfl rfl (fun w hS=>q3lh rfl rfl h0) ?_
   first | refine qfhu.sk rfl rfl rfl rfl ?_ | refine qfhu.pu rfl rfl rfl rfl (fun w hS=>rfl) ?_
   first | refine qfhu.sk rfl rfl rfl rfl ?_ | refine qfhu.pu rfl rfl rfl rfl (fun w hS=>qtsc rfl hC (hS1 w hS)) ?_
   first | refine qfhu.sk rfl rfl rfl rfl ?_ | refine qfhu.ca rfl rfl rfl rfl (fun w=>qpjl.enter1 Tryz.func86 rfl rfl) N1p ?_
   first | refine qfhu.sk rfl rfl rfl rfl ?_ | refine qfhu.pu rfl rfl rfl rfl (fun w hS=>qtsc rfl hE (hS2 w hS)) ?_
   first | refine qfhu.sk rfl rfl rfl rfl ?_ | refine qfhu.ca rfl rfl rfl rfl (fun w=>qpjl.enter1 Tryz.func86 rfl rfl) N1q ?_
   first | refine qfhu.sk rfl rfl rfl rfl ?_ | refine qfhu.pu rfl rfl rfl rfl (fun w hS=>qtwp8 rfl rfl h1) ?_
   first | refine qfhu.sk rfl rfl rfl rfl ?_ | refine qfhu.pu rfl rfl rfl rfl (fun w hS=>rfl) ?_
   first | refine qfhu.sk rfl rfl rfl rfl ?_ | refine qfhu.pu rfl rfl rfl rfl (fun w hS=>rfl) ?_
   first | refine qfhu.sk rfl rfl rfl rfl ?_ | refine qfhu.pu rfl rfl rfl rfl (fun w hS=>qtsc rfl hC (hS1 w hS)) ?_
   first | refine qfhu.sk rfl rfl rfl rfl ?_ | refine qfhu.ca rfl rfl rfl rfl (fun w=>qpjl.enter1 Tryz.func87 rfl rfl) N2p ?_
   first | refine qfhu.sk rfl rfl rfl rfl ?_ | refine qfhu.pu rfl rfl rfl rfl (fun w hS=>qtsc rfl hE (hS2 w hS)) ?_
   first | refine qfhu.sk rfl rfl rfl rfl ?_ | refine qfhu.ca rfl rfl rfl rfl (fun w=>qpjl.enter1 Tryz.func87 rfl rfl) N2q ?_
   first | refine qfhu.sk rfl rfl rfl rfl ?_ | refine qfhu.pu rfl rfl rfl rfl (fun w hS=>qpii rfl rfl h2) ?_
   first | refine qfhu.sk rfl rfl rfl rfl ?_ | refine qfhu.pu rfl rfl rfl rfl (fun w hS=>rfl) ?_
   first | refine qfhu.sk rfl rfl rfl rfl ?_ | refine qfhu.pu rfl rfl rfl rfl (fun w hS=>rfl) ?_
   first | refine qfhu.sk rfl rfl rfl rfl ?_ | refine qfhu.pu rfl rfl rfl rfl (fun w hS=>qb5w rfl) ?_
   first | refine qfhu.sk rfl rfl rfl rfl ?_ | refine qfhu.pu rfl rfl rfl rfl (fun w hS=>qajx rfl (hp22 w hS)) ?_
   first | refine qfhu.sk rfl rfl rfl rfl ?_ | refine qfhu.pu rfl rfl rfl rfl (fun w hS=>qb5w rfl) ?_
   first | refine qfhu.sk rfl rfl rfl rfl ?_ | refine qfhu.pu rfl rfl rfl rfl (fun w hS=>qajx rfl (hq22 w hS)) ?_
   first | refine qfhu.sk rfl rfl rfl rfl ?_ | refine qfhu.ca rfl rfl rfl rfl (fun w=>qpjl.enter3 Tryz.func88 rfl rfl rfl rfl) F3 ?_
   first | refine qfhu.sk rfl rfl rfl rfl ?_ | refine qfhu.pu rfl rfl rfl rfl (fun w hS=>rfl) ?_
   first | refine qfhu.sk rfl rfl rfl rfl ?_ | refine qfhu.pu rfl rfl rfl rfl (fun w hS=>rfl) ?_
   first | refine qfhu.sk rfl rfl rfl rfl ?_ | refine qfhu.pu rfl rfl rfl rfl (fun w hS=>qdvg rfl) ?_
   first | refine qfhu.sk rfl rfl rfl rfl ?_ | refine qfhu.pu rfl rfl rfl rfl (fun w hS=>q352 rfl (hp23 w hS)) ?_
   first | refine qfhu.sk rfl rfl rfl rfl ?_ | refine qfhu.pu rfl rfl rfl rfl (fun w hS=>qdvg rfl) ?_
   first | refine qfhu.sk rfl rfl rfl rfl ?_ | refine qfhu.pu rfl rfl rfl rfl (fun w hS=>q352 rfl (hq23 w hS)) ?_
   first | refine qfhu.sk rfl rfl rfl rfl ?_ | refine qfhu.ca rfl rfl rfl rfl (fun w=>qpjl.enter3 Tryz.func90 rfl rfl rfl rfl) F4 ?_
   first | refine qfhu.sk rfl rfl rfl rfl ?_ | refine qfhu.pu rfl rfl rfl rfl (fun w hS=>rfl) ?_
   first | refine qfhu.sk rfl rfl rfl rfl ?_ | refine qfhu.pu rfl rfl rfl rfl (fun w hS=>rfl) ?_
   first | refine qfhu.sk rfl rfl rfl rfl ?_ | refine qfhu.pu rfl rfl rfl rfl (fun w hS=>qmir rfl) ?_
   first | refine qfhu.sk rfl rfl rfl rfl ?_ | refine qfhu.pu rfl rfl rfl rfl (fun w hS=>qms8 rfl (hp24 w hS)) ?_
   first | refine qfhu.sk rfl rfl rfl rfl ?_ | refine qfhu.pu rfl rfl rfl rfl (fun w hS=>qmir rfl) ?_
   first | refine qfhu.sk rfl rfl rfl rfl ?_ | refine qfhu.pu rfl rfl rfl rfl (fun w hS=>qms8 rfl (hq24 w hS)) ?_
   first | refine qfhu.sk rfl rfl rfl rfl ?_ | refine qfhu.ca rfl rfl rfl rfl (fun w=>qpjl.enter3 Tryz.func92 rfl rfl rfl rfl) F5 ?_
   first | refine qfhu.sk rfl rfl rfl rfl ?_ | refine qfhu.pu rfl rfl rfl rfl (fun w hS=>rfl) ?_
   first | refine qfhu.sk rfl rfl rfl rfl ?_ | refine qfhu.pu rfl rfl rfl rfl (fun w hS=>rfl) ?_
   first | refine qfhu.sk rfl rfl rfl rfl ?_ | refine qfhu.pu rfl rfl rfl rfl (fun w hS=>qa2v rfl) ?_
   first | refine qfhu.sk rfl rfl rfl rfl ?_ | refine qfhu.pu rfl rfl rfl rfl (fun w hS=>q4lz rfl) ?_
   first | refine qfhu.sk rfl rfl rfl rfl ?_ | refine qfhu.pu rfl rfl rfl rfl (fun w hS=>qms8 rfl (hp19 w hS)) ?_
   first | refine qfhu.sk rfl rfl rfl rfl ?_ | refine qfhu.pu rfl rfl rfl rfl (fun w hS=>qa2v rfl) ?_
   first | refine qfhu.sk rfl rfl rfl rfl ?_ | refine qfhu.pu rfl rfl rfl rfl (fun w hS=>q4lz rfl) ?_
   first | refine qfhu.sk rfl rfl rfl rfl ?_ | refine qfhu.pu rfl rfl rfl rfl (fun w hS=>qms8 rfl (hq19 w hS)) ?_
   first | refine qfhu.sk rfl rfl rfl rfl ?_ | refine qfhu.ca rfl rfl rfl rfl (fun w=>qpjl.enter3 Tryz.func92 rfl rfl rfl rfl) F6 ?_
   first | refine qfhu.sk rfl rfl rfl rfl ?_ | refine qfhu.pu rfl rfl rfl rfl (fun w hS=>rfl) ?_
   first | refine qfhu.sk rfl rfl rfl rfl ?_ | refine qfhu.pu rfl rfl rfl rfl (fun w hS=>rfl) ?_
   exact qfhu.All.fin rfl)
  | exact(by repeat (first | exact trivial | refine⟨.inr rfl,?_⟩ | refine⟨.inl rfl,?_⟩))
end Go.Proofs.YthhdhagenmcbeaaGreat
