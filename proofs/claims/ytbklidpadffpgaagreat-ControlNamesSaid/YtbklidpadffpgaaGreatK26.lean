/- The region of head.Same, by its final frame, in eight ways: which of the parts is the first to differ. Condition: none. -/
import Derived.Test.YtbklidpadffpgaaGreatK08
import Derived.Test.YtbklidpadffpgaaGreatK17
import Derived.Test.YtbklidpadffpgaaGreatK19
set_option maxRecDepth 100000
set_option maxHeartbeats 8000000
namespace Go.Proofs.YtbklidpadffpgaaGreat
open Go.RowKit
section
variable{a:Act}{w:World}{d:Option Tmp}{p:String}{af:Array Edge}{gd:Option (Nat×Bool)}{x y z:Tmp}{r:TypeId}
theorem qtsc{g:Nat}{C:Array Value}(hx:a.eval (.tmp x) = .pointer (some ⟨g,0,none⟩))(hs:C.size=25)(hg:w.heap[g]? = some (.cells C 35 (0,0))) :
 (execOp a.eval {dst:=d,op := .load 35 (.tmp x),type:=35,pos:=p,after:=af,guard:=gd}).run Tryz.prog w = .ok (.value (.agg C)) w:=by
 unfold execOp
 simp only[hx,Instr.loadAt,Instr.sureAddr,Sem.run_bind,Sem.run_pure,Result.andThen_ok,run_loadVar_row w g 35 35 C (0,0) _ hg Tryz.underlying35 rfl (by rw[hs];exact q5nr)]
theorem qb5w{g:Nat}(hx:a.eval (.tmp x) = .pointer (some ⟨g,0,none⟩)) :
 (execOp a.eval {dst:=d,op := .fieldAddr 35 (.tmp x) 18,type:=r,pos:=p,after:=af,guard:=gd}).run Tryz.prog w = .ok (.value (.pointer (some ⟨g,22,none⟩))) w:=by
 generalize a.eval=f at *
 go_simp
theorem qdvg{g:Nat}(hx:a.eval (.tmp x) = .pointer (some ⟨g,0,none⟩)) :
 (execOp a.eval {dst:=d,op := .fieldAddr 35 (.tmp x) 19,type:=r,pos:=p,after:=af,guard:=gd}).run Tryz.prog w = .ok (.value (.pointer (some ⟨g,23,none⟩))) w:=by
 generalize a.eval=f at *
 go_simp
theorem qmir{g:Nat}(hx:a.eval (.tmp x) = .pointer (some ⟨g,0,none⟩)) :
 (execOp a.eval {dst:=d,op := .fieldAddr 35 (.tmp x) 20,type:=r,pos:=p,after:=af,guard:=gd}).run Tryz.prog w = .ok (.value (.pointer (some ⟨g,24,none⟩))) w:=by
 generalize a.eval=f at *
 go_simp
theorem qa2v{g:Nat}(hx:a.eval (.tmp x) = .pointer (some ⟨g,0,none⟩)) :
 (execOp a.eval {dst:=d,op := .fieldAddr 35 (.tmp x) 15,type:=r,pos:=p,after:=af,guard:=gd}).run Tryz.prog w = .ok (.value (.pointer (some ⟨g,15,none⟩))) w:=by
 generalize a.eval=f at *
 go_simp
theorem q4lz{g:Nat}(hx:a.eval (.tmp x) = .pointer (some ⟨g,15,none⟩)) :
 (execOp a.eval {dst:=d,op := .fieldAddr 31 (.tmp x) 4,type:=r,pos:=p,after:=af,guard:=gd}).run Tryz.prog w = .ok (.value (.pointer (some ⟨g,19,none⟩))) w:=by
 generalize a.eval=f at *
 go_simp
theorem qajx{g j n c:Nat}{A:Option Addr}(hx:a.eval (.tmp x) = .pointer (some ⟨g,j,none⟩))(hc:w.cell? ⟨g,j,none⟩=some (.slice A n c)) :
 (execOp a.eval {dst:=d,op := .load 32 (.tmp x),type:=32,pos:=p,after:=af,guard:=gd}).run Tryz.prog w = .ok (.value (.slice A n c)) w:=by
 generalize a.eval=f at *
 go_simp
theorem q352{g j n c:Nat}{A:Option Addr}(hx:a.eval (.tmp x) = .pointer (some ⟨g,j,none⟩))(hc:w.cell? ⟨g,j,none⟩=some (.slice A n c)) :
 (execOp a.eval {dst:=d,op := .load 33 (.tmp x),type:=33,pos:=p,after:=af,guard:=gd}).run Tryz.prog w = .ok (.value (.slice A n c)) w:=by
 generalize a.eval=f at *
 go_simp
theorem qms8{g j n c:Nat}{A:Option Addr}(hx:a.eval (.tmp x) = .pointer (some ⟨g,j,none⟩))(hc:w.cell? ⟨g,j,none⟩=some (.slice A n c)) :
 (execOp a.eval {dst:=d,op := .load 26 (.tmp x),type:=26,pos:=p,after:=af,guard:=gd}).run Tryz.prog w = .ok (.value (.slice A n c)) w:=by
 generalize a.eval=f at *
 go_simp
theorem q3lh{p' q':Pk}{b:Bool}(hx:a.eval (.tmp x) = .agg (q3zb p'))(hy:a.eval (.tmp y) = .agg (q3zb q'))(hb:decide (p'.nums=q'.nums)=b) :
 (execOp a.eval {dst:=d,op := .binOp .eql 117 (.tmp x) (.tmp y) 117,type:=r,pos:=p,after:=af,guard:=gd}).run Tryz.prog w = .ok (.value (.bool b)) w:=by
 subst hb
 unfold execOp
 simp only[hx,hy,Sem.run_bind,run_eqGuard_agg w .eql 117 (.tmp x) (.tmp y) _ _ (show Tryz.prog.eqGuardType Tryz.prog.depth 117=false by kernel_rfl),Result.andThen_ok,qh1o p' q' w,Sem.run_pure]
theorem qtwp{p' q':Pk}{b:Bool}(hx:a.eval (.tmp x) = .agg (qjjk p'))(hy:a.eval (.tmp y) = .agg (qjjk q'))(hb:decide (p'.marks=q'.marks)=b) :
 (execOp a.eval {dst:=d,op := .binOp .eql 119 (.tmp x) (.tmp y) 119,type:=r,pos:=p,after:=af,guard:=gd}).run Tryz.prog w = .ok (.value (.bool b)) w:=by
 subst hb
 unfold execOp
 simp only[hx,hy,Sem.run_bind,run_eqGuard_agg w .eql 119 (.tmp x) (.tmp y) _ _ (show Tryz.prog.eqGuardType Tryz.prog.depth 119=false by kernel_rfl),Result.andThen_ok,quaf p' q' w,Sem.run_pure]
theorem qpii{p' q':Pk}{b:Bool}(hx:a.eval (.tmp x) = .agg (q5cx p'))(hy:a.eval (.tmp y) = .agg (q5cx q'))(hb:decide (p'.texts=q'.texts)=b) :
 (execOp a.eval {dst:=d,op := .binOp .eql 121 (.tmp x) (.tmp y) 121,type:=r,pos:=p,after:=af,guard:=gd}).run Tryz.prog w = .ok (.value (.bool b)) w:=by
 subst hb
 unfold execOp
 simp only[hx,hy,Sem.run_bind,run_eqGuard_agg w .eql 121 (.tmp x) (.tmp y) _ _ (show Tryz.prog.eqGuardType Tryz.prog.depth 121=false by kernel_rfl),Result.andThen_ok,q6p1 p' q' w,Sem.run_pure]
end
theorem qw00{Q:Exit→Act→World→Prop}{S:World→Prop}{W:World}{p q:Pk}{a b:Ad}{C E:Array Value}{B:Nat}{x5 x6 x7 x8 x9 x10 x11 x12 x13 x14 x15 x16 x17 x18 x19 x20 x21 x22 x23 x24 x25 x26 x27 x28 x29 x30 x31 x32 x33 x34 x35 x36 x37 x38 x39 x40 x41 x42 x43 x44 x45 x46 x47 x48 x49 x50 x51 x52 x53:Value}
 (hS:S W.drew) (hC:C.size=25) (hE:E.size=25) (hS1:∀w,S w→w.heap[B]? = some (.cells C 35 (0,0))) (hS2:∀w,S w→w.heap[B+1]? = some (.cells E 35 (0,0)))
 (N0p:∀w,S w→Calls Tryz.prog 81 #[.agg C] w fun e w'=>e = .returned (.agg (q3zb p))∧S w')
 (N0q:∀w,S w→Calls Tryz.prog 81 #[.agg E] w fun e w'=>e = .returned (.agg (q3zb q))∧S w')
 (N1p:∀w,S w→Calls Tryz.prog 82 #[.agg C] w fun e w'=>e = .returned (.agg (qjjk p))∧S w')
 (N1q:∀w,S w→Calls Tryz.prog 82 #[.agg E] w fun e w'=>e = .returned (.agg (qjjk q))∧S w')
 (N2p:∀w,S w→Calls Tryz.prog 83 #[.agg C] w fun e w'=>e = .returned (.agg (q5cx p))∧S w')
 (N2q:∀w,S w→Calls Tryz.prog 83 #[.agg E] w fun e w'=>e = .returned (.agg (q5cx q))∧S w')
 (hp22:∀w,S w→w.cell? ⟨B,22,none⟩=some (.slice a.cs p.codes.length a.cc))
 (hq22:∀w,S w→w.cell? ⟨B+1,22,none⟩=some (.slice b.cs q.codes.length b.cc))
 (F3:∀w,S w→Calls Tryz.prog 84 #[(.slice a.cs p.codes.length a.cc),(.slice b.cs q.codes.length b.cc),.func (.func 85) #[] #[]] w fun e w'=>e = .returned (.bool (decide (p.codes=q.codes)))∧S w')
 (hp23:∀w,S w→w.cell? ⟨B,23,none⟩=some (.slice a.fs p.filters.length a.fc))
 (hq23:∀w,S w→w.cell? ⟨B+1,23,none⟩=some (.slice b.fs q.filters.length b.fc))
 (F4:∀w,S w→Calls Tryz.prog 86 #[(.slice a.fs p.filters.length a.fc),(.slice b.fs q.filters.length b.fc),.func (.func 87) #[] #[]] w fun e w'=>e = .returned (.bool (decide (p.filters=q.filters)))∧S w')
 (hp24:∀w,S w→w.cell? ⟨B,24,none⟩=some (.slice a.ps p.props.length a.pc))
 (hq24:∀w,S w→w.cell? ⟨B+1,24,none⟩=some (.slice b.ps q.props.length b.pc))
 (F5:∀w,S w→Calls Tryz.prog 88 #[(.slice a.ps p.props.length a.pc),(.slice b.ps q.props.length b.pc),.func (.func 89) #[] #[]] w fun e w'=>e = .returned (.bool (decide (p.props=q.props)))∧S w')
 (hp19:∀w,S w→w.cell? ⟨B,19,none⟩=some (.slice a.w p.wProps.length a.wc))
 (hq19:∀w,S w→w.cell? ⟨B+1,19,none⟩=some (.slice b.w q.wProps.length b.wc))
 (F6:∀w,S w→Calls Tryz.prog 88 #[(.slice a.w p.wProps.length a.wc),(.slice b.w q.wProps.length b.wc),.func (.func 89) #[] #[]] w fun e w'=>e = .returned (.bool (decide (p.wProps=q.wProps)))∧S w')
 (fin:∀(r:Bool) (w:World),(decide (p.nums=q.nums)&&decide (p.marks=q.marks)&&decide (p.texts=q.texts)&&decide (p.codes=q.codes)&&decide (p.filters=q.filters)&&decide (p.props=q.props)&&decide (p.wProps=q.wProps))=r→S w→∀x5 x6 x7 x8 x9 x10 x11 x12 x13 x14 x15 x16 x17 x18 x19 x20 x21 x22 x23 x24 x25 x26 x27 x28 x29 x30 x31 x32 x33 x34 x35 x36 x37 x38 x39 x40 x41 x42 x43 x44 x45 x46 x47 x48 x49 x50 x51 x52 x53,Q .normal ⟨#[(.agg C),(.agg E),(.pointer (some ⟨B,0,none⟩)),(.pointer (some ⟨B+1,0,none⟩)),(.bool r),x5,x6,x7,x8,x9,x10,x11,x12,x13,x14,x15,x16,x17,x18,x19,x20,x21,x22,x23,x24,x25,x26,x27,x28,x29,x30,x31,x32,x33,x34,x35,x36,x37,x38,x39,x40,x41,x42,x43,x44,x45,x46,x47,x48,x49,x50,x51,x52,x53],[]⟩ w) :
 (Code.region 1 (qfhu.opsAt 1 Tryz.f51.body) true).wp Tryz.prog Q ⟨#[(.agg C),(.agg E),(.pointer (some ⟨B,0,none⟩)),(.pointer (some ⟨B+1,0,none⟩)),(.bool false),x5,x6,x7,x8,x9,x10,x11,x12,x13,x14,x15,x16,x17,x18,x19,x20,x21,x22,x23,x24,x25,x26,x27,x28,x29,x30,x31,x32,x33,x34,x35,x36,x37,x38,x39,x40,x41,x42,x43,x44,x45,x46,x47,x48,x49,x50,x51,x52,x53],[]⟩ W:=by
 obtain⟨d0,h0⟩:∃d,decide (p.nums=q.nums)=d:=⟨_,rfl⟩
 obtain⟨d1,h1⟩:∃d,decide (p.marks=q.marks)=d:=⟨_,rfl⟩
 obtain⟨d2,h2⟩:∃d,decide (p.texts=q.texts)=d:=⟨_,rfl⟩
 obtain⟨d3,h3⟩:∃d,decide (p.codes=q.codes)=d:=⟨_,rfl⟩
 obtain⟨d4,h4⟩:∃d,decide (p.filters=q.filters)=d:=⟨_,rfl⟩
 obtain⟨d5,h5⟩:∃d,decide (p.props=q.props)=d:=⟨_,rfl⟩
 obtain⟨d6,h6⟩:∃d,decide (p.wProps=q.wProps)=d:=⟨_,rfl⟩
 rw[h0,h1,h2,h3,h4,h5,h6] at fin
 rw[h3] at F3
 rw[h4] at F4
 rw[h5] at F5
 rw[h6] at F6
 cases d0
 case' false=>refine qfhu.wp_in (ds:=[5,6,7,8,9,10,11,12,13,14,15,16,17,18,19,20,21,22,23,24,25,26,27,28,29,30,31,32,33,34,35,36,37,38,39,40,41,42,43,44,45,46,47,48,49,50,51,52,53,4]) (B:=[(.agg C),(.agg E),(.pointer (some ⟨B,0,none⟩)),(.pointer (some ⟨B+1,0,none⟩)),(.bool false),(.agg C),(.agg (q3zb p)),(.agg E),(.agg (q3zb q)),(.bool false),(.bool false),undef,undef,undef,undef,undef,(.bool false),(.bool false),undef,undef,undef,undef,undef,(.bool false),(.bool false),undef,undef,undef,undef,undef,(.bool false),(.bool false),undef,undef,undef,undef,undef,(.bool false),(.bool false),undef,undef,undef,undef,undef,(.bool false),(.bool false),undef,undef,undef,undef,undef,undef,undef,(.bool false)]) (D:=[]) (by kernel_rfl) (by kernel_rfl) (by kernel_rfl) ?_ hS ?_ (fun w h=>by apply fin<;>first | rfl | exact h)
 case' true=>
  cases d1
  case' false=>refine qfhu.wp_in (ds:=[5,6,7,8,9,10,11,12,13,14,15,16,17,18,19,20,21,22,23,24,25,26,27,28,29,30,31,32,33,34,35,36,37,38,39,40,41,42,43,44,45,46,47,48,49,50,51,52,53,4]) (B:=[(.agg C),(.agg E),(.pointer (some ⟨B,0,none⟩)),(.pointer (some ⟨B+1,0,none⟩)),(.bool false),(.agg C),(.agg (q3zb p)),(.agg E),(.agg (q3zb q)),(.bool true),(.bool true),(.agg C),(.agg (qjjk p)),(.agg E),(.agg (qjjk q)),(.bool false),(.bool false),(.bool false),undef,undef,undef,undef,undef,(.bool false),(.bool false),undef,undef,undef,undef,undef,(.bool false),(.bool false),undef,undef,undef,undef,undef,(.bool false),(.bool false),undef,undef,undef,undef,undef,(.bool false),(.bool false),undef,undef,undef,undef,undef,undef,undef,(.bool false)]) (D:=[]) (by kernel_rfl) (by kernel_rfl) (by kernel_rfl) ?_ hS ?_ (fun w h=>by apply fin<;>first | rfl | exact h)
  case' true=>
   cases d2
   case' false=>refine qfhu.wp_in (ds:=[5,6,7,8,9,10,11,12,13,14,15,16,17,18,19,20,21,22,23,24,25,26,27,28,29,30,31,32,33,34,35,36,37,38,39,40,41,42,43,44,45,46,47,48,49,50,51,52,53,4]) (B:=[(.agg C),(.agg E),(.pointer (some ⟨B,0,none⟩)),(.pointer (some ⟨B+1,0,none⟩)),(.bool false),(.agg C),(.agg (q3zb p)),(.agg E),(.agg (q3zb q)),(.bool true),(.bool true),(.agg C),(.agg (qjjk p)),(.agg E),(.agg (qjjk q)),(.bool true),(.bool true),(.bool true),(.agg C),(.agg (q5cx p)),(.agg E),(.agg (q5cx q)),(.bool false),(.bool false),(.bool false),undef,undef,undef,undef,undef,(.bool false),(.bool false),undef,undef,undef,undef,undef,(.bool false),(.bool false),undef,undef,undef,undef,undef,(.bool false),(.bool false),undef,undef,undef,undef,undef,undef,undef,(.bool false)]) (D:=[]) (by kernel_rfl) (by kernel_rfl) (by kernel_rfl) ?_ hS ?_ (fun w h=>by apply fin<;>first | rfl | exact h)
   case' true=>
    cases d3
    case' false=>refine qfhu.wp_in (ds:=[5,6,7,8,9,10,11,12,13,14,15,16,17,18,19,20,21,22,23,24,25,26,27,28,29,30,31,32,33,34,35,36,37,38,39,40,41,42,43,44,45,46,47,48,49,50,51,52,53,4]) (B:=[(.agg C),(.agg E),(.pointer (some ⟨B,0,none⟩)),(.pointer (some ⟨B+1,0,none⟩)),(.bool false),(.agg C),(.agg (q3zb p)),(.agg E),(.agg (q3zb q)),(.bool true),(.bool true),(.agg C),(.agg (qjjk p)),(.agg E),(.agg (qjjk q)),(.bool true),(.bool true),(.bool true),(.agg C),(.agg (q5cx p)),(.agg E),(.agg (q5cx q)),(.bool true),(.bool true),(.bool true),(.pointer (some ⟨B,22,none⟩)),(.slice a.cs p.codes.length a.cc),(.pointer (some ⟨B+1,22,none⟩)),(.slice b.cs q.codes.length b.cc),(.bool false),(.bool false),(.bool false),undef,undef,undef,undef,undef,(.bool false),(.bool false),undef,undef,undef,undef,undef,(.bool false),(.bool false),undef,undef,undef,undef,undef,undef,undef,(.bool false)]) (D:=[]) (by kernel_rfl) (by kernel_rfl) (by kernel_rfl) ?_ hS ?_ (fun w h=>by apply fin<;>first | rfl | exact h)
    case' true=>
     cases d4
     case' false=>refine qfhu.wp_in (ds:=[5,6,7,8,9,10,11,12,13,14,15,16,17,18,19,20,21,22,23,24,25,26,27,28,29,30,31,32,33,34,35,36,37,38,39,40,41,42,43,44,45,46,47,48,49,50,51,52,53,4]) (B:=[(.agg C),(.agg E),(.pointer (some ⟨B,0,none⟩)),(.pointer (some ⟨B+1,0,none⟩)),(.bool false),(.agg C),(.agg (q3zb p)),(.agg E),(.agg (q3zb q)),(.bool true),(.bool true),(.agg C),(.agg (qjjk p)),(.agg E),(.agg (qjjk q)),(.bool true),(.bool true),(.bool true),(.agg C),(.agg (q5cx p)),(.agg E),(.agg (q5cx q)),(.bool true),(.bool true),(.bool true),(.pointer (some ⟨B,22,none⟩)),(.slice a.cs p.codes.length a.cc),(.pointer (some ⟨B+1,22,none⟩)),(.slice b.cs q.codes.length b.cc),(.bool true),(.bool true),(.bool true),(.pointer (some ⟨B,23,none⟩)),(.slice a.fs p.filters.length a.fc),(.pointer (some ⟨B+1,23,none⟩)),(.slice b.fs q.filters.length b.fc),(.bool false),(.bool false),(.bool false),undef,undef,undef,undef,undef,(.bool false),(.bool false),undef,undef,undef,undef,undef,undef,undef,(.bool false)]) (D:=[]) (by kernel_rfl) (by kernel_rfl) (by kernel_rfl) ?_ hS ?_ (fun w h=>by apply fin<;>first | rfl | exact h)
     case' true=>
      cases d5
      case' false=>refine qfhu.wp_in (ds:=[5,6,7,8,9,10,11,12,13,14,15,16,17,18,19,20,21,22,23,24,25,26,27,28,29,30,31,32,33,34,35,36,37,38,39,40,41,42,43,44,45,46,47,48,49,50,51,52,53,4]) (B:=[(.agg C),(.agg E),(.pointer (some ⟨B,0,none⟩)),(.pointer (some ⟨B+1,0,none⟩)),(.bool false),(.agg C),(.agg (q3zb p)),(.agg E),(.agg (q3zb q)),(.bool true),(.bool true),(.agg C),(.agg (qjjk p)),(.agg E),(.agg (qjjk q)),(.bool true),(.bool true),(.bool true),(.agg C),(.agg (q5cx p)),(.agg E),(.agg (q5cx q)),(.bool true),(.bool true),(.bool true),(.pointer (some ⟨B,22,none⟩)),(.slice a.cs p.codes.length a.cc),(.pointer (some ⟨B+1,22,none⟩)),(.slice b.cs q.codes.length b.cc),(.bool true),(.bool true),(.bool true),(.pointer (some ⟨B,23,none⟩)),(.slice a.fs p.filters.length a.fc),(.pointer (some ⟨B+1,23,none⟩)),(.slice b.fs q.filters.length b.fc),(.bool true),(.bool true),(.bool true),(.pointer (some ⟨B,24,none⟩)),(.slice a.ps p.props.length a.pc),(.pointer (some ⟨B+1,24,none⟩)),(.slice b.ps q.props.length b.pc),(.bool false),(.bool false),(.bool false),undef,undef,undef,undef,undef,undef,undef,(.bool false)]) (D:=[]) (by kernel_rfl) (by kernel_rfl) (by kernel_rfl) ?_ hS ?_ (fun w h=>by apply fin<;>first | rfl | exact h)
      case' true=>
       cases d6
       case' false=>refine qfhu.wp_in (ds:=[5,6,7,8,9,10,11,12,13,14,15,16,17,18,19,20,21,22,23,24,25,26,27,28,29,30,31,32,33,34,35,36,37,38,39,40,41,42,43,44,45,46,47,48,49,50,51,52,53,4]) (B:=[(.agg C),(.agg E),(.pointer (some ⟨B,0,none⟩)),(.pointer (some ⟨B+1,0,none⟩)),(.bool false),(.agg C),(.agg (q3zb p)),(.agg E),(.agg (q3zb q)),(.bool true),(.bool true),(.agg C),(.agg (qjjk p)),(.agg E),(.agg (qjjk q)),(.bool true),(.bool true),(.bool true),(.agg C),(.agg (q5cx p)),(.agg E),(.agg (q5cx q)),(.bool true),(.bool true),(.bool true),(.pointer (some ⟨B,22,none⟩)),(.slice a.cs p.codes.length a.cc),(.pointer (some ⟨B+1,22,none⟩)),(.slice b.cs q.codes.length b.cc),(.bool true),(.bool true),(.bool true),(.pointer (some ⟨B,23,none⟩)),(.slice a.fs p.filters.length a.fc),(.pointer (some ⟨B+1,23,none⟩)),(.slice b.fs q.filters.length b.fc),(.bool true),(.bool true),(.bool true),(.pointer (some ⟨B,24,none⟩)),(.slice a.ps p.props.length a.pc),(.pointer (some ⟨B+1,24,none⟩)),(.slice b.ps q.props.length b.pc),(.bool true),(.bool true),(.bool true),(.pointer (some ⟨B,15,none⟩)),(.pointer (some ⟨B,19,none⟩)),(.slice a.w p.wProps.length a.wc),(.pointer (some ⟨B+1,15,none⟩)),(.pointer (some ⟨B+1,19,none⟩)),(.slice b.w q.wProps.length b.wc),(.bool false),(.bool false)]) (D:=[]) (by kernel_rfl) (by kernel_rfl) (by kernel_rfl) ?_ hS ?_ (fun w h=>by apply fin<;>first | rfl | exact h)
       case' true=>
        refine qfhu.wp_in (ds:=[5,6,7,8,9,10,11,12,13,14,15,16,17,18,19,20,21,22,23,24,25,26,27,28,29,30,31,32,33,34,35,36,37,38,39,40,41,42,43,44,45,46,47,48,49,50,51,52,53,4]) (B:=[(.agg C),(.agg E),(.pointer (some ⟨B,0,none⟩)),(.pointer (some ⟨B+1,0,none⟩)),(.bool true),(.agg C),(.agg (q3zb p)),(.agg E),(.agg (q3zb q)),(.bool true),(.bool true),(.agg C),(.agg (qjjk p)),(.agg E),(.agg (qjjk q)),(.bool true),(.bool true),(.bool true),(.agg C),(.agg (q5cx p)),(.agg E),(.agg (q5cx q)),(.bool true),(.bool true),(.bool true),(.pointer (some ⟨B,22,none⟩)),(.slice a.cs p.codes.length a.cc),(.pointer (some ⟨B+1,22,none⟩)),(.slice b.cs q.codes.length b.cc),(.bool true),(.bool true),(.bool true),(.pointer (some ⟨B,23,none⟩)),(.slice a.fs p.filters.length a.fc),(.pointer (some ⟨B+1,23,none⟩)),(.slice b.fs q.filters.length b.fc),(.bool true),(.bool true),(.bool true),(.pointer (some ⟨B,24,none⟩)),(.slice a.ps p.props.length a.pc),(.pointer (some ⟨B+1,24,none⟩)),(.slice b.ps q.props.length b.pc),(.bool true),(.bool true),(.bool true),(.pointer (some ⟨B,15,none⟩)),(.pointer (some ⟨B,19,none⟩)),(.slice a.w p.wProps.length a.wc),(.pointer (some ⟨B+1,15,none⟩)),(.pointer (some ⟨B+1,19,none⟩)),(.slice b.w q.wProps.length b.wc),(.bool true),(.bool true)]) (D:=[]) (by kernel_rfl) (by kernel_rfl) (by kernel_rfl) ?_ hS ?_ (fun w h=>by apply fin<;>first | rfl | exact h)
 all_goals first
  | (
   first | refine qfhu.sk rfl rfl rfl rfl ?_ | refine qfhu.pu rfl rfl rfl rfl (fun w hS=>qtsc rfl hC (hS1 w hS)) ?_
   first | refine qfhu.sk rfl rfl rfl rfl ?_ | refine qfhu.ca rfl rfl rfl rfl (fun w=>qpjl.enter1 Tryz.func81 rfl rfl) N0p ?_
   first | refine qfhu.sk rfl rfl rfl rfl ?_ | refine qfhu.pu rfl rfl rfl rfl (fun w hS=>qtsc rfl hE (hS2 w hS)) ?_
   first | refine qfhu.sk rfl rfl rfl rfl ?_ | refine qfhu.ca rfl rfl rfl rfl (fun w=>qpjl.enter1 Tryz.func81 rfl rfl) N0q ?_
   first | refine qfhu.sk rfl rfl rfl rfl ?_ | refine qfhu.pu rfl rfl rfl rfl (fun w hS=>q3lh rfl rfl h0) ?_
   first | refine qfhu.sk rfl rfl rfl rfl ?_ | refine qfhu.pu rfl rfl rfl rfl (fun w hS=>rfl) ?_
   first | refine qfhu.sk rfl rfl rfl rfl ?_ | refine qfhu.pu rfl rfl rfl rfl (fun w hS=>qtsc rfl hC (hS1 w hS)) ?_
   first | refine qfhu.sk rfl rfl rfl rfl ?_ | refine qfhu.ca rfl rfl rfl rfl (fun w=>qpjl.enter1 Tryz.func82 rfl rfl) N1p ?_
   first | refine qfhu.sk rfl rfl rfl rfl ?_ | refine qfhu.pu rfl rfl rfl rfl (fun w hS=>qtsc rfl hE (hS2 w hS)) ?_
   first | refine qfhu.sk rfl rfl rfl rfl ?_ | refine qfhu.ca rfl rfl rfl rfl (fun w=>qpjl.enter1 Tryz.func82 rfl rfl) N1q ?_
   first | refine qfhu.sk rfl rfl rfl rfl ?_ | refine qfhu.pu rfl rfl rfl rfl (fun w hS=>qtwp rfl rfl h1) ?_
   first | refine qfhu.sk rfl rfl rfl rfl ?_ | refine qfhu.pu rfl rfl rfl rfl (fun w hS=>rfl) ?_
   first | refine qfhu.sk rfl rfl rfl rfl ?_ | refine qfhu.pu rfl rfl rfl rfl (fun w hS=>rfl) ?_
   first | refine qfhu.sk rfl rfl rfl rfl ?_ | refine qfhu.pu rfl rfl rfl rfl (fun w hS=>qtsc rfl hC (hS1 w hS)) ?_
   first | refine qfhu.sk rfl rfl rfl rfl ?_ | refine qfhu.ca rfl rfl rfl rfl (fun w=>qpjl.enter1 Tryz.func83 rfl rfl) N2p ?_
   first | refine qfhu.sk rfl rfl rfl rfl ?_ | refine qfhu.pu rfl rfl rfl rfl (fun w hS=>qtsc rfl hE (hS2 w hS)) ?_
   first | refine qfhu.sk rfl rfl rfl rfl ?_ | refine qfhu.ca rfl rfl rfl rfl (fun w=>qpjl.enter1 Tryz.func83 rfl rfl) N2q ?_
   first | refine qfhu.sk rfl rfl rfl rfl ?_ | refine qfhu.pu rfl rfl rfl rfl (fun w hS=>qpii rfl rfl h2) ?_
   first | refine qfhu.sk rfl rfl rfl rfl ?_ | refine qfhu.pu rfl rfl rfl rfl (fun w hS=>rfl) ?_
   first | refine qfhu.sk rfl rfl rfl rfl ?_ | refine qfhu.pu rfl rfl rfl rfl (fun w hS=>rfl) ?_
   first | refine qfhu.sk rfl rfl rfl rfl ?_ | refine qfhu.pu rfl rfl rfl rfl (fun w hS=>qb5w rfl) ?_
   first | refine qfhu.sk rfl rfl rfl rfl ?_ | refine qfhu.pu rfl rfl rfl rfl (fun w hS=>qajx rfl (hp22 w hS)) ?_
   first | refine qfhu.sk rfl rfl rfl rfl ?_ | refine qfhu.pu rfl rfl rfl rfl (fun w hS=>qb5w rfl) ?_
   first | refine qfhu.sk rfl rfl rfl rfl ?_ | refine qfhu.pu rfl rfl rfl rfl (fun w hS=>qajx rfl (hq22 w hS)) ?_
   first | refine qfhu.sk rfl rfl rfl rfl ?_ | refine qfhu.ca rfl rfl rfl rfl (fun w=>qpjl.enter3 Tryz.func84 rfl rfl rfl rfl) F3 ?_
   first | refine qfhu.sk rfl rfl rfl rfl ?_ | refine qfhu.pu rfl rfl rfl rfl (fun w hS=>rfl) ?_
   first | refine qfhu.sk rfl rfl rfl rfl ?_ | refine qfhu.pu rfl rfl rfl rfl (fun w hS=>rfl) ?_
   first | refine qfhu.sk rfl rfl rfl rfl ?_ | refine qfhu.pu rfl rfl rfl rfl (fun w hS=>qdvg rfl) ?_
   first | refine qfhu.sk rfl rfl rfl rfl ?_ | refine qfhu.pu rfl rfl rfl rfl (fun w hS=>q352 rfl (hp23 w hS)) ?_
   first | refine qfhu.sk rfl rfl rfl rfl ?_ | refine qfhu.pu rfl rfl rfl rfl (fun w hS=>qdvg rfl) ?_
   first | refine qfhu.sk rfl rfl rfl rfl ?_ | refine qfhu.pu rfl rfl rfl rfl (fun w hS=>q352 rfl (hq23 w hS)) ?_
   first | refine qfhu.sk rfl rfl rfl rfl ?_ | refine qfhu.ca rfl rfl rfl rfl (fun w=>qpjl.enter3 Tryz.func86 rfl rfl rfl rfl) F4 ?_
   first | refine qfhu.sk rfl rfl rfl rfl ?_ | refine qfhu.pu rfl rfl rfl rfl (fun w hS=>rfl) ?_
   first | refine qfhu.sk rfl rfl rfl rfl ?_ | refine qfhu.pu rfl rfl rfl rfl (fun w hS=>rfl) ?_
   first | refine qfhu.sk rfl rfl rfl rfl ?_ | refine qfhu.pu rfl rfl rfl rfl (fun w hS=>qmir rfl) ?_
   first | refine qfhu.sk rfl rfl rfl rfl ?_ | refine qfhu.pu rfl rfl rfl rfl (fun w hS=>qms8 rfl (hp24 w hS)) ?_
   first | refine qfhu.sk rfl rfl rfl rfl ?_ | refine qfhu.pu rfl rfl rfl rfl (fun w hS=>qmir rfl) ?_
   first | refine qfhu.sk rfl rfl rfl rfl ?_ | refine qfhu.pu rfl rfl rfl rfl (fun w hS=>qms8 rfl (hq24 w hS)) ?_
   first | refine qfhu.sk rfl rfl rfl rfl ?_ | refine qfhu.ca rfl rfl rfl rfl (fun w=>qpjl.enter3 Tryz.func88 rfl rfl rfl rfl) F5 ?_
   first | refine qfhu.sk rfl rfl rfl rfl ?_ | refine qfhu.pu rfl rfl rfl rfl (fun w hS=>rfl) ?_
   first | refine qfhu.sk rfl rfl rfl rfl ?_ | refine qfhu.pu rfl rfl rfl rfl (fun w hS=>rfl) ?_
   first | refine qfhu.sk rfl rfl rfl rfl ?_ | refine qfhu.pu rfl rfl rfl rfl (fun w hS=>qa2v rfl) ?_
   first | refine qfhu.sk rfl rfl rfl rfl ?_ | refine qfhu.pu rfl rfl rfl rfl (fun w hS=>q4lz rfl) ?_
   first | refine qfhu.sk rfl rfl rfl rfl ?_ | refine qfhu.pu rfl rfl rfl rfl (fun w hS=>qms8 rfl (hp19 w hS)) ?_
   first | refine qfhu.sk rfl rfl rfl rfl ?_ | refine qfhu.pu rfl rfl rfl rfl (fun w hS=>qa2v rfl) ?_
   first | refine qfhu.sk rfl rfl rfl rfl ?_ | refine qfhu.pu rfl rfl rfl rfl (fun w hS=>q4lz rfl) ?_
   first | refine qfhu.sk rfl rfl rfl rfl ?_ | refine qfhu.pu rfl rfl rfl rfl (fun w hS=>qms8 rfl (hq19 w hS)) ?_
   first | refine qfhu.sk rfl rfl rfl rfl ?_ | refine qfhu.ca rfl rfl rfl rfl (fun w=>qpjl.enter3 Tryz.func88 rfl rfl rfl rfl) F6 ?_
   first | refine qfhu.sk rfl rfl rfl rfl ?_ | refine qfhu.pu rfl rfl rfl rfl (fun w hS=>rfl) ?_
   first | refine qfhu.sk rfl rfl rfl rfl ?_ | refine qfhu.pu rfl rfl rfl rfl (fun w hS=>rfl) ?_
   exact qfhu.All.fin rfl)
  | exact(by repeat (first | exact trivial | refine⟨.inr rfl,?_⟩ | refine⟨.inl rfl,?_⟩))
end Go.Proofs.YtbklidpadffpgaaGreat
