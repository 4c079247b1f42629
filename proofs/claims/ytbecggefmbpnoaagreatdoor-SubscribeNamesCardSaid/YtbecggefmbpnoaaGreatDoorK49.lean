/- More of a region's operations upon filters: rows, comparisons, bytes of strings. No condition. -/
import Derived.Lib.IndexBytes
import Derived.Test.YtbecggefmbpnoaaGreatDoorK18
import Derived.Test.YtbecggefmbpnoaaGreatDoorK37
import Derived.Test.YtbecggefmbpnoaaGreatDoorK12
import Derived.Test.YtbecggefmbpnoaaGreatDoorK04
set_option maxRecDepth 100000
set_option maxHeartbeats 8000000
namespace Go.Proofs.YtbecggefmbpnoaaGreatDoor
open Go.RowKit
section
variable{a:Act}{w:World}{d:Option Tmp}{p:String}{af:Array Edge}{gd:Option (Nat×Bool)}{x y z:Tmp}{r:TypeId}
theorem qr7j{b c:Bool}(hx:a.eval (.tmp x) = .bool b)(hc:(!b)=c) :
 (execOp a.eval {dst:=d,op := .unOp .not 4 (.tmp x),type:=r,pos:=p,after:=af,guard:=gd}).run Tryz.prog w = .ok (.value (.bool c)) w:=by
 subst hc
 generalize a.eval=f at *
 go_simp
theorem rf_at{g i:Nat}{f:Fi}(hx:a.eval (.tmp x) = .pointer (some ⟨g,i,none⟩))(h0:w.cell? ⟨g,i,none⟩=some (.string (bs f.topic)))(h1:w.cell? ⟨g,i+1,none⟩=some (.int .i64 f.qos))(h2:w.cell? ⟨g,i+2,none⟩=some (.bool f.noLocal))(h3:w.cell? ⟨g,i+3,none⟩=some (.bool f.asPub))(h4:w.cell? ⟨g,i+4,none⟩=some (.int .i64 f.handling)) :
 (execOp a.eval {dst:=d,op := .load 32 (.tmp x),type:=32,pos:=p,after:=af,guard:=gd}).run Tryz.prog w = .ok (.value (.agg (fiC f))) w:=by
 unfold fiC
 generalize bs f.topic=q0 at *
 generalize f.qos=q1 at *
 generalize f.noLocal=q2 at *
 generalize f.asPub=q3 at *
 generalize f.handling=q4 at *
 generalize a.eval=f at *
 go_simp
end
section
variable{a:Act}{w:World}{d:Option Tmp}{p:String}{af:Array Edge}{gd:Option (Nat×Bool)}{x y z:Tmp}{r:TypeId}
theorem qn1u{n c:Int}{b:Bool}(hx:a.eval (.tmp x) = .int .i64 n)(hb:(n==c)=b) :
 (execOp a.eval {dst:=d,op := .binOp .eql 33 (.tmp x) (.const (.int .i64 c)) 33,type:=r,pos:=p,after:=af,guard:=gd}).run Tryz.prog w = .ok (.value (.bool b)) w:=by
 subst hb
 have hc:a.eval (.const (.int .i64 c)) = .int .i64 c:=rfl
 generalize a.eval=f at *
 go_simp
theorem qkut{n c:Int}{b:Bool}(hx:a.eval (.tmp x) = .int .i64 n)(hb:(n==c)=b) :
 (execOp a.eval {dst:=d,op := .binOp .eql 3 (.tmp x) (.const (.int .i64 c)) 3,type:=r,pos:=p,after:=af,guard:=gd}).run Tryz.prog w = .ok (.value (.bool b)) w:=by
 subst hb
 have hc:a.eval (.const (.int .i64 c)) = .int .i64 c:=rfl
 generalize a.eval=f at *
 go_simp
theorem qc5j{n m:Int}{b:Bool}(hx:a.eval (.tmp x) = .int .i64 n)(hy:a.eval (.tmp y) = .int .i64 m)(hb:(n==m)=b) :
 (execOp a.eval {dst:=d,op := .binOp .eql 3 (.tmp x) (.tmp y) 3,type:=r,pos:=p,after:=af,guard:=gd}).run Tryz.prog w = .ok (.value (.bool b)) w:=by
 subst hb
 generalize a.eval=f at *
 go_simp
theorem qlgr{n c m:Int}(hx:a.eval (.tmp x) = .int .i64 n)(hm:IntKind.i64.wrap (n+c)=m) :
 (execOp a.eval {dst:=d,op := .binOp .add 3 (.tmp x) (.const (.int .i64 c)) 3,type:=r,pos:=p,after:=af,guard:=gd}).run Tryz.prog w = .ok (.value (.int .i64 m)) w:=by
 subst hm
 have hc:a.eval (.const (.int .i64 c)) = .int .i64 c:=rfl
 generalize a.eval=f at *
 go_simp
end
theorem qjgh{Q:Exit→Act→World→Prop}{S:World→Prop}{W:World}{B1 B2 nc nf cc fc:Nat}{v k k1 k2 i i2 ep eq:Int}{C D:Array Value}{b:Bool}{ac af:Option Addr}{x1 x2 x3 x6 x7 x8 x9 x10 x11 x12 x13 x14 x15 x16 x17 x18 x19 x20 x21 x22 x23 x24 x25 x26 x27 x28 x29 x30 x31 x32 x33 x34 x35 x36 x37 x38 x39 x40 x41 x42 x43 x44 x45 x46 x47 x48 x49 x50 x51:Value}
 (hS:S W)
 (hC:C.size=25) (hD:D.size=25) (hk1:IntKind.i64.wrap (k+1)=k1) (KC:∀w,S w→w.heap[B1]? = some (.cells C 29 (0,0))) (LC:∀w,S w→w.heap[B2]? = some (.cells D 29 (0,0)))
 (K0:∀w,S w→w.cell? ⟨B1,0,none⟩=some (.int .i64 k)) (K4:∀w,S w→w.cell? ⟨B1,4,none⟩=some (.int .i64 i)) (K23:∀w,S w→w.cell? ⟨B1,23,none⟩=some (.slice af nf fc))
 (L0:∀w,S w→w.cell? ⟨B2,0,none⟩=some (.int .i64 k2)) (L4:∀w,S w→w.cell? ⟨B2,4,none⟩=some (.int .i64 i2)) (L22:∀w,S w→w.cell? ⟨B2,22,none⟩=some (.slice ac nc cc))
 (H0:∀w,S w→Calls Tryz.prog 44 #[.int .i64 k] w fun e w'=>e = .returned (.bool (qsfj k))∧S w')
 (H1:∀w,S w→Calls Tryz.prog 45 #[.int .i64 v,.int .i64 k2] w fun e w'=>e = .returned (.bool b)∧S w')
 (H2:∀w,S w→Calls Tryz.prog 15 #[.int .i64 v,.agg C] w fun e w'=>e = .returned (.int .i64 ep)∧S w')
 (H3:∀w,S w→Calls Tryz.prog 15 #[.int .i64 v,.agg D] w fun e w'=>e = .returned (.int .i64 eq)∧S w')
 (fin:∀(r:Bool) (w:World),((qsfj k)&&(k2==k1)&&(i2==i)&&(((nc:Int)==(nf:Int)) || b)&&(ep==0)&&(eq==0))=r→S w→∀x7 x8 x9 x10 x11 x12 x13 x14 x15 x16 x17 x18 x19 x20 x21 x22 x23 x24 x25 x26 x27 x28 x29 x30 x31 x32 x33 x34 x35 x36 x37 x38 x39 x40 x41 x42 x43 x44 x45 x46 x47 x48 x49 x50 x51,Q .normal ⟨#[(.int .i64 v),x1,x2,x3,(.pointer (some ⟨B1,0,none⟩)),(.pointer (some ⟨B2,0,none⟩)),(.bool r),x7,x8,x9,x10,x11,x12,x13,x14,x15,x16,x17,x18,x19,x20,x21,x22,x23,x24,x25,x26,x27,x28,x29,x30,x31,x32,x33,x34,x35,x36,x37,x38,x39,x40,x41,x42,x43,x44,x45,x46,x47,x48,x49,x50,x51],[]⟩ w) :
 (Code.region 1 (qfhu.opsAt 1 Tryz.f14.body) false).wp Tryz.prog Q ⟨#[(.int .i64 v),x1,x2,x3,(.pointer (some ⟨B1,0,none⟩)),(.pointer (some ⟨B2,0,none⟩)),x6,x7,x8,x9,x10,x11,x12,x13,x14,x15,x16,x17,x18,x19,x20,x21,x22,x23,x24,x25,x26,x27,x28,x29,x30,x31,x32,x33,x34,x35,x36,x37,x38,x39,x40,x41,x42,x43,x44,x45,x46,x47,x48,x49,x50,x51],[]⟩ W:=by
 obtain⟨d0,ed0⟩:∃d,(qsfj k)=d:=⟨_,rfl⟩
 obtain⟨d1,ed1⟩:∃d,(k2==k1)=d:=⟨_,rfl⟩
 obtain⟨d2,ed2⟩:∃d,(i2==i)=d:=⟨_,rfl⟩
 obtain⟨c0,ec0⟩:∃d,((nc:Int)==(nf:Int))=d:=⟨_,rfl⟩
 obtain⟨c1,ec1⟩:∃d,(b)=d:=⟨_,rfl⟩
 obtain⟨d3,ed3⟩:∃d,(ep==0)=d:=⟨_,rfl⟩
 obtain⟨d4,ed4⟩:∃d,(eq==0)=d:=⟨_,rfl⟩
 rw[ed0,ed1,ed2,ec0,ec1,ed3,ed4] at fin
 rw[ed0] at H0
 rw[ec1] at H1
 cases d0
 case' false=>
  refine qq8x.wp_in (ds:=[7,8,9,10,11,12,13,14,15,16,17,18,19,20,21,22,23,24,25,26,27,28,29,30,31,32,33,34,35,36,37,38,39,40,41,42,43,44,45,46,47,48,49,50,51,6]) (B:=[(.int .i64 v),x1,x2,x3,(.pointer (some ⟨B1,0,none⟩)),(.pointer (some ⟨B2,0,none⟩)),(.bool false),(.pointer (some ⟨B1,0,none⟩)),(.int .i64 k),(.bool false),(.bool false),undef,undef,undef,undef,undef,undef,(.bool false),(.bool false),undef,undef,undef,undef,undef,(.bool false),(.bool false),undef,undef,undef,undef,undef,undef,undef,undef,undef,undef,undef,undef,undef,(.bool false),(.bool false),undef,undef,undef,undef,(.bool false),(.bool false),undef,undef,undef,undef,(.bool false)]) (D:=[]) (by kernel_rfl) (by kernel_rfl) ?_ hS ?_ (fun w hS=>fin false w rfl hS _ _ _ _ _ _ _ _ _ _ _ _ _ _ _ _ _ _ _ _ _ _ _ _ _ _ _ _ _ _ _ _ _ _ _ _ _ _ _ _ _ _ _ _ _)
 case' true=>
  cases d1
  case' false=>
   refine qq8x.wp_in (ds:=[7,8,9,10,11,12,13,14,15,16,17,18,19,20,21,22,23,24,25,26,27,28,29,30,31,32,33,34,35,36,37,38,39,40,41,42,43,44,45,46,47,48,49,50,51,6]) (B:=[(.int .i64 v),x1,x2,x3,(.pointer (some ⟨B1,0,none⟩)),(.pointer (some ⟨B2,0,none⟩)),(.bool false),(.pointer (some ⟨B1,0,none⟩)),(.int .i64 k),(.bool true),(.bool true),(.pointer (some ⟨B2,0,none⟩)),(.int .i64 k2),(.pointer (some ⟨B1,0,none⟩)),(.int .i64 k),(.int .i64 k1),(.bool false),(.bool false),(.bool false),undef,undef,undef,undef,undef,(.bool false),(.bool false),undef,undef,undef,undef,undef,undef,undef,undef,undef,undef,undef,undef,undef,(.bool false),(.bool false),undef,undef,undef,undef,(.bool false),(.bool false),undef,undef,undef,undef,(.bool false)]) (D:=[]) (by kernel_rfl) (by kernel_rfl) ?_ hS ?_ (fun w hS=>fin false w rfl hS _ _ _ _ _ _ _ _ _ _ _ _ _ _ _ _ _ _ _ _ _ _ _ _ _ _ _ _ _ _ _ _ _ _ _ _ _ _ _ _ _ _ _ _ _)
  case' true=>
   cases d2
   case' false=>
    refine qq8x.wp_in (ds:=[7,8,9,10,11,12,13,14,15,16,17,18,19,20,21,22,23,24,25,26,27,28,29,30,31,32,33,34,35,36,37,38,39,40,41,42,43,44,45,46,47,48,49,50,51,6]) (B:=[(.int .i64 v),x1,x2,x3,(.pointer (some ⟨B1,0,none⟩)),(.pointer (some ⟨B2,0,none⟩)),(.bool false),(.pointer (some ⟨B1,0,none⟩)),(.int .i64 k),(.bool true),(.bool true),(.pointer (some ⟨B2,0,none⟩)),(.int .i64 k2),(.pointer (some ⟨B1,0,none⟩)),(.int .i64 k),(.int .i64 k1),(.bool true),(.bool true),(.bool true),(.pointer (some ⟨B2,4,none⟩)),(.int .i64 i2),(.pointer (some ⟨B1,4,none⟩)),(.int .i64 i),(.bool false),(.bool false),(.bool false),undef,undef,undef,undef,undef,undef,undef,undef,undef,undef,undef,undef,undef,(.bool false),(.bool false),undef,undef,undef,undef,(.bool false),(.bool false),undef,undef,undef,undef,(.bool false)]) (D:=[]) (by kernel_rfl) (by kernel_rfl) ?_ hS ?_ (fun w hS=>fin false w rfl hS _ _ _ _ _ _ _ _ _ _ _ _ _ _ _ _ _ _ _ _ _ _ _ _ _ _ _ _ _ _ _ _ _ _ _ _ _ _ _ _ _ _ _ _ _)
   case' true=>
    cases c0
    case' false=>
     cases c1
     case' false=>
      refine qq8x.wp_in (ds:=[7,8,9,10,11,12,13,14,15,16,17,18,19,20,21,22,23,24,25,26,27,28,29,30,31,32,33,34,35,36,37,38,39,40,41,42,43,44,45,46,47,48,49,50,51,6]) (B:=[(.int .i64 v),x1,x2,x3,(.pointer (some ⟨B1,0,none⟩)),(.pointer (some ⟨B2,0,none⟩)),(.bool false),(.pointer (some ⟨B1,0,none⟩)),(.int .i64 k),(.bool true),(.bool true),(.pointer (some ⟨B2,0,none⟩)),(.int .i64 k2),(.pointer (some ⟨B1,0,none⟩)),(.int .i64 k),(.int .i64 k1),(.bool true),(.bool true),(.bool true),(.pointer (some ⟨B2,4,none⟩)),(.int .i64 i2),(.pointer (some ⟨B1,4,none⟩)),(.int .i64 i),(.bool true),(.bool true),(.bool true),(.pointer (some ⟨B2,22,none⟩)),(.slice ac nc cc),(.int .i64 (nc:Nat)),(.pointer (some ⟨B1,23,none⟩)),(.slice af nf fc),(.int .i64 (nf:Nat)),(.bool false),(.bool false),(.int .i64 v),(.pointer (some ⟨B2,0,none⟩)),(.int .i64 k2),(.bool false),(.bool false),(.bool false),(.bool false),undef,undef,undef,undef,(.bool false),(.bool false),undef,undef,undef,undef,(.bool false)]) (D:=[]) (by kernel_rfl) (by kernel_rfl) ?_ hS ?_ (fun w hS=>fin false w rfl hS _ _ _ _ _ _ _ _ _ _ _ _ _ _ _ _ _ _ _ _ _ _ _ _ _ _ _ _ _ _ _ _ _ _ _ _ _ _ _ _ _ _ _ _ _)
     case' true=>
      cases d3
      case' false=>
       refine qq8x.wp_in (ds:=[7,8,9,10,11,12,13,14,15,16,17,18,19,20,21,22,23,24,25,26,27,28,29,30,31,32,33,34,35,36,37,38,39,40,41,42,43,44,45,46,47,48,49,50,51,6]) (B:=[(.int .i64 v),x1,x2,x3,(.pointer (some ⟨B1,0,none⟩)),(.pointer (some ⟨B2,0,none⟩)),(.bool false),(.pointer (some ⟨B1,0,none⟩)),(.int .i64 k),(.bool true),(.bool true),(.pointer (some ⟨B2,0,none⟩)),(.int .i64 k2),(.pointer (some ⟨B1,0,none⟩)),(.int .i64 k),(.int .i64 k1),(.bool true),(.bool true),(.bool true),(.pointer (some ⟨B2,4,none⟩)),(.int .i64 i2),(.pointer (some ⟨B1,4,none⟩)),(.int .i64 i),(.bool true),(.bool true),(.bool true),(.pointer (some ⟨B2,22,none⟩)),(.slice ac nc cc),(.int .i64 (nc:Nat)),(.pointer (some ⟨B1,23,none⟩)),(.slice af nf fc),(.int .i64 (nf:Nat)),(.bool false),(.bool false),(.int .i64 v),(.pointer (some ⟨B2,0,none⟩)),(.int .i64 k2),(.bool true),(.bool true),(.bool true),(.bool true),(.int .i64 v),(.agg C),(.int .i64 ep),(.bool false),(.bool false),(.bool false),undef,undef,undef,undef,(.bool false)]) (D:=[]) (by kernel_rfl) (by kernel_rfl) ?_ hS ?_ (fun w hS=>fin false w rfl hS _ _ _ _ _ _ _ _ _ _ _ _ _ _ _ _ _ _ _ _ _ _ _ _ _ _ _ _ _ _ _ _ _ _ _ _ _ _ _ _ _ _ _ _ _)
      case' true=>
       cases d4
       case' false=>
        refine qq8x.wp_in (ds:=[7,8,9,10,11,12,13,14,15,16,17,18,19,20,21,22,23,24,25,26,27,28,29,30,31,32,33,34,35,36,37,38,39,40,41,42,43,44,45,46,47,48,49,50,51,6]) (B:=[(.int .i64 v),x1,x2,x3,(.pointer (some ⟨B1,0,none⟩)),(.pointer (some ⟨B2,0,none⟩)),(.bool false),(.pointer (some ⟨B1,0,none⟩)),(.int .i64 k),(.bool true),(.bool true),(.pointer (some ⟨B2,0,none⟩)),(.int .i64 k2),(.pointer (some ⟨B1,0,none⟩)),(.int .i64 k),(.int .i64 k1),(.bool true),(.bool true),(.bool true),(.pointer (some ⟨B2,4,none⟩)),(.int .i64 i2),(.pointer (some ⟨B1,4,none⟩)),(.int .i64 i),(.bool true),(.bool true),(.bool true),(.pointer (some ⟨B2,22,none⟩)),(.slice ac nc cc),(.int .i64 (nc:Nat)),(.pointer (some ⟨B1,23,none⟩)),(.slice af nf fc),(.int .i64 (nf:Nat)),(.bool false),(.bool false),(.int .i64 v),(.pointer (some ⟨B2,0,none⟩)),(.int .i64 k2),(.bool true),(.bool true),(.bool true),(.bool true),(.int .i64 v),(.agg C),(.int .i64 ep),(.bool true),(.bool true),(.bool true),(.int .i64 v),(.agg D),(.int .i64 eq),(.bool false),(.bool false)]) (D:=[]) (by kernel_rfl) (by kernel_rfl) ?_ hS ?_ (fun w hS=>fin false w rfl hS _ _ _ _ _ _ _ _ _ _ _ _ _ _ _ _ _ _ _ _ _ _ _ _ _ _ _ _ _ _ _ _ _ _ _ _ _ _ _ _ _ _ _ _ _)
       case' true=>
        refine qq8x.wp_in (ds:=[7,8,9,10,11,12,13,14,15,16,17,18,19,20,21,22,23,24,25,26,27,28,29,30,31,32,33,34,35,36,37,38,39,40,41,42,43,44,45,46,47,48,49,50,51,6]) (B:=[(.int .i64 v),x1,x2,x3,(.pointer (some ⟨B1,0,none⟩)),(.pointer (some ⟨B2,0,none⟩)),(.bool true),(.pointer (some ⟨B1,0,none⟩)),(.int .i64 k),(.bool true),(.bool true),(.pointer (some ⟨B2,0,none⟩)),(.int .i64 k2),(.pointer (some ⟨B1,0,none⟩)),(.int .i64 k),(.int .i64 k1),(.bool true),(.bool true),(.bool true),(.pointer (some ⟨B2,4,none⟩)),(.int .i64 i2),(.pointer (some ⟨B1,4,none⟩)),(.int .i64 i),(.bool true),(.bool true),(.bool true),(.pointer (some ⟨B2,22,none⟩)),(.slice ac nc cc),(.int .i64 (nc:Nat)),(.pointer (some ⟨B1,23,none⟩)),(.slice af nf fc),(.int .i64 (nf:Nat)),(.bool false),(.bool false),(.int .i64 v),(.pointer (some ⟨B2,0,none⟩)),(.int .i64 k2),(.bool true),(.bool true),(.bool true),(.bool true),(.int .i64 v),(.agg C),(.int .i64 ep),(.bool true),(.bool true),(.bool true),(.int .i64 v),(.agg D),(.int .i64 eq),(.bool true),(.bool true)]) (D:=[]) (by kernel_rfl) (by kernel_rfl) ?_ hS ?_ (fun w hS=>fin true w rfl hS _ _ _ _ _ _ _ _ _ _ _ _ _ _ _ _ _ _ _ _ _ _ _ _ _ _ _ _ _ _ _ _ _ _ _ _ _ _ _ _ _ _ _ _ _)
    case' true=>
     cases d3
     case' false=>
      refine qq8x.wp_in (ds:=[7,8,9,10,11,12,13,14,15,16,17,18,19,20,21,22,23,24,25,26,27,28,29,30,31,32,33,34,35,36,37,38,39,40,41,42,43,44,45,46,47,48,49,50,51,6]) (B:=[(.int .i64 v),x1,x2,x3,(.pointer (some ⟨B1,0,none⟩)),(.pointer (some ⟨B2,0,none⟩)),(.bool false),(.pointer (some ⟨B1,0,none⟩)),(.int .i64 k),(.bool true),(.bool true),(.pointer (some ⟨B2,0,none⟩)),(.int .i64 k2),(.pointer (some ⟨B1,0,none⟩)),(.int .i64 k),(.int .i64 k1),(.bool true),(.bool true),(.bool true),(.pointer (some ⟨B2,4,none⟩)),(.int .i64 i2),(.pointer (some ⟨B1,4,none⟩)),(.int .i64 i),(.bool true),(.bool true),(.bool true),(.pointer (some ⟨B2,22,none⟩)),(.slice ac nc cc),(.int .i64 (nc:Nat)),(.pointer (some ⟨B1,23,none⟩)),(.slice af nf fc),(.int .i64 (nf:Nat)),(.bool true),(.bool true),undef,undef,undef,undef,(.bool true),(.bool true),(.bool true),(.int .i64 v),(.agg C),(.int .i64 ep),(.bool false),(.bool false),(.bool false),undef,undef,undef,undef,(.bool false)]) (D:=[]) (by kernel_rfl) (by kernel_rfl) ?_ hS ?_ (fun w hS=>fin false w rfl hS _ _ _ _ _ _ _ _ _ _ _ _ _ _ _ _ _ _ _ _ _ _ _ _ _ _ _ _ _ _ _ _ _ _ _ _ _ _ _ _ _ _ _ _ _)
     case' true=>
      cases d4
      case' false=>
       refine qq8x.wp_in (ds:=[7,8,9,10,11,12,13,14,15,16,17,18,19,20,21,22,23,24,25,26,27,28,29,30,31,32,33,34,35,36,37,38,39,40,41,42,43,44,45,46,47,48,49,50,51,6]) (B:=[(.int .i64 v),x1,x2,x3,(.pointer (some ⟨B1,0,none⟩)),(.pointer (some ⟨B2,0,none⟩)),(.bool false),(.pointer (some ⟨B1,0,none⟩)),(.int .i64 k),(.bool true),(.bool true),(.pointer (some ⟨B2,0,none⟩)),(.int .i64 k2),(.pointer (some ⟨B1,0,none⟩)),(.int .i64 k),(.int .i64 k1),(.bool true),(.bool true),(.bool true),(.pointer (some ⟨B2,4,none⟩)),(.int .i64 i2),(.pointer (some ⟨B1,4,none⟩)),(.int .i64 i),(.bool true),(.bool true),(.bool true),(.pointer (some ⟨B2,22,none⟩)),(.slice ac nc cc),(.int .i64 (nc:Nat)),(.pointer (some ⟨B1,23,none⟩)),(.slice af nf fc),(.int .i64 (nf:Nat)),(.bool true),(.bool true),undef,undef,undef,undef,(.bool true),(.bool true),(.bool true),(.int .i64 v),(.agg C),(.int .i64 ep),(.bool true),(.bool true),(.bool true),(.int .i64 v),(.agg D),(.int .i64 eq),(.bool false),(.bool false)]) (D:=[]) (by kernel_rfl) (by kernel_rfl) ?_ hS ?_ (fun w hS=>fin false w rfl hS _ _ _ _ _ _ _ _ _ _ _ _ _ _ _ _ _ _ _ _ _ _ _ _ _ _ _ _ _ _ _ _ _ _ _ _ _ _ _ _ _ _ _ _ _)
      case' true=>
       refine qq8x.wp_in (ds:=[7,8,9,10,11,12,13,14,15,16,17,18,19,20,21,22,23,24,25,26,27,28,29,30,31,32,33,34,35,36,37,38,39,40,41,42,43,44,45,46,47,48,49,50,51,6]) (B:=[(.int .i64 v),x1,x2,x3,(.pointer (some ⟨B1,0,none⟩)),(.pointer (some ⟨B2,0,none⟩)),(.bool true),(.pointer (some ⟨B1,0,none⟩)),(.int .i64 k),(.bool true),(.bool true),(.pointer (some ⟨B2,0,none⟩)),(.int .i64 k2),(.pointer (some ⟨B1,0,none⟩)),(.int .i64 k),(.int .i64 k1),(.bool true),(.bool true),(.bool true),(.pointer (some ⟨B2,4,none⟩)),(.int .i64 i2),(.pointer (some ⟨B1,4,none⟩)),(.int .i64 i),(.bool true),(.bool true),(.bool true),(.pointer (some ⟨B2,22,none⟩)),(.slice ac nc cc),(.int .i64 (nc:Nat)),(.pointer (some ⟨B1,23,none⟩)),(.slice af nf fc),(.int .i64 (nf:Nat)),(.bool true),(.bool true),undef,undef,undef,undef,(.bool true),(.bool true),(.bool true),(.int .i64 v),(.agg C),(.int .i64 ep),(.bool true),(.bool true),(.bool true),(.int .i64 v),(.agg D),(.int .i64 eq),(.bool true),(.bool true)]) (D:=[]) (by kernel_rfl) (by kernel_rfl) ?_ hS ?_ (fun w hS=>fin true w rfl hS _ _ _ _ _ _ _ _ _ _ _ _ _ _ _ _ _ _ _ _ _ _ _ _ _ _ _ _ _ _ _ _ _ _ _ _ _ _ _ _ _ _ _ _ _)
 all_goals first
  | (
   refine qfhu.pu rfl rfl rfl rfl (fun w hS=>qd7q rfl) ?_
   refine qfhu.pu rfl rfl rfl rfl (fun w hS=>qkcv rfl (K0 w hS)) ?_
   refine qfhu.ca rfl rfl rfl rfl (fun w=>qpjl.enter1 Tryz.func44 rfl rfl) H0 ?_
   refine qfhu.pu rfl rfl rfl rfl (fun w hS=>rfl) ?_
   first | refine qfhu.sk rfl rfl rfl rfl ?_ | refine qfhu.pu rfl rfl rfl rfl (fun w hS=>qd7q rfl) ?_
   first | refine qfhu.sk rfl rfl rfl rfl ?_ | refine qfhu.pu rfl rfl rfl rfl (fun w hS=>qkcv rfl (L0 w hS)) ?_
   first | refine qfhu.sk rfl rfl rfl rfl ?_ | refine qfhu.pu rfl rfl rfl rfl (fun w hS=>qd7q rfl) ?_
   first | refine qfhu.sk rfl rfl rfl rfl ?_ | refine qfhu.pu rfl rfl rfl rfl (fun w hS=>qkcv rfl (K0 w hS)) ?_
   first | refine qfhu.sk rfl rfl rfl rfl ?_ | refine qfhu.pu rfl rfl rfl rfl (fun w hS=>qlgr rfl hk1) ?_
   first | refine qfhu.sk rfl rfl rfl rfl ?_ | refine qfhu.pu rfl rfl rfl rfl (fun w hS=>qc5j rfl rfl ed1) ?_
   refine qfhu.pu rfl rfl rfl rfl (fun w hS=>rfl) ?_
   refine qfhu.pu rfl rfl rfl rfl (fun w hS=>rfl) ?_
   first | refine qfhu.sk rfl rfl rfl rfl ?_ | refine qfhu.pu rfl rfl rfl rfl (fun w hS=>q43k rfl) ?_
   first | refine qfhu.sk rfl rfl rfl rfl ?_ | refine qfhu.pu rfl rfl rfl rfl (fun w hS=>qkcv rfl (L4 w hS)) ?_
   first | refine qfhu.sk rfl rfl rfl rfl ?_ | refine qfhu.pu rfl rfl rfl rfl (fun w hS=>q43k rfl) ?_
   first | refine qfhu.sk rfl rfl rfl rfl ?_ | refine qfhu.pu rfl rfl rfl rfl (fun w hS=>qkcv rfl (K4 w hS)) ?_
   first | refine qfhu.sk rfl rfl rfl rfl ?_ | refine qfhu.pu rfl rfl rfl rfl (fun w hS=>qc5j rfl rfl ed2) ?_
   refine qfhu.pu rfl rfl rfl rfl (fun w hS=>rfl) ?_
   refine qfhu.pu rfl rfl rfl rfl (fun w hS=>rfl) ?_
   first | refine qfhu.sk rfl rfl rfl rfl ?_ | refine qfhu.pu rfl rfl rfl rfl (fun w hS=>qxyk rfl) ?_
   first | refine qfhu.sk rfl rfl rfl rfl ?_ | refine qfhu.pu rfl rfl rfl rfl (fun w hS=>qag2 rfl (L22 w hS)) ?_
   first | refine qfhu.sk rfl rfl rfl rfl ?_ | refine qfhu.pu rfl rfl rfl rfl (fun w hS=>qki8 rfl) ?_
   first | refine qfhu.sk rfl rfl rfl rfl ?_ | refine qfhu.pu rfl rfl rfl rfl (fun w hS=>qvcr rfl) ?_
   first | refine qfhu.sk rfl rfl rfl rfl ?_ | refine qfhu.pu rfl rfl rfl rfl (fun w hS=>qdeq rfl (K23 w hS)) ?_
   first | refine qfhu.sk rfl rfl rfl rfl ?_ | refine qfhu.pu rfl rfl rfl rfl (fun w hS=>q73a rfl) ?_
   first | refine qfhu.sk rfl rfl rfl rfl ?_ | refine qfhu.pu rfl rfl rfl rfl (fun w hS=>qc5j rfl rfl ec0) ?_
   first | refine qfhu.sk rfl rfl rfl rfl ?_ | refine qfhu.pu rfl rfl rfl rfl (fun w hS=>rfl) ?_
   first | refine qfhu.sk rfl rfl rfl rfl ?_ | refine qfhu.pu rfl rfl rfl rfl (fun w hS=>rfl) ?_
   first | refine qfhu.sk rfl rfl rfl rfl ?_ | refine qfhu.pu rfl rfl rfl rfl (fun w hS=>qd7q rfl) ?_
   first | refine qfhu.sk rfl rfl rfl rfl ?_ | refine qfhu.pu rfl rfl rfl rfl (fun w hS=>qkcv rfl (L0 w hS)) ?_
   first | refine qfhu.sk rfl rfl rfl rfl ?_ | refine qfhu.ca rfl rfl rfl rfl (fun w=>qpjl.enter2 Tryz.func45 rfl rfl rfl) H1 ?_
   first | refine qfhu.sk rfl rfl rfl rfl ?_ | refine qfhu.pu rfl rfl rfl rfl (fun w hS=>rfl) ?_
   refine qfhu.pu rfl rfl rfl rfl (fun w hS=>rfl) ?_
   refine qfhu.pu rfl rfl rfl rfl (fun w hS=>rfl) ?_
   first | refine qfhu.sk rfl rfl rfl rfl ?_ | refine qfhu.pu rfl rfl rfl rfl (fun w hS=>rfl) ?_
   first | refine qfhu.sk rfl rfl rfl rfl ?_ | refine qfhu.pu rfl rfl rfl rfl (fun w hS=>qjuh rfl hC (KC w hS)) ?_
   first | refine qfhu.sk rfl rfl rfl rfl ?_ | refine qfhu.ca rfl rfl rfl rfl (fun w=>qpjl.enter2 Tryz.func15 rfl rfl rfl) H2 ?_
   first | refine qfhu.sk rfl rfl rfl rfl ?_ | refine qfhu.pu rfl rfl rfl rfl (fun w hS=>qn1u rfl ed3) ?_
   refine qfhu.pu rfl rfl rfl rfl (fun w hS=>rfl) ?_
   refine qfhu.pu rfl rfl rfl rfl (fun w hS=>rfl) ?_
   first | refine qfhu.sk rfl rfl rfl rfl ?_ | refine qfhu.pu rfl rfl rfl rfl (fun w hS=>rfl) ?_
   first | refine qfhu.sk rfl rfl rfl rfl ?_ | refine qfhu.pu rfl rfl rfl rfl (fun w hS=>qjuh rfl hD (LC w hS)) ?_
   first | refine qfhu.sk rfl rfl rfl rfl ?_ | refine qfhu.ca rfl rfl rfl rfl (fun w=>qpjl.enter2 Tryz.func15 rfl rfl rfl) H3 ?_
   first | refine qfhu.sk rfl rfl rfl rfl ?_ | refine qfhu.pu rfl rfl rfl rfl (fun w hS=>qn1u rfl ed4) ?_
   refine qfhu.pu rfl rfl rfl rfl (fun w hS=>rfl) ?_
   refine qfhu.pu rfl rfl rfl rfl (fun w hS=>rfl) ?_
   exact qfhu.All.fin rfl)
  | exact(by repeat (first | exact trivial | refine⟨.inr rfl,?_⟩ | refine⟨.inl rfl,?_⟩))
end Go.Proofs.YtbecggefmbpnoaaGreatDoor
