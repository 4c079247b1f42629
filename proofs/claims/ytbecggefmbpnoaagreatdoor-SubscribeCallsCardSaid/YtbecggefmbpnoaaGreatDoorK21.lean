/- More of a region's operations upon filters: rows, comparisons, bytes of strings. No condition. -/
import Derived.Lib.IndexBytes
import Derived.Test.YtbecggefmbpnoaaGreatDoorK19
import Derived.Test.YtbecggefmbpnoaaGreatDoorK09
import Derived.Test.YtbecggefmbpnoaaGreatDoorK10
import Derived.Test.YtbecggefmbpnoaaGreatDoorK02
set_option maxHeartbeats 8000000
set_option maxRecDepth 100000
namespace Go.Proofs.YtbecggefmbpnoaaGreatDoor
open Go.RowKit
section
variable{a:Act}{w:World}{d:Option Tmp}{p:String}{af:Array Edge}{gd:Option (Nat×Bool)}{x y z:Tmp}{r:TypeId}
theorem qr7j{b c:Bool}(hx:a.eval (.tmp x) = .bool b)(hc:(!b)=c) :
 (execOp a.eval {dst:=d,op := .unOp .not 4 (.tmp x),type:=r,pos:=p,after:=af,guard:=gd}).run Tryz.prog w = .ok (.value (.bool c)) w:=by
 subst hc
 generalize a.eval=f at *
 go_simp
theorem qmdg{g:Nat}(hx:a.eval (.tmp x) = .pointer (some ⟨g,0,none⟩)) :
 (execOp a.eval {dst:=d,op := .fieldAddr 32 (.tmp x) 0,type:=r,pos:=p,after:=af,guard:=gd}).run Tryz.prog w = .ok (.value (.pointer (some ⟨g,0,none⟩))) w:=by
 generalize a.eval=f at *
 go_simp
theorem q5u5{g j:Nat}{s:ByteArray}(hx:a.eval (.tmp x) = .pointer (some ⟨g,j,none⟩))(hc:w.cell? ⟨g,j,none⟩=some (.string s)) :
 (execOp a.eval {dst:=d,op := .load 9 (.tmp x),type:=9,pos:=p,after:=af,guard:=gd}).run Tryz.prog w = .ok (.value (.string s)) w:=by
 generalize a.eval=f at *
 go_simp
theorem q1ib{g:Nat}{f:Fi}(hx:a.eval (.tmp x) = .pointer (some ⟨g,0,none⟩))(hg:w.heap[g]? = some (.cells (fiC f) 32 (0,0))) :
 (execOp a.eval {dst:=d,op := .load 32 (.tmp x),type:=32,pos:=p,after:=af,guard:=gd}).run Tryz.prog w = .ok (.value (.agg (fiC f))) w:=by
 unfold execOp
 simp only[hx,Instr.loadAt,Instr.sureAddr,Sem.run_bind,Sem.run_pure,Result.andThen_ok,run_loadVar_row w g 32 32 (fiC f) (0,0) _ hg Tryz.underlying32 rfl qhg6]
theorem rf_at{g i:Nat}{f:Fi}(hx:a.eval (.tmp x) = .pointer (some ⟨g,i,none⟩))(h0:w.cell? ⟨g,i,none⟩=some (.string (bs f.topic)))(h1:w.cell? ⟨g,i+1,none⟩=some (.int .i64 f.qos))(h2:w.cell? ⟨g,i+2,none⟩=some (.bool f.noLocal))(h3:w.cell? ⟨g,i+3,none⟩=some (.bool f.asPub))(h4:w.cell? ⟨g,i+4,none⟩=some (.int .i64 f.handling)) :
 (execOp a.eval {dst:=d,op := .load 32 (.tmp x),type:=32,pos:=p,after:=af,guard:=gd}).run Tryz.prog w = .ok (.value (.agg (fiC f))) w:=by
 unfold fiC
 generalize bs f.topic=q0 at *
 generalize f.qos=q1 at *
 generalize f.noLocal=q2 at *
 generalize f.asPub=q3 at *
 generalize f.handling=q4 at *
 generalize a.eval=f at *
 go_simp
theorem qr9y{f g:Fi}(hx:a.eval (.tmp x) = .agg (fiC f))(hy:a.eval (.tmp y) = .agg (fiC g)){b:Bool}(hb:decide (f=g)=b) :
 (execOp a.eval {dst:=d,op := .binOp .eql 32 (.tmp x) (.tmp y) 32,type:=r,pos:=p,after:=af,guard:=gd}).run Tryz.prog w = .ok (.value (.bool b)) w:=by
 subst hb
 unfold fiC at hx hy
 rcases qpuj f g with h | h | ⟨h1,h2⟩ | ⟨h1,h2,h3⟩ | ⟨h1,h2,h3,h4⟩ | ⟨h1,h2,h3,h4,h5⟩
 ·subst h
  rw[decide_eq_true rfl]
  generalize bs f.topic=q0 at *
  generalize f.qos=q1 at *
  generalize f.noLocal=q2 at *
  generalize f.asPub=q3 at *
  generalize f.handling=q4 at *
  generalize a.eval=f at *
  go_simp
 ·have hn:decide (f=g)=false:=decide_eq_false (fun e=>by rw[e] at h;simp at h)
  rw[hn]
  generalize bs f.topic=q0 at *
  generalize bs g.topic=u0 at *
  generalize a.eval=f at *
  go_simp
 ·have hn:decide (f=g)=false:=decide_eq_false (fun e=>by rw[e] at h2;simp at h2)
  rw[hn]
  rw[h1] at hx
  generalize bs g.topic=u0 at *
  generalize f.qos=q1 at *
  generalize g.qos=u1 at *
  generalize a.eval=f at *
  go_simp
 ·have hn:decide (f=g)=false:=decide_eq_false (fun e=>by rw[e] at h3;simp at h3)
  rw[hn]
  rw[h1,h2] at hx
  generalize bs g.topic=u0 at *
  generalize g.qos=u1 at *
  generalize f.noLocal=q2 at *
  generalize g.noLocal=u2 at *
  generalize a.eval=f at *
  go_simp
 ·have hn:decide (f=g)=false:=decide_eq_false (fun e=>by rw[e] at h4;simp at h4)
  rw[hn]
  rw[h1,h2,h3] at hx
  generalize bs g.topic=u0 at *
  generalize g.qos=u1 at *
  generalize g.noLocal=u2 at *
  generalize f.asPub=q3 at *
  generalize g.asPub=u3 at *
  generalize a.eval=f at *
  go_simp
 ·have hn:decide (f=g)=false:=decide_eq_false (fun e=>by rw[e] at h5;simp at h5)
  rw[hn]
  rw[h1,h2,h3,h4] at hx
  generalize bs g.topic=u0 at *
  generalize g.qos=u1 at *
  generalize g.noLocal=u2 at *
  generalize g.asPub=u3 at *
  generalize f.handling=q4 at *
  generalize g.handling=u4 at *
  generalize a.eval=f at *
  go_simp
end
section
variable{a:Act}{w:World}{d:Option Tmp}{p:String}{af:Array Edge}{gd:Option (Nat×Bool)}{x y z:Tmp}{r:TypeId}
theorem qn1u{n c:Int}{b:Bool}(hx:a.eval (.tmp x) = .int .i64 n)(hb:(n==c)=b) :
 (execOp a.eval {dst:=d,op := .binOp .eql 33 (.tmp x) (.const (.int .i64 c)) 33,type:=r,pos:=p,after:=af,guard:=gd}).run Tryz.prog w = .ok (.value (.bool b)) w:=by
 subst hb
 have hc:a.eval (.const (.int .i64 c)) = .int .i64 c:=rfl
 generalize a.eval=f at *
 go_simp
theorem qkut{n c:Int}{b:Bool}(hx:a.eval (.tmp x) = .int .i64 n)(hb:(n==c)=b) :
 (execOp a.eval {dst:=d,op := .binOp .eql 3 (.tmp x) (.const (.int .i64 c)) 3,type:=r,pos:=p,after:=af,guard:=gd}).run Tryz.prog w = .ok (.value (.bool b)) w:=by
 subst hb
 have hc:a.eval (.const (.int .i64 c)) = .int .i64 c:=rfl
 generalize a.eval=f at *
 go_simp
theorem qc5j{n m:Int}{b:Bool}(hx:a.eval (.tmp x) = .int .i64 n)(hy:a.eval (.tmp y) = .int .i64 m)(hb:(n==m)=b) :
 (execOp a.eval {dst:=d,op := .binOp .eql 3 (.tmp x) (.tmp y) 3,type:=r,pos:=p,after:=af,guard:=gd}).run Tryz.prog w = .ok (.value (.bool b)) w:=by
 subst hb
 generalize a.eval=f at *
 go_simp
theorem qlgr{n c m:Int}(hx:a.eval (.tmp x) = .int .i64 n)(hm:IntKind.i64.wrap (n+c)=m) :
 (execOp a.eval {dst:=d,op := .binOp .add 3 (.tmp x) (.const (.int .i64 c)) 3,type:=r,pos:=p,after:=af,guard:=gd}).run Tryz.prog w = .ok (.value (.int .i64 m)) w:=by
 subst hm
 have hc:a.eval (.const (.int .i64 c)) = .int .i64 c:=rfl
 generalize a.eval=f at *
 go_simp
end
section
variable{a:Act}{w:World}{d:Option Tmp}{p:String}{af:Array Edge}{gd:Option (Nat×Bool)}{x y z:Tmp}{r:TypeId}
theorem qozr{n c:Nat}{A:Option Addr}(hx:a.eval (.tmp x) = .slice A n c) :
 (execOp a.eval {dst:=d,op := .call {callee := .builtin .len,args:=#[.tmp x],argTypes:=#[23]},type:=r,pos:=p,after:=af,guard:=gd}).run Tryz.prog w = .ok (.value (.int .i64 (n:Nat))) w:=by
 generalize a.eval=f at *
 go_simp
theorem q4p0{n c:Int}{b:Bool}(hx:a.eval (.tmp x) = .int .i64 n)(hb:decide (n < c)=b) :
 (execOp a.eval {dst:=d,op := .binOp .lss 3 (.tmp x) (.const (.int .i64 c)) 3,type:=r,pos:=p,after:=af,guard:=gd}).run Tryz.prog w = .ok (.value (.bool b)) w:=by
 subst hb
 have hc:a.eval (.const (.int .i64 c)) = .int .i64 c:=rfl
 generalize a.eval=f at *
 go_simp
theorem ql38{n k m:Int}(hx:a.eval (.tmp x) = .int .i64 n)(hy:a.eval (.tmp y) = .int .i64 k)(hm:IntKind.i64.wrap (n+k)=m) :
 (execOp a.eval {dst:=d,op := .binOp .add 3 (.tmp x) (.tmp y) 3,type:=r,pos:=p,after:=af,guard:=gd}).run Tryz.prog w = .ok (.value (.int .i64 m)) w:=by
 subst hm
 generalize a.eval=f at *
 go_simp
theorem qcjx{g o n c j:Nat}(hx:a.eval (.tmp x) = .slice (some ⟨g,o,none⟩) n c)(hy:a.eval (.tmp y) = .int .i64 (j:Nat))(hj:(j:Int) < (n:Int)) :
 (execOp a.eval {dst:=d,op := .indexAddr 27 (.tmp x) (.tmp y),type:=r,pos:=p,after:=af,guard:=gd}).run Tryz.prog w = .ok (.value (.pointer (some ⟨g,o+j*5,none⟩))) w:=by
 generalize a.eval=f at *
 go_simp
theorem qv2y{g o n c j:Nat}(hx:a.eval (.tmp x) = .slice (some ⟨g,o,none⟩) n c)(hy:a.eval (.tmp y) = .int .i64 (j:Nat))(hj:(j:Int) < (n:Int)) :
 (execOp a.eval {dst:=d,op := .indexAddr 26 (.tmp x) (.tmp y),type:=r,pos:=p,after:=af,guard:=gd}).run Tryz.prog w = .ok (.value (.pointer (some ⟨g,o+j,none⟩))) w:=by
 generalize a.eval=f at *
 go_simp
end
theorem qrsb{n:Nat}{b:Bool}(h:(n==0)=b):(((n:Nat):Int)==0)=b:=by
 rw[←h,Bool.eq_iff_iff];simp
theorem q9oy{Q:Exit→Act→World→Prop}{S:World→Prop}{W:World}{B np pc:Nat}{v k i:Int}{C D:Array Value}{s:Bool}{aq:Option Addr}{x1 x2 x4 x5 x6 x7 x8 x9 x10 x11 x12 x13 x14 x15 x16 x17 x18 x19 x20 x21 x22 x23 x24 x25 x26 x27 x28 x29 x30 x31 x32 x33 x34 x35 x36 x37 x38 x39 x40 x41 x42 x43 x44 x45 x46 x47 x48 x49 x50 x51 x52 x53 x54 x55 x56 x57 x58 x59 x60 x61 x62 x63 x64 x65 x66 x67 x68 x69 x70 x71 x72 x73 x74 x75 x76 x77 x78 x79 x80 x81 x82 x83 x84 x85 x86 x87 x88 x89 x90 x91 x92 x93 x94 x95 x96 x97 x98 x99 x100 x101 x102 x103 x104 x105 x106 x107 x108 x109 x110 x111 x112 x113:Value}
 (hS:S W.drew)
 (hC:C.size=25) (KC:∀w,S w→w.heap[B]? = some (.cells C 29 (0,0))) (K4:∀w,S w→w.cell? ⟨B,4,none⟩=some (.int .i64 i)) (K24:∀w,S w→w.cell? ⟨B,24,none⟩=some (.slice aq np pc))
 (K0:∀w,S w→w.cell? ⟨B,0,none⟩=some (.int .i64 k))
 (H0:∀w,S w→Calls Tryz.prog 57 #[.int .i64 v] w fun e w'=>e = .returned (.bool (versC v))∧S w')
 (H1:∀w,S w→Calls Tryz.prog 58 #[.int .i64 k] w fun e w'=>e = .returned (.bool (qfws k))∧S w')
 (H2:∀w,S w→Calls Tryz.prog 67 #[.int .i64 v,.agg C] w fun e w'=>e = .returned (.agg D)∧S w')
 (H3:∀w,S w→Calls Tryz.prog 66 #[.agg C,.agg D] w fun e w'=>e = .returned (.bool s)∧S w')
 (fin:∀(r:Bool) (w:World),(!(versC v) || !(qfws k) || !s || (decide (i < 1)) || (decide (65535 < i)) || ((v==4)&&(decide (0 < np))))=r→S w→∀x8 x9 x10 x11 x12 x13 x14 x15 x16 x17 x18 x19 x20 x21 x22 x23 x24 x25 x26 x27 x28 x29 x30 x31 x32 x33 x34 x35 x36 x37 x38 x39 x40 x41 x42 x43,Q .normal ⟨#[(.int .i64 v),x1,x2,(.pointer (some ⟨B,0,none⟩)),x4,x5,x6,x7,x8,x9,x10,x11,x12,x13,x14,x15,x16,x17,x18,x19,x20,x21,x22,x23,x24,x25,x26,x27,x28,x29,x30,x31,x32,x33,x34,x35,x36,x37,x38,x39,x40,x41,x42,x43,(.bool r),x45,x46,x47,x48,x49,x50,x51,x52,x53,x54,x55,x56,x57,x58,x59,x60,x61,x62,x63,x64,x65,x66,x67,x68,x69,x70,x71,x72,x73,x74,x75,x76,x77,x78,x79,x80,x81,x82,x83,x84,x85,x86,x87,x88,x89,x90,x91,x92,x93,x94,x95,x96,x97,x98,x99,x100,x101,x102,x103,x104,x105,x106,x107,x108,x109,x110,x111,x112,x113],[]⟩ w) :
 (Code.region 1 (qfhu.opsAt 1 Tryz.f21.body) true).wp Tryz.prog Q ⟨#[(.int .i64 v),x1,x2,(.pointer (some ⟨B,0,none⟩)),x4,x5,x6,x7,x8,x9,x10,x11,x12,x13,x14,x15,x16,x17,x18,x19,x20,x21,x22,x23,x24,x25,x26,x27,x28,x29,x30,x31,x32,x33,x34,x35,x36,x37,x38,x39,x40,x41,x42,x43,x44,x45,x46,x47,x48,x49,x50,x51,x52,x53,x54,x55,x56,x57,x58,x59,x60,x61,x62,x63,x64,x65,x66,x67,x68,x69,x70,x71,x72,x73,x74,x75,x76,x77,x78,x79,x80,x81,x82,x83,x84,x85,x86,x87,x88,x89,x90,x91,x92,x93,x94,x95,x96,x97,x98,x99,x100,x101,x102,x103,x104,x105,x106,x107,x108,x109,x110,x111,x112,x113],[]⟩ W:=by
 obtain⟨a0,ea0⟩:∃d,(versC v)=d:=⟨_,rfl⟩
 obtain⟨a1,ea1⟩:∃d,(qfws k)=d:=⟨_,rfl⟩
 obtain⟨a2,ea2⟩:∃d,(s)=d:=⟨_,rfl⟩
 obtain⟨l1,el1⟩:∃d,(decide (i < 1))=d:=⟨_,rfl⟩
 obtain⟨l2,el2⟩:∃d,(decide (65535 < i))=d:=⟨_,rfl⟩
 obtain⟨v4,ev4⟩:∃d,(v==4)=d:=⟨_,rfl⟩
 obtain⟨lp,elp⟩:∃d,(decide (0 < np))=d:=⟨_,rfl⟩
 rw[ea0,ea1,ea2,el1,el2,ev4,elp] at fin
 rw[ea0] at H0
 rw[ea1] at H1
 rw[ea2] at H3
 cases a0
 case' false=>
  refine qfhu.wp_in (ds:=[8,9,10,11,12,13,14,15,16,17,18,19,20,21,22,23,24,25,26,27,28,29,30,31,32,33,34,35,36,37,38,39,40,41,42,43,44]) (B:=[(.int .i64 v),x1,x2,(.pointer (some ⟨B,0,none⟩)),x4,x5,x6,x7,(.int .i64 v),(.bool false),(.bool true),(.bool true),undef,undef,undef,undef,(.bool true),(.bool true),undef,undef,undef,undef,undef,undef,(.bool true),(.bool true),undef,undef,undef,(.bool true),(.bool true),undef,undef,undef,(.bool true),(.bool true),undef,undef,undef,undef,undef,undef,undef,undef,(.bool true),x45,x46,x47,x48,x49,x50,x51,x52,x53,x54,x55,x56,x57,x58,x59,x60,x61,x62,x63,x64,x65,x66,x67,x68,x69,x70,x71,x72,x73,x74,x75,x76,x77,x78,x79,x80,x81,x82,x83,x84,x85,x86,x87,x88,x89,x90,x91,x92,x93,x94,x95,x96,x97,x98,x99,x100,x101,x102,x103,x104,x105,x106,x107,x108,x109,x110,x111,x112,x113]) (D:=[]) (by kernel_rfl) (by kernel_rfl) (by kernel_rfl) ?_ hS ?_ (fun w hS=>fin true w rfl hS _ _ _ _ _ _ _ _ _ _ _ _ _ _ _ _ _ _ _ _ _ _ _ _ _ _ _ _ _ _ _ _ _ _ _ _)
 case' true=>
  cases a1
  case' false=>
   refine qfhu.wp_in (ds:=[8,9,10,11,12,13,14,15,16,17,18,19,20,21,22,23,24,25,26,27,28,29,30,31,32,33,34,35,36,37,38,39,40,41,42,43,44]) (B:=[(.int .i64 v),x1,x2,(.pointer (some ⟨B,0,none⟩)),x4,x5,x6,x7,(.int .i64 v),(.bool true),(.bool false),(.bool false),(.pointer (some ⟨B,0,none⟩)),(.int .i64 k),(.bool false),(.bool true),(.bool true),(.bool true),undef,undef,undef,undef,undef,undef,(.bool true),(.bool true),undef,undef,undef,(.bool true),(.bool true),undef,undef,undef,(.bool true),(.bool true),undef,undef,undef,undef,undef,undef,undef,undef,(.bool true),x45,x46,x47,x48,x49,x50,x51,x52,x53,x54,x55,x56,x57,x58,x59,x60,x61,x62,x63,x64,x65,x66,x67,x68,x69,x70,x71,x72,x73,x74,x75,x76,x77,x78,x79,x80,x81,x82,x83,x84,x85,x86,x87,x88,x89,x90,x91,x92,x93,x94,x95,x96,x97,x98,x99,x100,x101,x102,x103,x104,x105,x106,x107,x108,x109,x110,x111,x112,x113]) (D:=[]) (by kernel_rfl) (by kernel_rfl) (by kernel_rfl) ?_ hS ?_ (fun w hS=>fin true w rfl hS _ _ _ _ _ _ _ _ _ _ _ _ _ _ _ _ _ _ _ _ _ _ _ _ _ _ _ _ _ _ _ _ _ _ _ _)
  case' true=>
   cases a2
   case' false=>
    refine qfhu.wp_in (ds:=[8,9,10,11,12,13,14,15,16,17,18,19,20,21,22,23,24,25,26,27,28,29,30,31,32,33,34,35,36,37,38,39,40,41,42,43,44]) (B:=[(.int .i64 v),x1,x2,(.pointer (some ⟨B,0,none⟩)),x4,x5,x6,x7,(.int .i64 v),(.bool true),(.bool false),(.bool false),(.pointer (some ⟨B,0,none⟩)),(.int .i64 k),(.bool true),(.bool false),(.bool false),(.bool false),(.agg C),(.int .i64 v),(.agg C),(.agg D),(.bool false),(.bool true),(.bool true),(.bool true),undef,undef,undef,(.bool true),(.bool true),undef,undef,undef,(.bool true),(.bool true),undef,undef,undef,undef,undef,undef,undef,undef,(.bool true),x45,x46,x47,x48,x49,x50,x51,x52,x53,x54,x55,x56,x57,x58,x59,x60,x61,x62,x63,x64,x65,x66,x67,x68,x69,x70,x71,x72,x73,x74,x75,x76,x77,x78,x79,x80,x81,x82,x83,x84,x85,x86,x87,x88,x89,x90,x91,x92,x93,x94,x95,x96,x97,x98,x99,x100,x101,x102,x103,x104,x105,x106,x107,x108,x109,x110,x111,x112,x113]) (D:=[]) (by kernel_rfl) (by kernel_rfl) (by kernel_rfl) ?_ hS ?_ (fun w hS=>fin true w rfl hS _ _ _ _ _ _ _ _ _ _ _ _ _ _ _ _ _ _ _ _ _ _ _ _ _ _ _ _ _ _ _ _ _ _ _ _)
   case' true=>
    cases l1
    case' false=>
     cases l2
     case' false=>
      cases v4
      case' false=>
       refine qfhu.wp_in (ds:=[8,9,10,11,12,13,14,15,16,17,18,19,20,21,22,23,24,25,26,27,28,29,30,31,32,33,34,35,36,37,38,39,40,41,42,43,44]) (B:=[(.int .i64 v),x1,x2,(.pointer (some ⟨B,0,none⟩)),x4,x5,x6,x7,(.int .i64 v),(.bool true),(.bool false),(.bool false),(.pointer (some ⟨B,0,none⟩)),(.int .i64 k),(.bool true),(.bool false),(.bool false),(.bool false),(.agg C),(.int .i64 v),(.agg C),(.agg D),(.bool true),(.bool false),(.bool false),(.bool false),(.pointer (some ⟨B,4,none⟩)),(.int .i64 i),(.bool false),(.bool false),(.bool false),(.pointer (some ⟨B,4,none⟩)),(.int .i64 i),(.bool false),(.bool false),(.bool false),(.int .i64 v),(.bool false),(.bool false),undef,undef,undef,undef,(.bool false),(.bool false),x45,x46,x47,x48,x49,x50,x51,x52,x53,x54,x55,x56,x57,x58,x59,x60,x61,x62,x63,x64,x65,x66,x67,x68,x69,x70,x71,x72,x73,x74,x75,x76,x77,x78,x79,x80,x81,x82,x83,x84,x85,x86,x87,x88,x89,x90,x91,x92,x93,x94,x95,x96,x97,x98,x99,x100,x101,x102,x103,x104,x105,x106,x107,x108,x109,x110,x111,x112,x113]) (D:=[]) (by kernel_rfl) (by kernel_rfl) (by kernel_rfl) ?_ hS ?_ (fun w hS=>fin false w rfl hS _ _ _ _ _ _ _ _ _ _ _ _ _ _ _ _ _ _ _ _ _ _ _ _ _ _ _ _ _ _ _ _ _ _ _ _)
      case' true=>
       cases lp
       case' false=>
        refine qfhu.wp_in (ds:=[8,9,10,11,12,13,14,15,16,17,18,19,20,21,22,23,24,25,26,27,28,29,30,31,32,33,34,35,36,37,38,39,40,41,42,43,44]) (B:=[(.int .i64 v),x1,x2,(.pointer (some ⟨B,0,none⟩)),x4,x5,x6,x7,(.int .i64 v),(.bool true),(.bool false),(.bool false),(.pointer (some ⟨B,0,none⟩)),(.int .i64 k),(.bool true),(.bool false),(.bool false),(.bool false),(.agg C),(.int .i64 v),(.agg C),(.agg D),(.bool true),(.bool false),(.bool false),(.bool false),(.pointer (some ⟨B,4,none⟩)),(.int .i64 i),(.bool false),(.bool false),(.bool false),(.pointer (some ⟨B,4,none⟩)),(.int .i64 i),(.bool false),(.bool false),(.bool false),(.int .i64 v),(.bool true),(.bool true),(.pointer (some ⟨B,24,none⟩)),(.slice aq np pc),(.int .i64 (np:Nat)),(.bool false),(.bool false),(.bool false),x45,x46,x47,x48,x49,x50,x51,x52,x53,x54,x55,x56,x57,x58,x59,x60,x61,x62,x63,x64,x65,x66,x67,x68,x69,x70,x71,x72,x73,x74,x75,x76,x77,x78,x79,x80,x81,x82,x83,x84,x85,x86,x87,x88,x89,x90,x91,x92,x93,x94,x95,x96,x97,x98,x99,x100,x101,x102,x103,x104,x105,x106,x107,x108,x109,x110,x111,x112,x113]) (D:=[]) (by kernel_rfl) (by kernel_rfl) (by kernel_rfl) ?_ hS ?_ (fun w hS=>fin false w rfl hS _ _ _ _ _ _ _ _ _ _ _ _ _ _ _ _ _ _ _ _ _ _ _ _ _ _ _ _ _ _ _ _ _ _ _ _)
       case' true=>
        refine qfhu.wp_in (ds:=[8,9,10,11,12,13,14,15,16,17,18,19,20,21,22,23,24,25,26,27,28,29,30,31,32,33,34,35,36,37,38,39,40,41,42,43,44]) (B:=[(.int .i64 v),x1,x2,(.pointer (some ⟨B,0,none⟩)),x4,x5,x6,x7,(.int .i64 v),(.bool true),(.bool false),(.bool false),(.pointer (some ⟨B,0,none⟩)),(.int .i64 k),(.bool true),(.bool false),(.bool false),(.bool false),(.agg C),(.int .i64 v),(.agg C),(.agg D),(.bool true),(.bool false),(.bool false),(.bool false),(.pointer (some ⟨B,4,none⟩)),(.int .i64 i),(.bool false),(.bool false),(.bool false),(.pointer (some ⟨B,4,none⟩)),(.int .i64 i),(.bool false),(.bool false),(.bool false),(.int .i64 v),(.bool true),(.bool true),(.pointer (some ⟨B,24,none⟩)),(.slice aq np pc),(.int .i64 (np:Nat)),(.bool true),(.bool true),(.bool true),x45,x46,x47,x48,x49,x50,x51,x52,x53,x54,x55,x56,x57,x58,x59,x60,x61,x62,x63,x64,x65,x66,x67,x68,x69,x70,x71,x72,x73,x74,x75,x76,x77,x78,x79,x80,x81,x82,x83,x84,x85,x86,x87,x88,x89,x90,x91,x92,x93,x94,x95,x96,x97,x98,x99,x100,x101,x102,x103,x104,x105,x106,x107,x108,x109,x110,x111,x112,x113]) (D:=[]) (by kernel_rfl) (by kernel_rfl) (by kernel_rfl) ?_ hS ?_ (fun w hS=>fin true w rfl hS _ _ _ _ _ _ _ _ _ _ _ _ _ _ _ _ _ _ _ _ _ _ _ _ _ _ _ _ _ _ _ _ _ _ _ _)
     case' true=>
      refine qfhu.wp_in (ds:=[8,9,10,11,12,13,14,15,16,17,18,19,20,21,22,23,24,25,26,27,28,29,30,31,32,33,34,35,36,37,38,39,40,41,42,43,44]) (B:=[(.int .i64 v),x1,x2,(.pointer (some ⟨B,0,none⟩)),x4,x5,x6,x7,(.int .i64 v),(.bool true),(.bool false),(.bool false),(.pointer (some ⟨B,0,none⟩)),(.int .i64 k),(.bool true),(.bool false),(.bool false),(.bool false),(.agg C),(.int .i64 v),(.agg C),(.agg D),(.bool true),(.bool false),(.bool false),(.bool false),(.pointer (some ⟨B,4,none⟩)),(.int .i64 i),(.bool false),(.bool false),(.bool false),(.pointer (some ⟨B,4,none⟩)),(.int .i64 i),(.bool true),(.bool true),(.bool true),undef,undef,undef,undef,undef,undef,undef,undef,(.bool true),x45,x46,x47,x48,x49,x50,x51,x52,x53,x54,x55,x56,x57,x58,x59,x60,x61,x62,x63,x64,x65,x66,x67,x68,x69,x70,x71,x72,x73,x74,x75,x76,x77,x78,x79,x80,x81,x82,x83,x84,x85,x86,x87,x88,x89,x90,x91,x92,x93,x94,x95,x96,x97,x98,x99,x100,x101,x102,x103,x104,x105,x106,x107,x108,x109,x110,x111,x112,x113]) (D:=[]) (by kernel_rfl) (by kernel_rfl) (by kernel_rfl) ?_ hS ?_ (fun w hS=>fin true w rfl hS _ _ _ _ _ _ _ _ _ _ _ _ _ _ _ _ _ _ _ _ _ _ _ _ _ _ _ _ _ _ _ _ _ _ _ _)
    case' true=>
     refine qfhu.wp_in (ds:=[8,9,10,11,12,13,14,15,16,17,18,19,20,21,22,23,24,25,26,27,28,29,30,31,32,33,34,35,36,37,38,39,40,41,42,43,44]) (B:=[(.int .i64 v),x1,x2,(.pointer (some ⟨B,0,none⟩)),x4,x5,x6,x7,(.int .i64 v),(.bool true),(.bool false),(.bool false),(.pointer (some ⟨B,0,none⟩)),(.int .i64 k),(.bool true),(.bool false),(.bool false),(.bool false),(.agg C),(.int .i64 v),(.agg C),(.agg D),(.bool true),(.bool false),(.bool false),(.bool false),(.pointer (some ⟨B,4,none⟩)),(.int .i64 i),(.bool true),(.bool true),(.bool true),undef,undef,undef,(.bool true),(.bool true),undef,undef,undef,undef,undef,undef,undef,undef,(.bool true),x45,x46,x47,x48,x49,x50,x51,x52,x53,x54,x55,x56,x57,x58,x59,x60,x61,x62,x63,x64,x65,x66,x67,x68,x69,x70,x71,x72,x73,x74,x75,x76,x77,x78,x79,x80,x81,x82,x83,x84,x85,x86,x87,x88,x89,x90,x91,x92,x93,x94,x95,x96,x97,x98,x99,x100,x101,x102,x103,x104,x105,x106,x107,x108,x109,x110,x111,x112,x113]) (D:=[]) (by kernel_rfl) (by kernel_rfl) (by kernel_rfl) ?_ hS ?_ (fun w hS=>fin true w rfl hS _ _ _ _ _ _ _ _ _ _ _ _ _ _ _ _ _ _ _ _ _ _ _ _ _ _ _ _ _ _ _ _ _ _ _ _)
 all_goals first
  | (
   refine qfhu.pu rfl rfl rfl rfl (fun w hS=>rfl) ?_
   refine qfhu.ca rfl rfl rfl rfl (fun w=>qpjl.enter1 Tryz.func57 rfl rfl) H0 ?_
   refine qfhu.pu rfl rfl rfl rfl (fun w hS=>qr7j rfl rfl) ?_
   refine qfhu.pu rfl rfl rfl rfl (fun w hS=>rfl) ?_
   first | refine qfhu.sk rfl rfl rfl rfl ?_ | refine qfhu.pu rfl rfl rfl rfl (fun w hS=>qd7q rfl) ?_
   first | refine qfhu.sk rfl rfl rfl rfl ?_ | refine qfhu.pu rfl rfl rfl rfl (fun w hS=>qkcv rfl (K0 w hS)) ?_
   first | refine qfhu.sk rfl rfl rfl rfl ?_ | refine qfhu.ca rfl rfl rfl rfl (fun w=>qpjl.enter1 Tryz.func58 rfl rfl) H1 ?_
   first | refine qfhu.sk rfl rfl rfl rfl ?_ | refine qfhu.pu rfl rfl rfl rfl (fun w hS=>qr7j rfl rfl) ?_
   refine qfhu.pu rfl rfl rfl rfl (fun w hS=>rfl) ?_
   refine qfhu.pu rfl rfl rfl rfl (fun w hS=>rfl) ?_
   first | refine qfhu.sk rfl rfl rfl rfl ?_ | refine qfhu.pu rfl rfl rfl rfl (fun w hS=>qjuh rfl hC (KC w hS)) ?_
   first | refine qfhu.sk rfl rfl rfl rfl ?_ | refine qfhu.pu rfl rfl rfl rfl (fun w hS=>rfl) ?_
   first | refine qfhu.sk rfl rfl rfl rfl ?_ | refine qfhu.pu rfl rfl rfl rfl (fun w hS=>qjuh rfl hC (KC w hS)) ?_
   first | refine qfhu.sk rfl rfl rfl rfl ?_ | refine qfhu.ca rfl rfl rfl rfl (fun w=>qpjl.enter2 Tryz.func67 rfl rfl rfl) H2 ?_
   first | refine qfhu.sk rfl rfl rfl rfl ?_ | refine qfhu.ca rfl rfl rfl rfl (fun w=>qpjl.enter2 Tryz.func66 rfl rfl rfl) H3 ?_
   first | refine qfhu.sk rfl rfl rfl rfl ?_ | refine qfhu.pu rfl rfl rfl rfl (fun w hS=>qr7j rfl rfl) ?_
   refine qfhu.pu rfl rfl rfl rfl (fun w hS=>rfl) ?_
   refine qfhu.pu rfl rfl rfl rfl (fun w hS=>rfl) ?_
   first | refine qfhu.sk rfl rfl rfl rfl ?_ | refine qfhu.pu rfl rfl rfl rfl (fun w hS=>q43k rfl) ?_
   first | refine qfhu.sk rfl rfl rfl rfl ?_ | refine qfhu.pu rfl rfl rfl rfl (fun w hS=>qkcv rfl (K4 w hS)) ?_
   first | refine qfhu.sk rfl rfl rfl rfl ?_ | refine qfhu.pu rfl rfl rfl rfl (fun w hS=>q4p0 rfl el1) ?_
   refine qfhu.pu rfl rfl rfl rfl (fun w hS=>rfl) ?_
   refine qfhu.pu rfl rfl rfl rfl (fun w hS=>rfl) ?_
   first | refine qfhu.sk rfl rfl rfl rfl ?_ | refine qfhu.pu rfl rfl rfl rfl (fun w hS=>q43k rfl) ?_
   first | refine qfhu.sk rfl rfl rfl rfl ?_ | refine qfhu.pu rfl rfl rfl rfl (fun w hS=>qkcv rfl (K4 w hS)) ?_
   first | refine qfhu.sk rfl rfl rfl rfl ?_ | refine qfhu.pu rfl rfl rfl rfl (fun w hS=>qyhu rfl el2) ?_
   refine qfhu.pu rfl rfl rfl rfl (fun w hS=>rfl) ?_
   refine qfhu.pu rfl rfl rfl rfl (fun w hS=>rfl) ?_
   first | refine qfhu.sk rfl rfl rfl rfl ?_ | refine qfhu.pu rfl rfl rfl rfl (fun w hS=>rfl) ?_
   first | refine qfhu.sk rfl rfl rfl rfl ?_ | refine qfhu.pu rfl rfl rfl rfl (fun w hS=>qkut rfl ev4) ?_
   first | refine qfhu.sk rfl rfl rfl rfl ?_ | refine qfhu.pu rfl rfl rfl rfl (fun w hS=>rfl) ?_
   first | refine qfhu.sk rfl rfl rfl rfl ?_ | refine qfhu.pu rfl rfl rfl rfl (fun w hS=>q8kw rfl) ?_
   first | refine qfhu.sk rfl rfl rfl rfl ?_ | refine qfhu.pu rfl rfl rfl rfl (fun w hS=>q8ba rfl (K24 w hS)) ?_
   first | refine qfhu.sk rfl rfl rfl rfl ?_ | refine qfhu.pu rfl rfl rfl rfl (fun w hS=>qozr rfl) ?_
   first | refine qfhu.sk rfl rfl rfl rfl ?_ | refine qfhu.pu rfl rfl rfl rfl (fun w hS=>qyhu rfl (qvpr elp)) ?_
   first | refine qfhu.sk rfl rfl rfl rfl ?_ | refine qfhu.pu rfl rfl rfl rfl (fun w hS=>rfl) ?_
   refine qfhu.pu rfl rfl rfl rfl (fun w hS=>rfl) ?_
   exact qfhu.All.fin rfl)
  | exact(by repeat (first | exact trivial | refine⟨.inr rfl,?_⟩ | refine⟨.inl rfl,?_⟩))
theorem q2uu{Q:Exit→Act→World→Prop}{S:World→Prop}{W:World}{B nc nf cc fc:Nat}{v k:Int}{ac af:Option Addr}{x1 x2 x4 x5 x6 x7 x8 x9 x10 x11 x12 x13 x14 x15 x16 x17 x18 x19 x20 x21 x22 x23 x24 x25 x26 x27 x28 x29 x30 x31 x32 x33 x34 x35 x36 x37 x38 x39 x40 x41 x42 x43 x44 x45 x46 x47 x48 x49 x50 x51 x52 x53 x54 x55 x56 x57 x58 x59 x60 x61 x62 x63 x64 x65 x66 x67 x68 x69 x70 x71 x72 x73 x74 x75 x76 x77 x78 x79 x80 x81 x82 x83 x84 x85 x86 x87 x88 x89 x90 x91 x92 x93 x94 x95 x96 x97 x98 x99 x100 x101 x102 x103 x104 x105 x106 x107 x108 x109 x110 x111 x112 x113:Value}
 (hS:S W)
 (hsum:IntKind.i64.wrap ((nf:Int)+(nc:Int))=((nf+nc:Nat):Int))
 (K0:∀w,S w→w.cell? ⟨B,0,none⟩=some (.int .i64 k))
 (K22:∀w,S w→w.cell? ⟨B,22,none⟩=some (.slice ac nc cc)) (K23:∀w,S w→w.cell? ⟨B,23,none⟩=some (.slice af nf fc))
 (fin:∀(r:Bool) (w:World),((nf+nc==0)&&!((k==11)&&(v==4)))=r→S w→∀x45 x46 x47 x48 x49 x50 x51 x52 x53 x54 x55 x56 x57 x58 x59 x60 x61,Q .normal ⟨#[(.int .i64 v),x1,x2,(.pointer (some ⟨B,0,none⟩)),x4,x5,x6,x7,x8,x9,x10,x11,x12,x13,x14,x15,x16,x17,x18,x19,x20,x21,x22,x23,x24,x25,x26,x27,x28,x29,x30,x31,x32,x33,x34,x35,x36,x37,x38,x39,x40,x41,x42,x43,x44,x45,x46,x47,x48,x49,x50,x51,x52,x53,x54,x55,x56,x57,x58,x59,x60,x61,(.bool r),x63,x64,x65,x66,x67,x68,x69,x70,x71,x72,x73,x74,x75,x76,x77,x78,x79,x80,x81,x82,x83,x84,x85,x86,x87,x88,x89,x90,x91,x92,x93,x94,x95,x96,x97,x98,x99,x100,x101,x102,x103,x104,x105,x106,x107,x108,x109,x110,x111,x112,x113],[]⟩ w) :
 (Code.region 3 (qfhu.opsAt 3 Tryz.f21.body) false).wp Tryz.prog Q ⟨#[(.int .i64 v),x1,x2,(.pointer (some ⟨B,0,none⟩)),x4,x5,x6,x7,x8,x9,x10,x11,x12,x13,x14,x15,x16,x17,x18,x19,x20,x21,x22,x23,x24,x25,x26,x27,x28,x29,x30,x31,x32,x33,x34,x35,x36,x37,x38,x39,x40,x41,x42,x43,x44,x45,x46,x47,x48,x49,x50,x51,x52,x53,x54,x55,x56,x57,x58,x59,x60,x61,x62,x63,x64,x65,x66,x67,x68,x69,x70,x71,x72,x73,x74,x75,x76,x77,x78,x79,x80,x81,x82,x83,x84,x85,x86,x87,x88,x89,x90,x91,x92,x93,x94,x95,x96,x97,x98,x99,x100,x101,x102,x103,x104,x105,x106,x107,x108,x109,x110,x111,x112,x113],[]⟩ W:=by
 obtain⟨em,eem⟩:∃d,(nf+nc==0)=d:=⟨_,rfl⟩
 obtain⟨k11,ek11⟩:∃d,(k==11)=d:=⟨_,rfl⟩
 obtain⟨v4,ev4⟩:∃d,(v==4)=d:=⟨_,rfl⟩
 rw[eem,ek11,ev4] at fin
 cases em
 case' false=>
  refine qq8x.wp_in (ds:=[45,46,47,48,49,50,51,52,53,54,55,56,57,58,59,60,61,62]) (B:=[(.int .i64 v),x1,x2,(.pointer (some ⟨B,0,none⟩)),x4,x5,x6,x7,x8,x9,x10,x11,x12,x13,x14,x15,x16,x17,x18,x19,x20,x21,x22,x23,x24,x25,x26,x27,x28,x29,x30,x31,x32,x33,x34,x35,x36,x37,x38,x39,x40,x41,x42,x43,x44,(.pointer (some ⟨B,23,none⟩)),(.slice af nf fc),(.int .i64 (nf:Nat)),(.pointer (some ⟨B,22,none⟩)),(.slice ac nc cc),(.int .i64 (nc:Nat)),(.int .i64 ((nf+nc:Nat):Int)),(.bool false),(.bool false),undef,undef,undef,undef,undef,undef,undef,undef,(.bool false),x63,x64,x65,x66,x67,x68,x69,x70,x71,x72,x73,x74,x75,x76,x77,x78,x79,x80,x81,x82,x83,x84,x85,x86,x87,x88,x89,x90,x91,x92,x93,x94,x95,x96,x97,x98,x99,x100,x101,x102,x103,x104,x105,x106,x107,x108,x109,x110,x111,x112,x113]) (D:=[]) (by kernel_rfl) (by kernel_rfl) ?_ hS ?_ (fun w hS=>fin false w rfl hS _ _ _ _ _ _ _ _ _ _ _ _ _ _ _ _ _)
 case' true=>
  cases k11
  case' false=>
   refine qq8x.wp_in (ds:=[45,46,47,48,49,50,51,52,53,54,55,56,57,58,59,60,61,62]) (B:=[(.int .i64 v),x1,x2,(.pointer (some ⟨B,0,none⟩)),x4,x5,x6,x7,x8,x9,x10,x11,x12,x13,x14,x15,x16,x17,x18,x19,x20,x21,x22,x23,x24,x25,x26,x27,x28,x29,x30,x31,x32,x33,x34,x35,x36,x37,x38,x39,x40,x41,x42,x43,x44,(.pointer (some ⟨B,23,none⟩)),(.slice af nf fc),(.int .i64 (nf:Nat)),(.pointer (some ⟨B,22,none⟩)),(.slice ac nc cc),(.int .i64 (nc:Nat)),(.int .i64 ((nf+nc:Nat):Int)),(.bool true),(.bool true),(.pointer (some ⟨B,0,none⟩)),(.int .i64 k),(.bool false),(.bool false),undef,undef,(.bool false),(.bool true),(.bool true),x63,x64,x65,x66,x67,x68,x69,x70,x71,x72,x73,x74,x75,x76,x77,x78,x79,x80,x81,x82,x83,x84,x85,x86,x87,x88,x89,x90,x91,x92,x93,x94,x95,x96,x97,x98,x99,x100,x101,x102,x103,x104,x105,x106,x107,x108,x109,x110,x111,x112,x113]) (D:=[]) (by kernel_rfl) (by kernel_rfl) ?_ hS ?_ (fun w hS=>fin true w rfl hS _ _ _ _ _ _ _ _ _ _ _ _ _ _ _ _ _)
  case' true=>
   cases v4
   case' false=>
    refine qq8x.wp_in (ds:=[45,46,47,48,49,50,51,52,53,54,55,56,57,58,59,60,61,62]) (B:=[(.int .i64 v),x1,x2,(.pointer (some ⟨B,0,none⟩)),x4,x5,x6,x7,x8,x9,x10,x11,x12,x13,x14,x15,x16,x17,x18,x19,x20,x21,x22,x23,x24,x25,x26,x27,x28,x29,x30,x31,x32,x33,x34,x35,x36,x37,x38,x39,x40,x41,x42,x43,x44,(.pointer (some ⟨B,23,none⟩)),(.slice af nf fc),(.int .i64 (nf:Nat)),(.pointer (some ⟨B,22,none⟩)),(.slice ac nc cc),(.int .i64 (nc:Nat)),(.int .i64 ((nf+nc:Nat):Int)),(.bool true),(.bool true),(.pointer (some ⟨B,0,none⟩)),(.int .i64 k),(.bool true),(.bool true),(.int .i64 v),(.bool false),(.bool false),(.bool true),(.bool true),x63,x64,x65,x66,x67,x68,x69,x70,x71,x72,x73,x74,x75,x76,x77,x78,x79,x80,x81,x82,x83,x84,x85,x86,x87,x88,x89,x90,x91,x92,x93,x94,x95,x96,x97,x98,x99,x100,x101,x102,x103,x104,x105,x106,x107,x108,x109,x110,x111,x112,x113]) (D:=[]) (by kernel_rfl) (by kernel_rfl) ?_ hS ?_ (fun w hS=>fin true w rfl hS _ _ _ _ _ _ _ _ _ _ _ _ _ _ _ _ _)
   case' true=>
    refine qq8x.wp_in (ds:=[45,46,47,48,49,50,51,52,53,54,55,56,57,58,59,60,61,62]) (B:=[(.int .i64 v),x1,x2,(.pointer (some ⟨B,0,none⟩)),x4,x5,x6,x7,x8,x9,x10,x11,x12,x13,x14,x15,x16,x17,x18,x19,x20,x21,x22,x23,x24,x25,x26,x27,x28,x29,x30,x31,x32,x33,x34,x35,x36,x37,x38,x39,x40,x41,x42,x43,x44,(.pointer (some ⟨B,23,none⟩)),(.slice af nf fc),(.int .i64 (nf:Nat)),(.pointer (some ⟨B,22,none⟩)),(.slice ac nc cc),(.int .i64 (nc:Nat)),(.int .i64 ((nf+nc:Nat):Int)),(.bool true),(.bool true),(.pointer (some ⟨B,0,none⟩)),(.int .i64 k),(.bool true),(.bool true),(.int .i64 v),(.bool true),(.bool true),(.bool false),(.bool false),x63,x64,x65,x66,x67,x68,x69,x70,x71,x72,x73,x74,x75,x76,x77,x78,x79,x80,x81,x82,x83,x84,x85,x86,x87,x88,x89,x90,x91,x92,x93,x94,x95,x96,x97,x98,x99,x100,x101,x102,x103,x104,x105,x106,x107,x108,x109,x110,x111,x112,x113]) (D:=[]) (by kernel_rfl) (by kernel_rfl) ?_ hS ?_ (fun w hS=>fin false w rfl hS _ _ _ _ _ _ _ _ _ _ _ _ _ _ _ _ _)
 all_goals first
  | (
   refine qfhu.pu rfl rfl rfl rfl (fun w hS=>qvcr rfl) ?_
   refine qfhu.pu rfl rfl rfl rfl (fun w hS=>qdeq rfl (K23 w hS)) ?_
   refine qfhu.pu rfl rfl rfl rfl (fun w hS=>q73a rfl) ?_
   refine qfhu.pu rfl rfl rfl rfl (fun w hS=>qxyk rfl) ?_
   refine qfhu.pu rfl rfl rfl rfl (fun w hS=>qag2 rfl (K22 w hS)) ?_
   refine qfhu.pu rfl rfl rfl rfl (fun w hS=>qki8 rfl) ?_
   refine qfhu.pu rfl rfl rfl rfl (fun w hS=>ql38 rfl rfl hsum) ?_
   refine qfhu.pu rfl rfl rfl rfl (fun w hS=>qkut rfl (qrsb eem)) ?_
   refine qfhu.pu rfl rfl rfl rfl (fun w hS=>rfl) ?_
   first | refine qfhu.sk rfl rfl rfl rfl ?_ | refine qfhu.pu rfl rfl rfl rfl (fun w hS=>qd7q rfl) ?_
   first | refine qfhu.sk rfl rfl rfl rfl ?_ | refine qfhu.pu rfl rfl rfl rfl (fun w hS=>qkcv rfl (K0 w hS)) ?_
   first | refine qfhu.sk rfl rfl rfl rfl ?_ | refine qfhu.pu rfl rfl rfl rfl (fun w hS=>qkut rfl ek11) ?_
   first | refine qfhu.sk rfl rfl rfl rfl ?_ | refine qfhu.pu rfl rfl rfl rfl (fun w hS=>rfl) ?_
   first | refine qfhu.sk rfl rfl rfl rfl ?_ | refine qfhu.pu rfl rfl rfl rfl (fun w hS=>rfl) ?_
   first | refine qfhu.sk rfl rfl rfl rfl ?_ | refine qfhu.pu rfl rfl rfl rfl (fun w hS=>qkut rfl ev4) ?_
   first | refine qfhu.sk rfl rfl rfl rfl ?_ | refine qfhu.pu rfl rfl rfl rfl (fun w hS=>rfl) ?_
   first | refine qfhu.sk rfl rfl rfl rfl ?_ | refine qfhu.pu rfl rfl rfl rfl (fun w hS=>qr7j rfl rfl) ?_
   refine qfhu.pu rfl rfl rfl rfl (fun w hS=>rfl) ?_
   exact qfhu.All.fin rfl)
  | exact(by repeat (first | exact trivial | refine⟨.inr rfl,?_⟩ | refine⟨.inl rfl,?_⟩))
theorem qyy1{Q:Exit→Act→World→Prop}{S:World→Prop}{W:World}{B g o j nf fc:Nat}{v k:Int}{f:Fi}{b nb:Bool}{x1 x2 x4 x5 x7 x8 x9 x10 x11 x12 x13 x14 x15 x16 x17 x18 x19 x20 x21 x22 x23 x24 x25 x26 x27 x28 x29 x30 x31 x32 x33 x34 x35 x36 x37 x38 x39 x40 x41 x42 x43 x44 x45 x46 x47 x48 x49 x50 x51 x52 x53 x54 x55 x56 x57 x58 x59 x60 x61 x62 x63 x64 x65 x66 x67 x68 x69 x70 x71 x72 x73 x74 x75 x76 x77 x78 x79 x80 x81 x82 x83 x84 x85 x86 x87 x88 x89 x90 x91 x92 x93 x94 x95 x96 x97 x98 x99 x100 x101 x102 x103 x104 x105 x106 x107 x108 x109 x110 x111 x112 x113:Value}
 (hS:S W.drew)
 (K0:∀w,S w→w.cell? ⟨B,0,none⟩=some (.int .i64 k))
 (K23:∀w,S w→w.cell? ⟨B,23,none⟩=some (.slice (some ⟨g,o,none⟩) nf fc)) (hj:(j:Int) < (nf:Int))
 (C0:∀w,S w→w.cell? ⟨g,o+j*5,none⟩=some (.string (bs f.topic))) (C1:∀w,S w→w.cell? ⟨g,o+j*5+1,none⟩=some (.int .i64 f.qos)) (C2:∀w,S w→w.cell? ⟨g,o+j*5+2,none⟩=some (.bool f.noLocal)) (C3:∀w,S w→w.cell? ⟨g,o+j*5+3,none⟩=some (.bool f.asPub)) (C4:∀w,S w→w.cell? ⟨g,o+j*5+4,none⟩=some (.int .i64 f.handling))
 (H0:∀w,S w→Calls Tryz.prog 69 #[.int .i64 v,.int .i64 k,.agg (fiC f)] w fun e w'=>e = .returned (.bool b)∧S w') (hb:(!b)=nb)
 (fin:∀w:World,S w→Q .normal ⟨#[(.int .i64 v),x1,x2,(.pointer (some ⟨B,0,none⟩)),x4,x5,(.int .i64 (j:Nat)),x7,x8,x9,x10,x11,x12,x13,x14,x15,x16,x17,x18,x19,x20,x21,x22,x23,x24,x25,x26,x27,x28,x29,x30,x31,x32,x33,x34,x35,x36,x37,x38,x39,x40,x41,x42,x43,x44,x45,x46,x47,x48,x49,x50,x51,x52,x53,x54,x55,x56,x57,x58,x59,x60,x61,x62,x63,x64,x65,x66,x67,x68,x69,x70,x71,x72,x73,x74,x75,x76,x77,x78,x79,x80,x81,x82,x83,x84,x85,x86,(.int .i64 v),(.pointer (some ⟨B,0,none⟩)),(.int .i64 k),(.pointer (some ⟨B,23,none⟩)),(.slice (some ⟨g,o,none⟩) nf fc),(.int .i64 (j:Nat)),(.pointer (some ⟨g,o+j*5,none⟩)),(.agg (fiC f)),(.bool b),(.bool nb),x97,x98,x99,x100,x101,x102,x103,x104,x105,x106,x107,x108,x109,x110,x111,x112,x113],[]⟩ w) :
 (Code.region 13 (qfhu.opsAt 13 Tryz.f21.body) true).wp Tryz.prog Q ⟨#[(.int .i64 v),x1,x2,(.pointer (some ⟨B,0,none⟩)),x4,x5,(.int .i64 (j:Nat)),x7,x8,x9,x10,x11,x12,x13,x14,x15,x16,x17,x18,x19,x20,x21,x22,x23,x24,x25,x26,x27,x28,x29,x30,x31,x32,x33,x34,x35,x36,x37,x38,x39,x40,x41,x42,x43,x44,x45,x46,x47,x48,x49,x50,x51,x52,x53,x54,x55,x56,x57,x58,x59,x60,x61,x62,x63,x64,x65,x66,x67,x68,x69,x70,x71,x72,x73,x74,x75,x76,x77,x78,x79,x80,x81,x82,x83,x84,x85,x86,x87,x88,x89,x90,x91,x92,x93,x94,x95,x96,x97,x98,x99,x100,x101,x102,x103,x104,x105,x106,x107,x108,x109,x110,x111,x112,x113],[]⟩ W:=by
 refine qfhu.wp_in (ds:=[87,88,89,90,91,92,93,94,95,96]) (B:=[(.int .i64 v),x1,x2,(.pointer (some ⟨B,0,none⟩)),x4,x5,(.int .i64 (j:Nat)),x7,x8,x9,x10,x11,x12,x13,x14,x15,x16,x17,x18,x19,x20,x21,x22,x23,x24,x25,x26,x27,x28,x29,x30,x31,x32,x33,x34,x35,x36,x37,x38,x39,x40,x41,x42,x43,x44,x45,x46,x47,x48,x49,x50,x51,x52,x53,x54,x55,x56,x57,x58,x59,x60,x61,x62,x63,x64,x65,x66,x67,x68,x69,x70,x71,x72,x73,x74,x75,x76,x77,x78,x79,x80,x81,x82,x83,x84,x85,x86,(.int .i64 v),(.pointer (some ⟨B,0,none⟩)),(.int .i64 k),(.pointer (some ⟨B,23,none⟩)),(.slice (some ⟨g,o,none⟩) nf fc),(.int .i64 (j:Nat)),(.pointer (some ⟨g,o+j*5,none⟩)),(.agg (fiC f)),(.bool b),(.bool nb),x97,x98,x99,x100,x101,x102,x103,x104,x105,x106,x107,x108,x109,x110,x111,x112,x113]) (D:=[]) (by kernel_rfl) (by kernel_rfl) (by kernel_rfl) ?_ hS ?_ fin
 ·exact(by repeat (first | exact trivial | refine⟨.inr rfl,?_⟩ | refine⟨.inl rfl,?_⟩))
 refine qfhu.pu rfl rfl rfl rfl (fun w hS=>rfl) ?_
 refine qfhu.pu rfl rfl rfl rfl (fun w hS=>qd7q rfl) ?_
 refine qfhu.pu rfl rfl rfl rfl (fun w hS=>qkcv rfl (K0 w hS)) ?_
 refine qfhu.pu rfl rfl rfl rfl (fun w hS=>qvcr rfl) ?_
 refine qfhu.pu rfl rfl rfl rfl (fun w hS=>qdeq rfl (K23 w hS)) ?_
 refine qfhu.pu rfl rfl rfl rfl (fun w hS=>rfl) ?_
 refine qfhu.pu rfl rfl rfl rfl (fun w hS=>qcjx rfl rfl hj) ?_
 refine qfhu.pu rfl rfl rfl rfl (fun w hS=>rf_at rfl (C0 w hS) (C1 w hS) (C2 w hS) (C3 w hS) (C4 w hS)) ?_
 refine qfhu.ca rfl rfl rfl rfl (fun w=>qpjl.enter3 Tryz.func69 rfl rfl rfl rfl) H0 ?_
 refine qfhu.pu rfl rfl rfl rfl (fun w hS=>qr7j rfl hb) ?_
 exact qfhu.All.fin rfl
theorem qdqq{Q:Exit→Act→World→Prop}{S:World→Prop}{W:World}{B g o j nc cc:Nat}{v k c:Int}{b nb:Bool}{x1 x2 x4 x5 x6 x8 x9 x10 x11 x12 x13 x14 x15 x16 x17 x18 x19 x20 x21 x22 x23 x24 x25 x26 x27 x28 x29 x30 x31 x32 x33 x34 x35 x36 x37 x38 x39 x40 x41 x42 x43 x44 x45 x46 x47 x48 x49 x50 x51 x52 x53 x54 x55 x56 x57 x58 x59 x60 x61 x62 x63 x64 x65 x66 x67 x68 x69 x70 x71 x72 x73 x74 x75 x76 x77 x78 x79 x80 x81 x82 x83 x84 x85 x86 x87 x88 x89 x90 x91 x92 x93 x94 x95 x96 x97 x98 x99 x100 x101 x102 x103 x104 x105 x106 x107 x108 x109 x110 x111 x112 x113:Value}
 (hS:S W.drew)
 (K0:∀w,S w→w.cell? ⟨B,0,none⟩=some (.int .i64 k))
 (K22:∀w,S w→w.cell? ⟨B,22,none⟩=some (.slice (some ⟨g,o,none⟩) nc cc)) (hj:(j:Int) < (nc:Int)) (C0:∀w,S w→w.cell? ⟨g,o+j,none⟩=some (.int .i64 c))
 (H0:∀w,S w→Calls Tryz.prog 70 #[.int .i64 v,.int .i64 k,.int .i64 c] w fun e w'=>e = .returned (.bool b)∧S w') (hb:(!b)=nb)
 (fin:∀w:World,S w→Q .normal ⟨#[(.int .i64 v),x1,x2,(.pointer (some ⟨B,0,none⟩)),x4,x5,x6,(.int .i64 (j:Nat)),x8,x9,x10,x11,x12,x13,x14,x15,x16,x17,x18,x19,x20,x21,x22,x23,x24,x25,x26,x27,x28,x29,x30,x31,x32,x33,x34,x35,x36,x37,x38,x39,x40,x41,x42,x43,x44,x45,x46,x47,x48,x49,x50,x51,x52,x53,x54,x55,x56,x57,x58,x59,x60,x61,x62,x63,x64,x65,x66,x67,x68,x69,x70,x71,x72,x73,x74,x75,x76,x77,x78,x79,x80,x81,x82,x83,x84,x85,x86,x87,x88,x89,x90,x91,x92,x93,x94,x95,x96,x97,x98,x99,x100,x101,x102,x103,(.int .i64 v),(.pointer (some ⟨B,0,none⟩)),(.int .i64 k),(.pointer (some ⟨B,22,none⟩)),(.slice (some ⟨g,o,none⟩) nc cc),(.int .i64 (j:Nat)),(.pointer (some ⟨g,o+j,none⟩)),(.int .i64 c),(.bool b),(.bool nb)],[]⟩ w) :
 (Code.region 18 (qfhu.opsAt 18 Tryz.f21.body) true).wp Tryz.prog Q ⟨#[(.int .i64 v),x1,x2,(.pointer (some ⟨B,0,none⟩)),x4,x5,x6,(.int .i64 (j:Nat)),x8,x9,x10,x11,x12,x13,x14,x15,x16,x17,x18,x19,x20,x21,x22,x23,x24,x25,x26,x27,x28,x29,x30,x31,x32,x33,x34,x35,x36,x37,x38,x39,x40,x41,x42,x43,x44,x45,x46,x47,x48,x49,x50,x51,x52,x53,x54,x55,x56,x57,x58,x59,x60,x61,x62,x63,x64,x65,x66,x67,x68,x69,x70,x71,x72,x73,x74,x75,x76,x77,x78,x79,x80,x81,x82,x83,x84,x85,x86,x87,x88,x89,x90,x91,x92,x93,x94,x95,x96,x97,x98,x99,x100,x101,x102,x103,x104,x105,x106,x107,x108,x109,x110,x111,x112,x113],[]⟩ W:=by
 refine qfhu.wp_in (ds:=[104,105,106,107,108,109,110,111,112,113]) (B:=[(.int .i64 v),x1,x2,(.pointer (some ⟨B,0,none⟩)),x4,x5,x6,(.int .i64 (j:Nat)),x8,x9,x10,x11,x12,x13,x14,x15,x16,x17,x18,x19,x20,x21,x22,x23,x24,x25,x26,x27,x28,x29,x30,x31,x32,x33,x34,x35,x36,x37,x38,x39,x40,x41,x42,x43,x44,x45,x46,x47,x48,x49,x50,x51,x52,x53,x54,x55,x56,x57,x58,x59,x60,x61,x62,x63,x64,x65,x66,x67,x68,x69,x70,x71,x72,x73,x74,x75,x76,x77,x78,x79,x80,x81,x82,x83,x84,x85,x86,x87,x88,x89,x90,x91,x92,x93,x94,x95,x96,x97,x98,x99,x100,x101,x102,x103,(.int .i64 v),(.pointer (some ⟨B,0,none⟩)),(.int .i64 k),(.pointer (some ⟨B,22,none⟩)),(.slice (some ⟨g,o,none⟩) nc cc),(.int .i64 (j:Nat)),(.pointer (some ⟨g,o+j,none⟩)),(.int .i64 c),(.bool b),(.bool nb)]) (D:=[]) (by kernel_rfl) (by kernel_rfl) (by kernel_rfl) ?_ hS ?_ fin
 ·exact(by repeat (first | exact trivial | refine⟨.inr rfl,?_⟩ | refine⟨.inl rfl,?_⟩))
 refine qfhu.pu rfl rfl rfl rfl (fun w hS=>rfl) ?_
 refine qfhu.pu rfl rfl rfl rfl (fun w hS=>qd7q rfl) ?_
 refine qfhu.pu rfl rfl rfl rfl (fun w hS=>qkcv rfl (K0 w hS)) ?_
 refine qfhu.pu rfl rfl rfl rfl (fun w hS=>qxyk rfl) ?_
 refine qfhu.pu rfl rfl rfl rfl (fun w hS=>qag2 rfl (K22 w hS)) ?_
 refine qfhu.pu rfl rfl rfl rfl (fun w hS=>rfl) ?_
 refine qfhu.pu rfl rfl rfl rfl (fun w hS=>qv2y rfl rfl hj) ?_
 refine qfhu.pu rfl rfl rfl rfl (fun w hS=>qkcv rfl (C0 w hS)) ?_
 refine qfhu.ca rfl rfl rfl rfl (fun w=>qpjl.enter3 Tryz.func70 rfl rfl rfl rfl) H0 ?_
 refine qfhu.pu rfl rfl rfl rfl (fun w hS=>qr7j rfl hb) ?_
 exact qfhu.All.fin rfl
section
variable{a:Act}{w:World}{d:Option Tmp}{p:String}{af:Array Edge}{gd:Option (Nat×Bool)}{x y z:Tmp}{r:TypeId}
theorem qm9u{n m:Int}{b:Bool}(hx:a.eval (.tmp x) = .int .i64 n)(hy:a.eval (.tmp y) = .int .i64 m)(hb:(n != m)=b) :
 (execOp a.eval {dst:=d,op := .binOp .neq 3 (.tmp x) (.tmp y) 3,type:=r,pos:=p,after:=af,guard:=gd}).run Tryz.prog w = .ok (.value (.bool b)) w:=by
 subst hb
 generalize a.eval=f at *
 go_simp
theorem qpah{n c:Int}{b:Bool}(hx:a.eval (.tmp x) = .int .i64 n)(hb:(n != c)=b) :
 (execOp a.eval {dst:=d,op := .binOp .neq 33 (.tmp x) (.const (.int .i64 c)) 33,type:=r,pos:=p,after:=af,guard:=gd}).run Tryz.prog w = .ok (.value (.bool b)) w:=by
 subst hb
 have hc:a.eval (.const (.int .i64 c)) = .int .i64 c:=rfl
 generalize a.eval=f at *
 go_simp
end
theorem qqxm{Q:Exit→Act→World→Prop}{S:World→Prop}{W:World}{B1 B2:Nat}{v k k1 k2 i i2 ep eq:Int}{C D:Array Value}{x1 x2 x3 x6 x7 x8 x9 x10 x11 x12 x13 x14 x15 x16 x17 x18 x19 x20 x21 x22 x23 x24 x25 x26 x27 x28 x29 x30 x31 x32 x33 x34 x35 x36 x37 x38 x39 x40 x41 x42 x43 x44 x45 x46 x47 x48 x49 x50 x51:Value}
 (hS:S W)
 (hC:C.size=25) (hD:D.size=25) (hk1:IntKind.i64.wrap (k+1)=k1) (KC:∀w,S w→w.heap[B1]? = some (.cells C 29 (0,0))) (LC:∀w,S w→w.heap[B2]? = some (.cells D 29 (0,0)))
 (K0:∀w,S w→w.cell? ⟨B1,0,none⟩=some (.int .i64 k)) (K4:∀w,S w→w.cell? ⟨B1,4,none⟩=some (.int .i64 i)) (L0:∀w,S w→w.cell? ⟨B2,0,none⟩=some (.int .i64 k2)) (L4:∀w,S w→w.cell? ⟨B2,4,none⟩=some (.int .i64 i2))
 (H0:∀w,S w→Calls Tryz.prog 63 #[.int .i64 k] w fun e w'=>e = .returned (.bool (qsfj k))∧S w')
 (H2:∀w,S w→Calls Tryz.prog 21 #[.int .i64 v,.agg C] w fun e w'=>e = .returned (.int .i64 ep)∧S w')
 (H3:∀w,S w→Calls Tryz.prog 21 #[.int .i64 v,.agg D] w fun e w'=>e = .returned (.int .i64 eq)∧S w')
 (fin:∀(r:Bool) (w:World),(!(qsfj k) || (k2 != k1) || (ep != 0) || (eq != 0) || (i != i2))=r→S w→∀x7 x8 x9 x10 x11 x12 x13 x14 x15 x16 x17 x18 x19 x20 x21 x22 x23 x24 x25 x26 x27 x28 x29 x30 x31 x32 x33 x34 x35 x36,Q .normal ⟨#[(.int .i64 v),x1,x2,x3,(.pointer (some ⟨B1,0,none⟩)),(.pointer (some ⟨B2,0,none⟩)),x6,x7,x8,x9,x10,x11,x12,x13,x14,x15,x16,x17,x18,x19,x20,x21,x22,x23,x24,x25,x26,x27,x28,x29,x30,x31,x32,x33,x34,x35,x36,(.bool r),x38,x39,x40,x41,x42,x43,x44,x45,x46,x47,x48,x49,x50,x51],[]⟩ w) :
 (Code.region 1 (qfhu.opsAt 1 Tryz.f22.body) false).wp Tryz.prog Q ⟨#[(.int .i64 v),x1,x2,x3,(.pointer (some ⟨B1,0,none⟩)),(.pointer (some ⟨B2,0,none⟩)),x6,x7,x8,x9,x10,x11,x12,x13,x14,x15,x16,x17,x18,x19,x20,x21,x22,x23,x24,x25,x26,x27,x28,x29,x30,x31,x32,x33,x34,x35,x36,x37,x38,x39,x40,x41,x42,x43,x44,x45,x46,x47,x48,x49,x50,x51],[]⟩ W:=by
 obtain⟨d0,ed0⟩:∃d,(qsfj k)=d:=⟨_,rfl⟩
 obtain⟨d1,ed1⟩:∃d,(k2 != k1)=d:=⟨_,rfl⟩
 obtain⟨d3,ed3⟩:∃d,(ep != 0)=d:=⟨_,rfl⟩
 obtain⟨d4,ed4⟩:∃d,(eq != 0)=d:=⟨_,rfl⟩
 obtain⟨d2,ed2⟩:∃d,(i != i2)=d:=⟨_,rfl⟩
 rw[ed0,ed1,ed3,ed4,ed2] at fin
 rw[ed0] at H0
 cases d0
 case' false=>
  refine qq8x.wp_in (ds:=[7,8,9,10,11,12,13,14,15,16,17,18,19,20,21,22,23,24,25,26,27,28,29,30,31,32,33,34,35,36,37]) (B:=[(.int .i64 v),x1,x2,x3,(.pointer (some ⟨B1,0,none⟩)),(.pointer (some ⟨B2,0,none⟩)),x6,(.pointer (some ⟨B1,0,none⟩)),(.int .i64 k),(.bool false),(.bool true),(.bool true),undef,undef,undef,undef,undef,undef,(.bool true),(.bool true),undef,undef,undef,undef,(.bool true),(.bool true),undef,undef,undef,undef,(.bool true),(.bool true),undef,undef,undef,undef,undef,(.bool true),x38,x39,x40,x41,x42,x43,x44,x45,x46,x47,x48,x49,x50,x51]) (D:=[]) (by kernel_rfl) (by kernel_rfl) ?_ hS ?_ (fun w hS=>fin true w rfl hS _ _ _ _ _ _ _ _ _ _ _ _ _ _ _ _ _ _ _ _ _ _ _ _ _ _ _ _ _ _)
 case' true=>
  cases d1
  case' false=>
   cases d3
   case' false=>
    cases d4
    case' false=>
     cases d2
     case' false=>
      refine qq8x.wp_in (ds:=[7,8,9,10,11,12,13,14,15,16,17,18,19,20,21,22,23,24,25,26,27,28,29,30,31,32,33,34,35,36,37]) (B:=[(.int .i64 v),x1,x2,x3,(.pointer (some ⟨B1,0,none⟩)),(.pointer (some ⟨B2,0,none⟩)),x6,(.pointer (some ⟨B1,0,none⟩)),(.int .i64 k),(.bool true),(.bool false),(.bool false),(.pointer (some ⟨B2,0,none⟩)),(.int .i64 k2),(.pointer (some ⟨B1,0,none⟩)),(.int .i64 k),(.int .i64 k1),(.bool false),(.bool false),(.bool false),(.int .i64 v),(.agg C),(.int .i64 ep),(.bool false),(.bool false),(.bool false),(.int .i64 v),(.agg D),(.int .i64 eq),(.bool false),(.bool false),(.bool false),(.pointer (some ⟨B1,4,none⟩)),(.int .i64 i),(.pointer (some ⟨B2,4,none⟩)),(.int .i64 i2),(.bool false),(.bool false),x38,x39,x40,x41,x42,x43,x44,x45,x46,x47,x48,x49,x50,x51]) (D:=[]) (by kernel_rfl) (by kernel_rfl) ?_ hS ?_ (fun w hS=>fin false w rfl hS _ _ _ _ _ _ _ _ _ _ _ _ _ _ _ _ _ _ _ _ _ _ _ _ _ _ _ _ _ _)
     case' true=>
      refine qq8x.wp_in (ds:=[7,8,9,10,11,12,13,14,15,16,17,18,19,20,21,22,23,24,25,26,27,28,29,30,31,32,33,34,35,36,37]) (B:=[(.int .i64 v),x1,x2,x3,(.pointer (some ⟨B1,0,none⟩)),(.pointer (some ⟨B2,0,none⟩)),x6,(.pointer (some ⟨B1,0,none⟩)),(.int .i64 k),(.bool true),(.bool false),(.bool false),(.pointer (some ⟨B2,0,none⟩)),(.int .i64 k2),(.pointer (some ⟨B1,0,none⟩)),(.int .i64 k),(.int .i64 k1),(.bool false),(.bool false),(.bool false),(.int .i64 v),(.agg C),(.int .i64 ep),(.bool false),(.bool false),(.bool false),(.int .i64 v),(.agg D),(.int .i64 eq),(.bool false),(.bool false),(.bool false),(.pointer (some ⟨B1,4,none⟩)),(.int .i64 i),(.pointer (some ⟨B2,4,none⟩)),(.int .i64 i2),(.bool true),(.bool true),x38,x39,x40,x41,x42,x43,x44,x45,x46,x47,x48,x49,x50,x51]) (D:=[]) (by kernel_rfl) (by kernel_rfl) ?_ hS ?_ (fun w hS=>fin true w rfl hS _ _ _ _ _ _ _ _ _ _ _ _ _ _ _ _ _ _ _ _ _ _ _ _ _ _ _ _ _ _)
    case' true=>
     refine qq8x.wp_in (ds:=[7,8,9,10,11,12,13,14,15,16,17,18,19,20,21,22,23,24,25,26,27,28,29,30,31,32,33,34,35,36,37]) (B:=[(.int .i64 v),x1,x2,x3,(.pointer (some ⟨B1,0,none⟩)),(.pointer (some ⟨B2,0,none⟩)),x6,(.pointer (some ⟨B1,0,none⟩)),(.int .i64 k),(.bool true),(.bool false),(.bool false),(.pointer (some ⟨B2,0,none⟩)),(.int .i64 k2),(.pointer (some ⟨B1,0,none⟩)),(.int .i64 k),(.int .i64 k1),(.bool false),(.bool false),(.bool false),(.int .i64 v),(.agg C),(.int .i64 ep),(.bool false),(.bool false),(.bool false),(.int .i64 v),(.agg D),(.int .i64 eq),(.bool true),(.bool true),(.bool true),undef,undef,undef,undef,undef,(.bool true),x38,x39,x40,x41,x42,x43,x44,x45,x46,x47,x48,x49,x50,x51]) (D:=[]) (by kernel_rfl) (by kernel_rfl) ?_ hS ?_ (fun w hS=>fin true w rfl hS _ _ _ _ _ _ _ _ _ _ _ _ _ _ _ _ _ _ _ _ _ _ _ _ _ _ _ _ _ _)
   case' true=>
    refine qq8x.wp_in (ds:=[7,8,9,10,11,12,13,14,15,16,17,18,19,20,21,22,23,24,25,26,27,28,29,30,31,32,33,34,35,36,37]) (B:=[(.int .i64 v),x1,x2,x3,(.pointer (some ⟨B1,0,none⟩)),(.pointer (some ⟨B2,0,none⟩)),x6,(.pointer (some ⟨B1,0,none⟩)),(.int .i64 k),(.bool true),(.bool false),(.bool false),(.pointer (some ⟨B2,0,none⟩)),(.int .i64 k2),(.pointer (some ⟨B1,0,none⟩)),(.int .i64 k),(.int .i64 k1),(.bool false),(.bool false),(.bool false),(.int .i64 v),(.agg C),(.int .i64 ep),(.bool true),(.bool true),(.bool true),undef,undef,undef,undef,(.bool true),(.bool true),undef,undef,undef,undef,undef,(.bool true),x38,x39,x40,x41,x42,x43,x44,x45,x46,x47,x48,x49,x50,x51]) (D:=[]) (by kernel_rfl) (by kernel_rfl) ?_ hS ?_ (fun w hS=>fin true w rfl hS _ _ _ _ _ _ _ _ _ _ _ _ _ _ _ _ _ _ _ _ _ _ _ _ _ _ _ _ _ _)
  case' true=>
   refine qq8x.wp_in (ds:=[7,8,9,10,11,12,13,14,15,16,17,18,19,20,21,22,23,24,25,26,27,28,29,30,31,32,33,34,35,36,37]) (B:=[(.int .i64 v),x1,x2,x3,(.pointer (some ⟨B1,0,none⟩)),(.pointer (some ⟨B2,0,none⟩)),x6,(.pointer (some ⟨B1,0,none⟩)),(.int .i64 k),(.bool true),(.bool false),(.bool false),(.pointer (some ⟨B2,0,none⟩)),(.int .i64 k2),(.pointer (some ⟨B1,0,none⟩)),(.int .i64 k),(.int .i64 k1),(.bool true),(.bool true),(.bool true),undef,undef,undef,undef,(.bool true),(.bool true),undef,undef,undef,undef,(.bool true),(.bool true),undef,undef,undef,undef,undef,(.bool true),x38,x39,x40,x41,x42,x43,x44,x45,x46,x47,x48,x49,x50,x51]) (D:=[]) (by kernel_rfl) (by kernel_rfl) ?_ hS ?_ (fun w hS=>fin true w rfl hS _ _ _ _ _ _ _ _ _ _ _ _ _ _ _ _ _ _ _ _ _ _ _ _ _ _ _ _ _ _)
 all_goals first
  | (
   refine qfhu.pu rfl rfl rfl rfl (fun w hS=>qd7q rfl) ?_
   refine qfhu.pu rfl rfl rfl rfl (fun w hS=>qkcv rfl (K0 w hS)) ?_
   refine qfhu.ca rfl rfl rfl rfl (fun w=>qpjl.enter1 Tryz.func63 rfl rfl) H0 ?_
   refine qfhu.pu rfl rfl rfl rfl (fun w hS=>qr7j rfl rfl) ?_
   refine qfhu.pu rfl rfl rfl rfl (fun w hS=>rfl) ?_
   first | refine qfhu.sk rfl rfl rfl rfl ?_ | refine qfhu.pu rfl rfl rfl rfl (fun w hS=>qd7q rfl) ?_
   first | refine qfhu.sk rfl rfl rfl rfl ?_ | refine qfhu.pu rfl rfl rfl rfl (fun w hS=>qkcv rfl (L0 w hS)) ?_
   first | refine qfhu.sk rfl rfl rfl rfl ?_ | refine qfhu.pu rfl rfl rfl rfl (fun w hS=>qd7q rfl) ?_
   first | refine qfhu.sk rfl rfl rfl rfl ?_ | refine qfhu.pu rfl rfl rfl rfl (fun w hS=>qkcv rfl (K0 w hS)) ?_
   first | refine qfhu.sk rfl rfl rfl rfl ?_ | refine qfhu.pu rfl rfl rfl rfl (fun w hS=>qlgr rfl hk1) ?_
   first | refine qfhu.sk rfl rfl rfl rfl ?_ | refine qfhu.pu rfl rfl rfl rfl (fun w hS=>qm9u rfl rfl ed1) ?_
   refine qfhu.pu rfl rfl rfl rfl (fun w hS=>rfl) ?_
   refine qfhu.pu rfl rfl rfl rfl (fun w hS=>rfl) ?_
   first | refine qfhu.sk rfl rfl rfl rfl ?_ | refine qfhu.pu rfl rfl rfl rfl (fun w hS=>rfl) ?_
   first | refine qfhu.sk rfl rfl rfl rfl ?_ | refine qfhu.pu rfl rfl rfl rfl (fun w hS=>qjuh rfl hC (KC w hS)) ?_
   first | refine qfhu.sk rfl rfl rfl rfl ?_ | refine qfhu.ca rfl rfl rfl rfl (fun w=>qpjl.enter2 Tryz.func21 rfl rfl rfl) H2 ?_
   first | refine qfhu.sk rfl rfl rfl rfl ?_ | refine qfhu.pu rfl rfl rfl rfl (fun w hS=>qpah rfl ed3) ?_
   refine qfhu.pu rfl rfl rfl rfl (fun w hS=>rfl) ?_
   refine qfhu.pu rfl rfl rfl rfl (fun w hS=>rfl) ?_
   first | refine qfhu.sk rfl rfl rfl rfl ?_ | refine qfhu.pu rfl rfl rfl rfl (fun w hS=>rfl) ?_
   first | refine qfhu.sk rfl rfl rfl rfl ?_ | refine qfhu.pu rfl rfl rfl rfl (fun w hS=>qjuh rfl hD (LC w hS)) ?_
   first | refine qfhu.sk rfl rfl rfl rfl ?_ | refine qfhu.ca rfl rfl rfl rfl (fun w=>qpjl.enter2 Tryz.func21 rfl rfl rfl) H3 ?_
   first | refine qfhu.sk rfl rfl rfl rfl ?_ | refine qfhu.pu rfl rfl rfl rfl (fun w hS=>qpah rfl ed4) ?_
   refine qfhu.pu rfl rfl rfl rfl (fun w hS=>rfl) ?_
   refine qfhu.pu rfl rfl rfl rfl (fun w hS=>rfl) ?_
   first | refine qfhu.sk rfl rfl rfl rfl ?_ | refine qfhu.pu rfl rfl rfl rfl (fun w hS=>q43k rfl) ?_
   first | refine qfhu.sk rfl rfl rfl rfl ?_ | refine qfhu.pu rfl rfl rfl rfl (fun w hS=>qkcv rfl (K4 w hS)) ?_
   first | refine qfhu.sk rfl rfl rfl rfl ?_ | refine qfhu.pu rfl rfl rfl rfl (fun w hS=>q43k rfl) ?_
   first | refine qfhu.sk rfl rfl rfl rfl ?_ | refine qfhu.pu rfl rfl rfl rfl (fun w hS=>qkcv rfl (L4 w hS)) ?_
   first | refine qfhu.sk rfl rfl rfl rfl ?_ | refine qfhu.pu rfl rfl rfl rfl (fun w hS=>qm9u rfl rfl ed2) ?_
   refine qfhu.pu rfl rfl rfl rfl (fun w hS=>rfl) ?_
   exact qfhu.All.fin rfl)
  | exact(by repeat (first | exact trivial | refine⟨.inr rfl,?_⟩ | refine⟨.inl rfl,?_⟩))
theorem qkpe{Q:Exit→Act→World→Prop}{S:World→Prop}{W:World}{B1 B2:Nat}{v k2:Int}{x1 x2 x3 x6 x7 x8 x9 x10 x11 x12 x13 x14 x15 x16 x17 x18 x19 x20 x21 x22 x23 x24 x25 x26 x27 x28 x29 x30 x31 x32 x33 x34 x35 x36 x37 x38 x39 x40 x41 x42 x43 x44 x45 x46 x47 x48 x49 x50 x51:Value}
 (hS:S W)
 (L0:∀w,S w→w.cell? ⟨B2,0,none⟩=some (.int .i64 k2))
 (fin:∀(r:Bool) (w:World),((k2==11)&&(v==4))=r→S w→∀x38 x39 x40 x41 x42 x43,Q .normal ⟨#[(.int .i64 v),x1,x2,x3,(.pointer (some ⟨B1,0,none⟩)),(.pointer (some ⟨B2,0,none⟩)),x6,x7,x8,x9,x10,x11,x12,x13,x14,x15,x16,x17,x18,x19,x20,x21,x22,x23,x24,x25,x26,x27,x28,x29,x30,x31,x32,x33,x34,x35,x36,x37,x38,x39,x40,x41,x42,x43,(.bool r),x45,x46,x47,x48,x49,x50,x51],[]⟩ w) :
 (Code.region 3 (qfhu.opsAt 3 Tryz.f22.body) false).wp Tryz.prog Q ⟨#[(.int .i64 v),x1,x2,x3,(.pointer (some ⟨B1,0,none⟩)),(.pointer (some ⟨B2,0,none⟩)),x6,x7,x8,x9,x10,x11,x12,x13,x14,x15,x16,x17,x18,x19,x20,x21,x22,x23,x24,x25,x26,x27,x28,x29,x30,x31,x32,x33,x34,x35,x36,x37,x38,x39,x40,x41,x42,x43,x44,x45,x46,x47,x48,x49,x50,x51],[]⟩ W:=by
 obtain⟨e1,ee1⟩:∃d,(k2==11)=d:=⟨_,rfl⟩
 obtain⟨e2,ee2⟩:∃d,(v==4)=d:=⟨_,rfl⟩
 rw[ee1,ee2] at fin
 cases e1
 case' false=>
  refine qq8x.wp_in (ds:=[38,39,40,41,42,43,44]) (B:=[(.int .i64 v),x1,x2,x3,(.pointer (some ⟨B1,0,none⟩)),(.pointer (some ⟨B2,0,none⟩)),x6,x7,x8,x9,x10,x11,x12,x13,x14,x15,x16,x17,x18,x19,x20,x21,x22,x23,x24,x25,x26,x27,x28,x29,x30,x31,x32,x33,x34,x35,x36,x37,(.pointer (some ⟨B2,0,none⟩)),(.int .i64 k2),(.bool false),(.bool false),undef,undef,(.bool false),x45,x46,x47,x48,x49,x50,x51]) (D:=[]) (by kernel_rfl) (by kernel_rfl) ?_ hS ?_ (fun w hS=>fin false w rfl hS _ _ _ _ _ _)
 case' true=>
  cases e2
  case' false=>
   refine qq8x.wp_in (ds:=[38,39,40,41,42,43,44]) (B:=[(.int .i64 v),x1,x2,x3,(.pointer (some ⟨B1,0,none⟩)),(.pointer (some ⟨B2,0,none⟩)),x6,x7,x8,x9,x10,x11,x12,x13,x14,x15,x16,x17,x18,x19,x20,x21,x22,x23,x24,x25,x26,x27,x28,x29,x30,x31,x32,x33,x34,x35,x36,x37,(.pointer (some ⟨B2,0,none⟩)),(.int .i64 k2),(.bool true),(.bool true),(.int .i64 v),(.bool false),(.bool false),x45,x46,x47,x48,x49,x50,x51]) (D:=[]) (by kernel_rfl) (by kernel_rfl) ?_ hS ?_ (fun w hS=>fin false w rfl hS _ _ _ _ _ _)
  case' true=>
   refine qq8x.wp_in (ds:=[38,39,40,41,42,43,44]) (B:=[(.int .i64 v),x1,x2,x3,(.pointer (some ⟨B1,0,none⟩)),(.pointer (some ⟨B2,0,none⟩)),x6,x7,x8,x9,x10,x11,x12,x13,x14,x15,x16,x17,x18,x19,x20,x21,x22,x23,x24,x25,x26,x27,x28,x29,x30,x31,x32,x33,x34,x35,x36,x37,(.pointer (some ⟨B2,0,none⟩)),(.int .i64 k2),(.bool true),(.bool true),(.int .i64 v),(.bool true),(.bool true),x45,x46,x47,x48,x49,x50,x51]) (D:=[]) (by kernel_rfl) (by kernel_rfl) ?_ hS ?_ (fun w hS=>fin true w rfl hS _ _ _ _ _ _)
 all_goals first
  | (
   refine qfhu.pu rfl rfl rfl rfl (fun w hS=>qd7q rfl) ?_
   refine qfhu.pu rfl rfl rfl rfl (fun w hS=>qkcv rfl (L0 w hS)) ?_
   refine qfhu.pu rfl rfl rfl rfl (fun w hS=>qkut rfl ee1) ?_
   refine qfhu.pu rfl rfl rfl rfl (fun w hS=>rfl) ?_
   first | refine qfhu.sk rfl rfl rfl rfl ?_ | refine qfhu.pu rfl rfl rfl rfl (fun w hS=>rfl) ?_
   first | refine qfhu.sk rfl rfl rfl rfl ?_ | refine qfhu.pu rfl rfl rfl rfl (fun w hS=>qkut rfl ee2) ?_
   refine qfhu.pu rfl rfl rfl rfl (fun w hS=>rfl) ?_
   exact qfhu.All.fin rfl)
  | exact(by repeat (first | exact trivial | refine⟨.inr rfl,?_⟩ | refine⟨.inl rfl,?_⟩))
theorem q7so{Q:Exit→Act→World→Prop}{S:World→Prop}{W:World}{B1 B2 nc nf cc fc:Nat}{v:Int}{lb:Bool}{ac af:Option Addr}{x1 x2 x3 x6 x7 x8 x9 x10 x11 x12 x13 x14 x15 x16 x17 x18 x19 x20 x21 x22 x23 x24 x25 x26 x27 x28 x29 x30 x31 x32 x33 x34 x35 x36 x37 x38 x39 x40 x41 x42 x43 x44 x45 x46 x47 x48 x49 x50 x51:Value}
 (hS:S W)
 (hlb:((nc:Int)==(nf:Int))=lb) (K23:∀w,S w→w.cell? ⟨B1,23,none⟩=some (.slice af nf fc)) (L22:∀w,S w→w.cell? ⟨B2,22,none⟩=some (.slice ac nc cc))
 (fin:∀w:World,S w→Q .normal ⟨#[(.int .i64 v),x1,x2,x3,(.pointer (some ⟨B1,0,none⟩)),(.pointer (some ⟨B2,0,none⟩)),(.bool lb),x7,x8,x9,x10,x11,x12,x13,x14,x15,x16,x17,x18,x19,x20,x21,x22,x23,x24,x25,x26,x27,x28,x29,x30,x31,x32,x33,x34,x35,x36,x37,x38,x39,x40,x41,x42,x43,x44,(.pointer (some ⟨B2,22,none⟩)),(.slice ac nc cc),(.int .i64 (nc:Nat)),(.pointer (some ⟨B1,23,none⟩)),(.slice af nf fc),(.int .i64 (nf:Nat)),(.bool lb)],[]⟩ w) :
 (Code.region 5 (qfhu.opsAt 5 Tryz.f22.body) false).wp Tryz.prog Q ⟨#[(.int .i64 v),x1,x2,x3,(.pointer (some ⟨B1,0,none⟩)),(.pointer (some ⟨B2,0,none⟩)),x6,x7,x8,x9,x10,x11,x12,x13,x14,x15,x16,x17,x18,x19,x20,x21,x22,x23,x24,x25,x26,x27,x28,x29,x30,x31,x32,x33,x34,x35,x36,x37,x38,x39,x40,x41,x42,x43,x44,x45,x46,x47,x48,x49,x50,x51],[]⟩ W:=by
 refine qq8x.wp_in (ds:=[45,46,47,48,49,50,51,6]) (B:=[(.int .i64 v),x1,x2,x3,(.pointer (some ⟨B1,0,none⟩)),(.pointer (some ⟨B2,0,none⟩)),(.bool lb),x7,x8,x9,x10,x11,x12,x13,x14,x15,x16,x17,x18,x19,x20,x21,x22,x23,x24,x25,x26,x27,x28,x29,x30,x31,x32,x33,x34,x35,x36,x37,x38,x39,x40,x41,x42,x43,x44,(.pointer (some ⟨B2,22,none⟩)),(.slice ac nc cc),(.int .i64 (nc:Nat)),(.pointer (some ⟨B1,23,none⟩)),(.slice af nf fc),(.int .i64 (nf:Nat)),(.bool lb)]) (D:=[]) (by kernel_rfl) (by kernel_rfl) ?_ hS ?_ fin
 ·exact(by repeat (first | exact trivial | refine⟨.inr rfl,?_⟩ | refine⟨.inl rfl,?_⟩))
 refine qfhu.pu rfl rfl rfl rfl (fun w hS=>qxyk rfl) ?_
 refine qfhu.pu rfl rfl rfl rfl (fun w hS=>qag2 rfl (L22 w hS)) ?_
 refine qfhu.pu rfl rfl rfl rfl (fun w hS=>qki8 rfl) ?_
 refine qfhu.pu rfl rfl rfl rfl (fun w hS=>qvcr rfl) ?_
 refine qfhu.pu rfl rfl rfl rfl (fun w hS=>qdeq rfl (K23 w hS)) ?_
 refine qfhu.pu rfl rfl rfl rfl (fun w hS=>q73a rfl) ?_
 refine qfhu.pu rfl rfl rfl rfl (fun w hS=>qc5j rfl rfl hlb) ?_
 refine qfhu.pu rfl rfl rfl rfl (fun w hS=>rfl) ?_
 exact qfhu.All.fin rfl
section
variable{a:Act}{w:World}{d:Option Tmp}{p:String}{af:Array Edge}{gd:Option (Nat×Bool)}{x y z:Tmp}{r:TypeId}
theorem qb7v{v:ByteArray}(hx:a.eval (.tmp x) = .string v)(hy:a.eval (.tmp y) = .string v) :
 (execOp a.eval {dst:=d,op := .binOp .eql 9 (.tmp x) (.tmp y) 9,type:=r,pos:=p,after:=af,guard:=gd}).run Tryz.prog w = .ok (.value (.bool true)) w:=by
 generalize a.eval=f at *
 go_simp
theorem q73w{v:Int}(hx:a.eval (.tmp x) = .int .i64 v)(hy:a.eval (.tmp y) = .int .i64 v) :
 (execOp a.eval {dst:=d,op := .binOp .eql 33 (.tmp x) (.tmp y) 33,type:=r,pos:=p,after:=af,guard:=gd}).run Tryz.prog w = .ok (.value (.bool true)) w:=by
 generalize a.eval=f at *
 go_simp
theorem q21d{v:Bool}(hx:a.eval (.tmp x) = .bool v)(hy:a.eval (.tmp y) = .bool v) :
 (execOp a.eval {dst:=d,op := .binOp .eql 4 (.tmp x) (.tmp y) 4,type:=r,pos:=p,after:=af,guard:=gd}).run Tryz.prog w = .ok (.value (.bool true)) w:=by
 generalize a.eval=f at *
 cases v<;>go_simp
end
theorem qg8r{Q:Exit→Act→World→Prop}{S:World→Prop}{W:World}{b g o j nf fc:Nat}{m:Int}{f:Fi}{x0 x1 x2 x3 x4 x5 x7 x8 x9 x10 x12 x13 x14 x15 x16 x17 x18 x19 x20 x21 x22 x23 x24 x25 x26 x27 x28 x29 x30 x31 x32 x33 x34 x35 x36 x37 x38 x39 x40 x41 x42 x43 x44 x45 x46 x47 x48 x49 x50 x51 x52 x53 x54 x55 x56 x57 x58 x59 x60 x61 x62 x63 x64 x65 x66 x67 x68 x69 x70 x71 x72 x73 x74 x75 x76 x77 x78 x79 x80 x81 x82 x83 x84 x85 x86 x87 x88 x89 x90 x91 x92 x93 x94 x95 x96 x97 x98 x99 x100 x101 x102 x103 x104 x105 x106 x107 x108 x109 x110 x111 x112 x113 x114 x115 x116 x117 x118 x119:Value}
 (hS:S W.drew)
 (K23:∀w,S w→w.cell? ⟨b,23,none⟩=some (.slice (some ⟨g,o,none⟩) nf fc)) (hj:(j:Int) < (nf:Int))
 (C0:∀w,S w→w.cell? ⟨g,o+j*5,none⟩=some (.string (bs f.topic))) (C1:∀w,S w→w.cell? ⟨g,o+j*5+1,none⟩=some (.int .i64 f.qos)) (C2:∀w,S w→w.cell? ⟨g,o+j*5+2,none⟩=some (.bool f.noLocal)) (C3:∀w,S w→w.cell? ⟨g,o+j*5+3,none⟩=some (.bool f.asPub)) (C4:∀w,S w→w.cell? ⟨g,o+j*5+4,none⟩=some (.int .i64 f.handling))
 (H0:∀w,S w→Calls Tryz.prog 13 #[.agg (fiC f)] w fun e w'=>e = .returned (.int .i64 m)∧S w')
 (H1:∀w,S w→Calls Tryz.prog 17 #[.agg (fiC f)] w fun e w'=>e = .returned (.int .i64 m)∧S w')
 (fin:∀w:World,S w→Q .normal ⟨#[x0,x1,x2,x3,x4,x5,(.pointer (some ⟨b,0,none⟩)),x7,x8,x9,x10,(.int .i64 (j:Nat)),x12,x13,x14,x15,x16,x17,x18,x19,x20,x21,x22,x23,x24,x25,x26,x27,x28,x29,x30,x31,x32,x33,x34,x35,x36,x37,x38,x39,x40,x41,(.pointer (some ⟨b,23,none⟩)),(.slice (some ⟨g,o,none⟩) nf fc),(.int .i64 (j:Nat)),(.pointer (some ⟨g,o+j*5,none⟩)),(.agg (fiC f)),(.int .i64 m),(.pointer (some ⟨b,23,none⟩)),(.slice (some ⟨g,o,none⟩) nf fc),(.int .i64 (j:Nat)),(.pointer (some ⟨g,o+j*5,none⟩)),(.agg (fiC f)),(.int .i64 m),(.bool false),x55,x56,x57,x58,x59,x60,x61,x62,x63,x64,x65,x66,x67,x68,x69,x70,x71,x72,x73,x74,x75,x76,x77,x78,x79,x80,x81,x82,x83,x84,x85,x86,x87,x88,x89,x90,x91,x92,x93,x94,x95,x96,x97,x98,x99,x100,x101,x102,x103,x104,x105,x106,x107,x108,x109,x110,x111,x112,x113,x114,x115,x116,x117,x118,x119],[]⟩ w) :
 (Code.region 8 (qfhu.opsAt 8 Tryz.f4.body) true).wp Tryz.prog Q ⟨#[x0,x1,x2,x3,x4,x5,(.pointer (some ⟨b,0,none⟩)),x7,x8,x9,x10,(.int .i64 (j:Nat)),x12,x13,x14,x15,x16,x17,x18,x19,x20,x21,x22,x23,x24,x25,x26,x27,x28,x29,x30,x31,x32,x33,x34,x35,x36,x37,x38,x39,x40,x41,x42,x43,x44,x45,x46,x47,x48,x49,x50,x51,x52,x53,x54,x55,x56,x57,x58,x59,x60,x61,x62,x63,x64,x65,x66,x67,x68,x69,x70,x71,x72,x73,x74,x75,x76,x77,x78,x79,x80,x81,x82,x83,x84,x85,x86,x87,x88,x89,x90,x91,x92,x93,x94,x95,x96,x97,x98,x99,x100,x101,x102,x103,x104,x105,x106,x107,x108,x109,x110,x111,x112,x113,x114,x115,x116,x117,x118,x119],[]⟩ W:=by
 refine qfhu.wp_in (ds:=[42,43,44,45,46,47,48,49,50,51,52,53,54]) (D:=[]) (by kernel_rfl) (by kernel_rfl) (by kernel_rfl) ?_ hS ?_ fin
 ·exact(by repeat (first | exact trivial | refine⟨.inr rfl,?_⟩ | refine⟨.inl rfl,?_⟩))
 refine qfhu.pu rfl rfl rfl rfl (fun w hS=>qvcr rfl) ?_
 refine qfhu.pu rfl rfl rfl rfl (fun w hS=>qdeq rfl (K23 w hS)) ?_
 refine qfhu.pu rfl rfl rfl rfl (fun w hS=>rfl) ?_
 refine qfhu.pu rfl rfl rfl rfl (fun w hS=>qcjx rfl rfl hj) ?_
 refine qfhu.pu rfl rfl rfl rfl (fun w hS=>rf_at rfl (C0 w hS) (C1 w hS) (C2 w hS) (C3 w hS) (C4 w hS)) ?_
 refine qfhu.ca rfl rfl rfl rfl (fun w=>qpjl.enter1 Tryz.func13 rfl rfl) H0 ?_
 refine qfhu.pu rfl rfl rfl rfl (fun w hS=>qvcr rfl) ?_
 refine qfhu.pu rfl rfl rfl rfl (fun w hS=>qdeq rfl (K23 w hS)) ?_
 refine qfhu.pu rfl rfl rfl rfl (fun w hS=>rfl) ?_
 refine qfhu.pu rfl rfl rfl rfl (fun w hS=>qcjx rfl rfl hj) ?_
 refine qfhu.pu rfl rfl rfl rfl (fun w hS=>rf_at rfl (C0 w hS) (C1 w hS) (C2 w hS) (C3 w hS) (C4 w hS)) ?_
 refine qfhu.ca rfl rfl rfl rfl (fun w=>qpjl.enter1 Tryz.func17 rfl rfl) H1 ?_
 refine qfhu.pu rfl rfl rfl rfl (fun w hS=>qm9u rfl rfl (bne_self_eq_false _)) ?_
 exact qfhu.All.fin rfl
theorem qhf4{Q:Exit→Act→World→Prop}{S:World→Prop}{W:World}{b b0 b1 b2:Nat}{v x y z:Int}{t:Bool}{A:ByteArray}{C D E G:Array Value}{x1 x2 x3 x4 x5 x8 x9 x10 x11 x20 x21 x22 x23 x24 x25 x26 x27 x28 x29 x30 x31 x32 x33 x34 x35 x36 x37 x38 x39 x40 x41 x42 x43 x44 x45 x46 x47 x48 x49 x50 x51 x52 x53 x54 x55 x56 x57 x58 x59 x60 x61 x62 x63 x64 x65 x66 x67 x68 x69 x70 x71 x72 x73 x74 x75 x76 x77 x78 x79 x80 x81 x82 x83 x84 x85 x86 x87 x88 x89 x90 x91 x92 x93 x94 x95 x96 x97 x98 x99 x100 x101 x102 x103 x104 x105 x106 x107 x108 x109 x110 x111 x112 x113 x114 x115 x116 x117 x118 x119:Value}
 (hS:S W.drew) (hC:C.size=25) (hD:D.size=25) (hE:E.size=25) (hG:G.size=25) (KC:∀w,S w→w.heap[b1]? = some (.cells C 29 (0,0))) (KD:∀w,S w→w.heap[b2]? = some (.cells D 29 (0,0))) (KE:∀w,S w→w.heap[b]? = some (.cells E 29 (0,0))) (KG:∀w,S w→w.heap[b0]? = some (.cells G 29 (0,0)))
 (H0:∀w,S w→Calls Tryz.prog 12 #[(.agg C),(.agg D)] w fun e w'=>e = .returned (.bool true)∧S w')
 (H1:∀w,S w→Calls Tryz.prog 15 #[(.int .i64 v),(.agg E)] w fun e w'=>e = .returned (.int .i64 z)∧S w')
 (H2:∀w,S w→Calls Tryz.prog 21 #[(.int .i64 v),(.agg E)] w fun e w'=>e = .returned (.int .i64 z)∧S w')
 (H3:∀w,S w→Calls Tryz.prog 14 #[(.int .i64 v),(.agg E),(.agg G)] w fun e w'=>e = .returned (.bool t)∧S w')
 (H4:∀w,S w→Calls Tryz.prog 22 #[(.int .i64 v),(.agg E),(.agg G)] w fun e w'=>e = .returned (.bool t)∧S w')
 (fin:∀w,S w→Q .normal ⟨#[(.int .i64 v),x1,x2,x3,x4,x5,(.pointer (some ⟨b,0,none⟩)),(.pointer (some ⟨b0,0,none⟩)),x8,x9,(.bool true),x11,(.string A),(.int .i64 x),(.string A),(.int .i64 x),(.pointer (some ⟨b1,0,none⟩)),(.int .i64 y),(.pointer (some ⟨b2,0,none⟩)),(.int .i64 y),x20,x21,x22,x23,x24,x25,x26,x27,x28,x29,x30,x31,x32,x33,x34,x35,x36,x37,x38,x39,x40,x41,x42,x43,x44,x45,x46,x47,x48,x49,x50,x51,x52,x53,x54,x55,x56,x57,x58,x59,x60,x61,x62,x63,x64,x65,x66,x67,x68,x69,x70,x71,x72,x73,x74,x75,x76,x77,x78,x79,x80,x81,(.string A),(.string A),(.bool true),(.bool true),(.int .i64 x),(.int .i64 x),(.bool true),(.bool true),(.bool true),(.agg C),(.agg D),(.bool true),(.bool true),(.bool true),(.int .i64 y),(.int .i64 y),(.bool true),(.bool true),(.bool true),(.int .i64 v),(.agg E),(.int .i64 z),(.int .i64 v),(.agg E),(.int .i64 z),(.bool true),(.bool true),(.bool true),(.int .i64 v),(.agg E),(.agg G),(.bool t),(.int .i64 v),(.agg E),(.agg G),(.bool t),(.bool true),(.bool true)],[]⟩ w) :
 (Code.region 14 (qfhu.opsAt 14 Tryz.f4.body) true).wp Tryz.prog Q ⟨#[(.int .i64 v),x1,x2,x3,x4,x5,(.pointer (some ⟨b,0,none⟩)),(.pointer (some ⟨b0,0,none⟩)),x8,x9,x10,x11,(.string A),(.int .i64 x),(.string A),(.int .i64 x),(.pointer (some ⟨b1,0,none⟩)),(.int .i64 y),(.pointer (some ⟨b2,0,none⟩)),(.int .i64 y),x20,x21,x22,x23,x24,x25,x26,x27,x28,x29,x30,x31,x32,x33,x34,x35,x36,x37,x38,x39,x40,x41,x42,x43,x44,x45,x46,x47,x48,x49,x50,x51,x52,x53,x54,x55,x56,x57,x58,x59,x60,x61,x62,x63,x64,x65,x66,x67,x68,x69,x70,x71,x72,x73,x74,x75,x76,x77,x78,x79,x80,x81,x82,x83,x84,x85,x86,x87,x88,x89,x90,x91,x92,x93,x94,x95,x96,x97,x98,x99,x100,x101,x102,x103,x104,x105,x106,x107,x108,x109,x110,x111,x112,x113,x114,x115,x116,x117,x118,x119],[]⟩ W:=by
 refine qfhu.wp_in (ds:=[82,83,84,85,86,87,88,89,90,91,92,93,94,95,96,97,98,99,100,101,102,103,104,105,106,107,108,109,110,111,112,113,114,115,116,117,118,119,10]) (D:=[]) (by kernel_rfl) (by kernel_rfl) (by kernel_rfl) ?_ hS ?_ (fun w hS=>fin w hS)
 ·exact(by repeat (first | exact trivial | refine⟨.inr rfl,?_⟩ | refine⟨.inl rfl,?_⟩))
 refine qfhu.pu rfl rfl rfl rfl (fun w hS=>rfl) ?_
 refine qfhu.pu rfl rfl rfl rfl (fun w hS=>rfl) ?_
 refine qfhu.pu rfl rfl rfl rfl (fun w hS=>qb7v rfl rfl) ?_
 iterate 3 refine qfhu.pu rfl rfl rfl rfl (fun w hS=>rfl) ?_
 refine qfhu.pu rfl rfl rfl rfl (fun w hS=>q73w rfl rfl) ?_
 refine qfhu.pu rfl rfl rfl rfl (fun w hS=>rfl) ?_
 refine qfhu.pu rfl rfl rfl rfl (fun w hS=>rfl) ?_
 refine qfhu.pu rfl rfl rfl rfl (fun w hS=>qjuh rfl hC (KC w hS)) ?_
 refine qfhu.pu rfl rfl rfl rfl (fun w hS=>qjuh rfl hD (KD w hS)) ?_
 refine qfhu.ca rfl rfl rfl rfl (fun w=>qpjl.enter2 Tryz.func12 rfl rfl rfl) H0 ?_
 iterate 4 refine qfhu.pu rfl rfl rfl rfl (fun w hS=>rfl) ?_
 refine qfhu.pu rfl rfl rfl rfl (fun w hS=>q73w rfl rfl) ?_
 iterate 3 refine qfhu.pu rfl rfl rfl rfl (fun w hS=>rfl) ?_
 refine qfhu.pu rfl rfl rfl rfl (fun w hS=>qjuh rfl hE (KE w hS)) ?_
 refine qfhu.ca rfl rfl rfl rfl (fun w=>qpjl.enter2 Tryz.func15 rfl rfl rfl) H1 ?_
 refine qfhu.pu rfl rfl rfl rfl (fun w hS=>rfl) ?_
 refine qfhu.pu rfl rfl rfl rfl (fun w hS=>qjuh rfl hE (KE w hS)) ?_
 refine qfhu.ca rfl rfl rfl rfl (fun w=>qpjl.enter2 Tryz.func21 rfl rfl rfl) H2 ?_
 refine qfhu.pu rfl rfl rfl rfl (fun w hS=>q73w rfl rfl) ?_
 iterate 3 refine qfhu.pu rfl rfl rfl rfl (fun w hS=>rfl) ?_
 refine qfhu.pu rfl rfl rfl rfl (fun w hS=>qjuh rfl hE (KE w hS)) ?_
 refine qfhu.pu rfl rfl rfl rfl (fun w hS=>qjuh rfl hG (KG w hS)) ?_
 refine qfhu.ca rfl rfl rfl rfl (fun w=>qpjl.enter3 Tryz.func14 rfl rfl rfl rfl) H3 ?_
 refine qfhu.pu rfl rfl rfl rfl (fun w hS=>rfl) ?_
 refine qfhu.pu rfl rfl rfl rfl (fun w hS=>qjuh rfl hE (KE w hS)) ?_
 refine qfhu.pu rfl rfl rfl rfl (fun w hS=>qjuh rfl hG (KG w hS)) ?_
 refine qfhu.ca rfl rfl rfl rfl (fun w=>qpjl.enter3 Tryz.func22 rfl rfl rfl rfl) H4 ?_
 refine qfhu.pu rfl rfl rfl rfl (fun w hS=>q21d rfl rfl) ?_
 refine qfhu.pu rfl rfl rfl rfl (fun w hS=>rfl) ?_
 refine qfhu.pu rfl rfl rfl rfl (fun w hS=>rfl) ?_
 exact qfhu.All.fin rfl
section
variable{a:Act}{w:World}{d:Option Tmp}{p:String}{af:Array Edge}{gd:Option (Nat×Bool)}{x y z:Tmp}{r:TypeId}
theorem qd60l{t:List UInt8}(hx:a.eval (.tmp x) = .string (bs t)) :
 (execOp a.eval {dst:=d,op := .build 32 #[(0,.tmp x)],type:=32,pos:=p,after:=af,guard:=gd}).run Tryz.prog w = .ok (.value (.agg (fiC ⟨t,0,false,false,0⟩))) w:=by
 generalize a.eval=f at *
 go_simp
 rfl
theorem qt1d{n m:Int}(hx:a.eval (.tmp x) = .int .i64 n)(hm:IntKind.i64.wrap (16*n)=m) :
 (execOp a.eval {dst:=d,op := .binOp .mul 3 (.const (.int .i64 16)) (.tmp x) 3,type:=r,pos:=p,after:=af,guard:=gd}).run Tryz.prog w = .ok (.value (.int .i64 m)) w:=by
 subst hm
 have hc:a.eval (.const (.int .i64 16)) = .int .i64 16:=rfl
 generalize a.eval=f at *
 go_simp
theorem qzpn{n k m:Int}(hx:a.eval (.tmp x) = .int .i64 n)(hy:a.eval (.tmp y) = .int .i64 k)(hm:IntKind.i64.wrap (n+k)=m) :
 (execOp a.eval {dst:=d,op := .binOp .add 3 (.tmp x) (.tmp y) 3,type:=r,pos:=p,after:=af,guard:=gd}).run Tryz.prog w = .ok (.value (.int .i64 m)) w:=by
 subst hm
 generalize a.eval=f at *
 go_simp
end
theorem qknh{Q:Exit→Act→World→Prop}{S:World→Prop}{W:World}{B:Nat}{f:Fi}{d:Bool}{x0 x1 x2 x3 x4 x6 x7 x8 x9 x10 x11 x12 x13 x14 x15 x16 x17 x18 x19 x20 x21 x22 x23 x24 x25 x26 x27 x28 x29 x30 x31 x32 x33 x34 x35 x36 x37 x38 x39 x40 x41 x42 x43 x44 x45 x46 x47 x48 x49 x50 x51 x52 x53 x54 x55 x56 x57 x58 x59 x60 x61 x62 x63:Value}
 (hS:S W)
 (KB:∀w,S w→w.heap[B]? = some (.cells (fiC f) 32 (0,0))) (K0:∀w,S w→w.cell? ⟨B,0,none⟩=some (.string (bs f.topic))) (hd:decide (f=q7yu f)=d)
 (fin:∀w:World,S w→Q .normal ⟨#[x0,x1,x2,x3,x4,(.pointer (some ⟨B,0,none⟩)),(.bool d),x7,x8,x9,x10,x11,(.agg (fiC f)),(.pointer (some ⟨B,0,none⟩)),(.string (bs f.topic)),(.agg (fiC (q7yu f))),(.bool d),x17,x18,x19,x20,x21,x22,x23,x24,x25,x26,x27,x28,x29,x30,x31,x32,x33,x34,x35,x36,x37,x38,x39,x40,x41,x42,x43,x44,x45,x46,x47,x48,x49,x50,x51,x52,x53,x54,x55,x56,x57,x58,x59,x60,x61,x62,x63],[]⟩ w) :
 (Code.region 2 (qfhu.opsAt 2 Tryz.f69.body) false).wp Tryz.prog Q ⟨#[x0,x1,x2,x3,x4,(.pointer (some ⟨B,0,none⟩)),x6,x7,x8,x9,x10,x11,x12,x13,x14,x15,x16,x17,x18,x19,x20,x21,x22,x23,x24,x25,x26,x27,x28,x29,x30,x31,x32,x33,x34,x35,x36,x37,x38,x39,x40,x41,x42,x43,x44,x45,x46,x47,x48,x49,x50,x51,x52,x53,x54,x55,x56,x57,x58,x59,x60,x61,x62,x63],[]⟩ W:=by
 refine qq8x.wp_in (ds:=[12,13,14,15,16,6]) (B:=[x0,x1,x2,x3,x4,(.pointer (some ⟨B,0,none⟩)),(.bool d),x7,x8,x9,x10,x11,(.agg (fiC f)),(.pointer (some ⟨B,0,none⟩)),(.string (bs f.topic)),(.agg (fiC (q7yu f))),(.bool d),x17,x18,x19,x20,x21,x22,x23,x24,x25,x26,x27,x28,x29,x30,x31,x32,x33,x34,x35,x36,x37,x38,x39,x40,x41,x42,x43,x44,x45,x46,x47,x48,x49,x50,x51,x52,x53,x54,x55,x56,x57,x58,x59,x60,x61,x62,x63]) (D:=[]) (by kernel_rfl) (by kernel_rfl) ?_ hS ?_ fin
 ·exact(by repeat (first | exact trivial | refine⟨.inr rfl,?_⟩ | refine⟨.inl rfl,?_⟩))
 refine qfhu.pu rfl rfl rfl rfl (fun w hS=>q1ib rfl (KB w hS)) ?_
 refine qfhu.pu rfl rfl rfl rfl (fun w hS=>qmdg rfl) ?_
 refine qfhu.pu rfl rfl rfl rfl (fun w hS=>q5u5 rfl (K0 w hS)) ?_
 refine qfhu.pu rfl rfl rfl rfl (fun w hS=>qd60l rfl) ?_
 refine qfhu.pu rfl rfl rfl rfl (fun w hS=>qr9y rfl rfl hd) ?_
 refine qfhu.pu rfl rfl rfl rfl (fun w hS=>rfl) ?_
 exact qfhu.All.fin rfl
theorem qw0z{Q:Exit→Act→World→Prop}{S:World→Prop}{W:World}{B:Nat}{q h m n:Int}{x0 x2 x3 x4 x5 x6 x7 x8 x9 x10 x11 x12 x13 x14 x15 x16 x17 x18 x19 x20:Value}
 (hS:S W.drew)
 (K1:∀w,S w→w.cell? ⟨B,1,none⟩=some (.int .i64 q)) (K4:∀w,S w→w.cell? ⟨B,4,none⟩=some (.int .i64 h)) (hm:IntKind.i64.wrap (16*(h%4))=m) (hn:IntKind.i64.wrap (q%4+m)=n)
 (H0:∀z w,S w→Calls Tryz.prog 51 #[.int .i64 z] w fun e w'=>e = .returned (.int .i64 (z%4))∧S w')
 (fin:∀w:World,S w→Q .normal ⟨#[x0,(.pointer (some ⟨B,0,none⟩)),x2,(.int .i64 n),(.pointer (some ⟨B,1,none⟩)),(.int .i64 q),(.int .i64 (q%4)),(.pointer (some ⟨B,4,none⟩)),(.int .i64 h),(.int .i64 (h%4)),(.int .i64 m),(.int .i64 n),x12,x13,x14,x15,x16,x17,x18,x19,x20],[]⟩ w) :
 (Code.region 1 (qfhu.opsAt 1 Tryz.f17.body) true).wp Tryz.prog Q ⟨#[x0,(.pointer (some ⟨B,0,none⟩)),x2,x3,x4,x5,x6,x7,x8,x9,x10,x11,x12,x13,x14,x15,x16,x17,x18,x19,x20],[]⟩ W:=by
 refine qfhu.wp_in (ds:=[4,5,6,7,8,9,10,11,3]) (B:=[x0,(.pointer (some ⟨B,0,none⟩)),x2,(.int .i64 n),(.pointer (some ⟨B,1,none⟩)),(.int .i64 q),(.int .i64 (q%4)),(.pointer (some ⟨B,4,none⟩)),(.int .i64 h),(.int .i64 (h%4)),(.int .i64 m),(.int .i64 n),x12,x13,x14,x15,x16,x17,x18,x19,x20]) (D:=[]) (by kernel_rfl) (by kernel_rfl) (by kernel_rfl) ?_ hS ?_ fin
 ·exact(by repeat (first | exact trivial | refine⟨.inr rfl,?_⟩ | refine⟨.inl rfl,?_⟩))
 refine qfhu.pu rfl rfl rfl rfl (fun w hS=>q0b3 rfl) ?_
 refine qfhu.pu rfl rfl rfl rfl (fun w hS=>qnwy rfl (K1 w hS)) ?_
 refine qfhu.ca rfl rfl rfl rfl (fun w=>qpjl.enter1 Tryz.func51 rfl rfl) (H0 q) ?_
 refine qfhu.pu rfl rfl rfl rfl (fun w hS=>q7bm rfl) ?_
 refine qfhu.pu rfl rfl rfl rfl (fun w hS=>qnwy rfl (K4 w hS)) ?_
 refine qfhu.ca rfl rfl rfl rfl (fun w=>qpjl.enter1 Tryz.func51 rfl rfl) (H0 h) ?_
 refine qfhu.pu rfl rfl rfl rfl (fun w hS=>qt1d rfl hm) ?_
 refine qfhu.pu rfl rfl rfl rfl (fun w hS=>qzpn rfl rfl hn) ?_
 refine qfhu.pu rfl rfl rfl rfl (fun w hS=>rfl) ?_
 exact qfhu.All.fin rfl
theorem qjgh{Q:Exit→Act→World→Prop}{S:World→Prop}{W:World}{B1 B2 nc nf cc fc:Nat}{v k k1 k2 i i2 ep eq:Int}{C D:Array Value}{b:Bool}{ac af:Option Addr}{x1 x2 x3 x6 x7 x8 x9 x10 x11 x12 x13 x14 x15 x16 x17 x18 x19 x20 x21 x22 x23 x24 x25 x26 x27 x28 x29 x30 x31 x32 x33 x34 x35 x36 x37 x38 x39 x40 x41 x42 x43 x44 x45 x46 x47 x48 x49 x50 x51:Value}
 (hS:S W)
 (hC:C.size=25) (hD:D.size=25) (hk1:IntKind.i64.wrap (k+1)=k1) (KC:∀w,S w→w.heap[B1]? = some (.cells C 29 (0,0))) (LC:∀w,S w→w.heap[B2]? = some (.cells D 29 (0,0)))
 (K0:∀w,S w→w.cell? ⟨B1,0,none⟩=some (.int .i64 k)) (K4:∀w,S w→w.cell? ⟨B1,4,none⟩=some (.int .i64 i)) (K23:∀w,S w→w.cell? ⟨B1,23,none⟩=some (.slice af nf fc))
 (L0:∀w,S w→w.cell? ⟨B2,0,none⟩=some (.int .i64 k2)) (L4:∀w,S w→w.cell? ⟨B2,4,none⟩=some (.int .i64 i2)) (L22:∀w,S w→w.cell? ⟨B2,22,none⟩=some (.slice ac nc cc))
 (H0:∀w,S w→Calls Tryz.prog 44 #[.int .i64 k] w fun e w'=>e = .returned (.bool (qsfj k))∧S w')
 (H1:∀w,S w→Calls Tryz.prog 45 #[.int .i64 v,.int .i64 k2] w fun e w'=>e = .returned (.bool b)∧S w')
 (H2:∀w,S w→Calls Tryz.prog 15 #[.int .i64 v,.agg C] w fun e w'=>e = .returned (.int .i64 ep)∧S w')
 (H3:∀w,S w→Calls Tryz.prog 15 #[.int .i64 v,.agg D] w fun e w'=>e = .returned (.int .i64 eq)∧S w')
 (fin:∀(r:Bool) (w:World),((qsfj k)&&(k2==k1)&&(i2==i)&&(((nc:Int)==(nf:Int)) || b)&&(ep==0)&&(eq==0))=r→S w→∀x7 x8 x9 x10 x11 x12 x13 x14 x15 x16 x17 x18 x19 x20 x21 x22 x23 x24 x25 x26 x27 x28 x29 x30 x31 x32 x33 x34 x35 x36 x37 x38 x39 x40 x41 x42 x43 x44 x45 x46 x47 x48 x49 x50 x51,Q .normal ⟨#[(.int .i64 v),x1,x2,x3,(.pointer (some ⟨B1,0,none⟩)),(.pointer (some ⟨B2,0,none⟩)),(.bool r),x7,x8,x9,x10,x11,x12,x13,x14,x15,x16,x17,x18,x19,x20,x21,x22,x23,x24,x25,x26,x27,x28,x29,x30,x31,x32,x33,x34,x35,x36,x37,x38,x39,x40,x41,x42,x43,x44,x45,x46,x47,x48,x49,x50,x51],[]⟩ w) :
 (Code.region 1 (qfhu.opsAt 1 Tryz.f14.body) false).wp Tryz.prog Q ⟨#[(.int .i64 v),x1,x2,x3,(.pointer (some ⟨B1,0,none⟩)),(.pointer (some ⟨B2,0,none⟩)),x6,x7,x8,x9,x10,x11,x12,x13,x14,x15,x16,x17,x18,x19,x20,x21,x22,x23,x24,x25,x26,x27,x28,x29,x30,x31,x32,x33,x34,x35,x36,x37,x38,x39,x40,x41,x42,x43,x44,x45,x46,x47,x48,x49,x50,x51],[]⟩ W:=by
 obtain⟨d0,ed0⟩:∃d,(qsfj k)=d:=⟨_,rfl⟩
 obtain⟨d1,ed1⟩:∃d,(k2==k1)=d:=⟨_,rfl⟩
 obtain⟨d2,ed2⟩:∃d,(i2==i)=d:=⟨_,rfl⟩
 obtain⟨c0,ec0⟩:∃d,((nc:Int)==(nf:Int))=d:=⟨_,rfl⟩
 obtain⟨c1,ec1⟩:∃d,(b)=d:=⟨_,rfl⟩
 obtain⟨d3,ed3⟩:∃d,(ep==0)=d:=⟨_,rfl⟩
 obtain⟨d4,ed4⟩:∃d,(eq==0)=d:=⟨_,rfl⟩
 rw[ed0,ed1,ed2,ec0,ec1,ed3,ed4] at fin
 rw[ed0] at H0
 rw[ec1] at H1
 cases d0
 case' false=>
  refine qq8x.wp_in (ds:=[7,8,9,10,11,12,13,14,15,16,17,18,19,20,21,22,23,24,25,26,27,28,29,30,31,32,33,34,35,36,37,38,39,40,41,42,43,44,45,46,47,48,49,50,51,6]) (B:=[(.int .i64 v),x1,x2,x3,(.pointer (some ⟨B1,0,none⟩)),(.pointer (some ⟨B2,0,none⟩)),(.bool false),(.pointer (some ⟨B1,0,none⟩)),(.int .i64 k),(.bool false),(.bool false),undef,undef,undef,undef,undef,undef,(.bool false),(.bool false),undef,undef,undef,undef,undef,(.bool false),(.bool false),undef,undef,undef,undef,undef,undef,undef,undef,undef,undef,undef,undef,undef,(.bool false),(.bool false),undef,undef,undef,undef,(.bool false),(.bool false),undef,undef,undef,undef,(.bool false)]) (D:=[]) (by kernel_rfl) (by kernel_rfl) ?_ hS ?_ (fun w hS=>fin false w rfl hS _ _ _ _ _ _ _ _ _ _ _ _ _ _ _ _ _ _ _ _ _ _ _ _ _ _ _ _ _ _ _ _ _ _ _ _ _ _ _ _ _ _ _ _ _)
 case' true=>
  cases d1
  case' false=>
   refine qq8x.wp_in (ds:=[7,8,9,10,11,12,13,14,15,16,17,18,19,20,21,22,23,24,25,26,27,28,29,30,31,32,33,34,35,36,37,38,39,40,41,42,43,44,45,46,47,48,49,50,51,6]) (B:=[(.int .i64 v),x1,x2,x3,(.pointer (some ⟨B1,0,none⟩)),(.pointer (some ⟨B2,0,none⟩)),(.bool false),(.pointer (some ⟨B1,0,none⟩)),(.int .i64 k),(.bool true),(.bool true),(.pointer (some ⟨B2,0,none⟩)),(.int .i64 k2),(.pointer (some ⟨B1,0,none⟩)),(.int .i64 k),(.int .i64 k1),(.bool false),(.bool false),(.bool false),undef,undef,undef,undef,undef,(.bool false),(.bool false),undef,undef,undef,undef,undef,undef,undef,undef,undef,undef,undef,undef,undef,(.bool false),(.bool false),undef,undef,undef,undef,(.bool false),(.bool false),undef,undef,undef,undef,(.bool false)]) (D:=[]) (by kernel_rfl) (by kernel_rfl) ?_ hS ?_ (fun w hS=>fin false w rfl hS _ _ _ _ _ _ _ _ _ _ _ _ _ _ _ _ _ _ _ _ _ _ _ _ _ _ _ _ _ _ _ _ _ _ _ _ _ _ _ _ _ _ _ _ _)
  case' true=>
   cases d2
   case' false=>
    refine qq8x.wp_in (ds:=[7,8,9,10,11,12,13,14,15,16,17,18,19,20,21,22,23,24,25,26,27,28,29,30,31,32,33,34,35,36,37,38,39,40,41,42,43,44,45,46,47,48,49,50,51,6]) (B:=[(.int .i64 v),x1,x2,x3,(.pointer (some ⟨B1,0,none⟩)),(.pointer (some ⟨B2,0,none⟩)),(.bool false),(.pointer (some ⟨B1,0,none⟩)),(.int .i64 k),(.bool true),(.bool true),(.pointer (some ⟨B2,0,none⟩)),(.int .i64 k2),(.pointer (some ⟨B1,0,none⟩)),(.int .i64 k),(.int .i64 k1),(.bool true),(.bool true),(.bool true),(.pointer (some ⟨B2,4,none⟩)),(.int .i64 i2),(.pointer (some ⟨B1,4,none⟩)),(.int .i64 i),(.bool false),(.bool false),(.bool false),undef,undef,undef,undef,undef,undef,undef,undef,undef,undef,undef,undef,undef,(.bool false),(.bool false),undef,undef,undef,undef,(.bool false),(.bool false),undef,undef,undef,undef,(.bool false)]) (D:=[]) (by kernel_rfl) (by kernel_rfl) ?_ hS ?_ (fun w hS=>fin false w rfl hS _ _ _ _ _ _ _ _ _ _ _ _ _ _ _ _ _ _ _ _ _ _ _ _ _ _ _ _ _ _ _ _ _ _ _ _ _ _ _ _ _ _ _ _ _)
   case' true=>
    cases c0
    case' false=>
     cases c1
     case' false=>
      refine qq8x.wp_in (ds:=[7,8,9,10,11,12,13,14,15,16,17,18,19,20,21,22,23,24,25,26,27,28,29,30,31,32,33,34,35,36,37,38,39,40,41,42,43,44,45,46,47,48,49,50,51,6]) (B:=[(.int .i64 v),x1,x2,x3,(.pointer (some ⟨B1,0,none⟩)),(.pointer (some ⟨B2,0,none⟩)),(.bool false),(.pointer (some ⟨B1,0,none⟩)),(.int .i64 k),(.bool true),(.bool true),(.pointer (some ⟨B2,0,none⟩)),(.int .i64 k2),(.pointer (some ⟨B1,0,none⟩)),(.int .i64 k),(.int .i64 k1),(.bool true),(.bool true),(.bool true),(.pointer (some ⟨B2,4,none⟩)),(.int .i64 i2),(.pointer (some ⟨B1,4,none⟩)),(.int .i64 i),(.bool true),(.bool true),(.bool true),(.pointer (some ⟨B2,22,none⟩)),(.slice ac nc cc),(.int .i64 (nc:Nat)),(.pointer (some ⟨B1,23,none⟩)),(.slice af nf fc),(.int .i64 (nf:Nat)),(.bool false),(.bool false),(.int .i64 v),(.pointer (some ⟨B2,0,none⟩)),(.int .i64 k2),(.bool false),(.bool false),(.bool false),(.bool false),undef,undef,undef,undef,(.bool false),(.bool false),undef,undef,undef,undef,(.bool false)]) (D:=[]) (by kernel_rfl) (by kernel_rfl) ?_ hS ?_ (fun w hS=>fin false w rfl hS _ _ _ _ _ _ _ _ _ _ _ _ _ _ _ _ _ _ _ _ _ _ _ _ _ _ _ _ _ _ _ _ _ _ _ _ _ _ _ _ _ _ _ _ _)
     case' true=>
      cases d3
      case' false=>
       refine qq8x.wp_in (ds:=[7,8,9,10,11,12,13,14,15,16,17,18,19,20,21,22,23,24,25,26,27,28,29,30,31,32,33,34,35,36,37,38,39,40,41,42,43,44,45,46,47,48,49,50,51,6]) (B:=[(.int .i64 v),x1,x2,x3,(.pointer (some ⟨B1,0,none⟩)),(.pointer (some ⟨B2,0,none⟩)),(.bool false),(.pointer (some ⟨B1,0,none⟩)),(.int .i64 k),(.bool true),(.bool true),(.pointer (some ⟨B2,0,none⟩)),(.int .i64 k2),(.pointer (some ⟨B1,0,none⟩)),(.int .i64 k),(.int .i64 k1),(.bool true),(.bool true),(.bool true),(.pointer (some ⟨B2,4,none⟩)),(.int .i64 i2),(.pointer (some ⟨B1,4,none⟩)),(.int .i64 i),(.bool true),(.bool true),(.bool true),(.pointer (some ⟨B2,22,none⟩)),(.slice ac nc cc),(.int .i64 (nc:Nat)),(.pointer (some ⟨B1,23,none⟩)),(.slice af nf fc),(.int .i64 (nf:Nat)),(.bool false),(.bool false),(.int .i64 v),(.pointer (some ⟨B2,0,none⟩)),(.int .i64 k2),(.bool true),(.bool true),(.bool true),(.bool true),(.int .i64 v),(.agg C),(.int .i64 ep),(.bool false),(.bool false),(.bool false),undef,undef,undef,undef,(.bool false)]) (D:=[]) (by kernel_rfl) (by kernel_rfl) ?_ hS ?_ (fun w hS=>fin false w rfl hS _ _ _ _ _ _ _ _ _ _ _ _ _ _ _ _ _ _ _ _ _ _ _ _ _ _ _ _ _ _ _ _ _ _ _ _ _ _ _ _ _ _ _ _ _)
      case' true=>
       cases d4
       case' false=>
        refine qq8x.wp_in (ds:=[7,8,9,10,11,12,13,14,15,16,17,18,19,20,21,22,23,24,25,26,27,28,29,30,31,32,33,34,35,36,37,38,39,40,41,42,43,44,45,46,47,48,49,50,51,6]) (B:=[(.int .i64 v),x1,x2,x3,(.pointer (some ⟨B1,0,none⟩)),(.pointer (some ⟨B2,0,none⟩)),(.bool false),(.pointer (some ⟨B1,0,none⟩)),(.int .i64 k),(.bool true),(.bool true),(.pointer (some ⟨B2,0,none⟩)),(.int .i64 k2),(.pointer (some ⟨B1,0,none⟩)),(.int .i64 k),(.int .i64 k1),(.bool true),(.bool true),(.bool true),(.pointer (some ⟨B2,4,none⟩)),(.int .i64 i2),(.pointer (some ⟨B1,4,none⟩)),(.int .i64 i),(.bool true),(.bool true),(.bool true),(.pointer (some ⟨B2,22,none⟩)),(.slice ac nc cc),(.int .i64 (nc:Nat)),(.pointer (some ⟨B1,23,none⟩)),(.slice af nf fc),(.int .i64 (nf:Nat)),(.bool false),(.bool false),(.int .i64 v),(.pointer (some ⟨B2,0,none⟩)),(.int .i64 k2),(.bool true),(.bool true),(.bool true),(.bool true),(.int .i64 v),(.agg C),(.int .i64 ep),(.bool true),(.bool true),(.bool true),(.int .i64 v),(.agg D),(.int .i64 eq),(.bool false),(.bool false)]) (D:=[]) (by kernel_rfl) (by kernel_rfl) ?_ hS ?_ (fun w hS=>fin false w rfl hS _ _ _ _ _ _ _ _ _ _ _ _ _ _ _ _ _ _ _ _ _ _ _ _ _ _ _ _ _ _ _ _ _ _ _ _ _ _ _ _ _ _ _ _ _)
       case' true=>
        refine qq8x.wp_in (ds:=[7,8,9,10,11,12,13,14,15,16,17,18,19,20,21,22,23,24,25,26,27,28,29,30,31,32,33,34,35,36,37,38,39,40,41,42,43,44,45,46,47,48,49,50,51,6]) (B:=[(.int .i64 v),x1,x2,x3,(.pointer (some ⟨B1,0,none⟩)),(.pointer (some ⟨B2,0,none⟩)),(.bool true),(.pointer (some ⟨B1,0,none⟩)),(.int .i64 k),(.bool true),(.bool true),(.pointer (some ⟨B2,0,none⟩)),(.int .i64 k2),(.pointer (some ⟨B1,0,none⟩)),(.int .i64 k),(.int .i64 k1),(.bool true),(.bool true),(.bool true),(.pointer (some ⟨B2,4,none⟩)),(.int .i64 i2),(.pointer (some ⟨B1,4,none⟩)),(.int .i64 i),(.bool true),(.bool true),(.bool true),(.pointer (some ⟨B2,22,none⟩)),(.slice ac nc cc),(.int .i64 (nc:Nat)),(.pointer (some ⟨B1,23,none⟩)),(.slice af nf fc),(.int .i64 (nf:Nat)),(.bool false),(.bool false),(.int .i64 v),(.pointer (some ⟨B2,0,none⟩)),(.int .i64 k2),(.bool true),(.bool true),(.bool true),(.bool true),(.int .i64 v),(.agg C),(.int .i64 ep),(.bool true),(.bool true),(.bool true),(.int .i64 v),(.agg D),(.int .i64 eq),(.bool true),(.bool true)]) (D:=[]) (by kernel_rfl) (by kernel_rfl) ?_ hS ?_ (fun w hS=>fin true w rfl hS _ _ _ _ _ _ _ _ _ _ _ _ _ _ _ _ _ _ _ _ _ _ _ _ _ _ _ _ _ _ _ _ _ _ _ _ _ _ _ _ _ _ _ _ _)
    case' true=>
     cases d3
     case' false=>
      refine qq8x.wp_in (ds:=[7,8,9,10,11,12,13,14,15,16,17,18,19,20,21,22,23,24,25,26,27,28,29,30,31,32,33,34,35,36,37,38,39,40,41,42,43,44,45,46,47,48,49,50,51,6]) (B:=[(.int .i64 v),x1,x2,x3,(.pointer (some ⟨B1,0,none⟩)),(.pointer (some ⟨B2,0,none⟩)),(.bool false),(.pointer (some ⟨B1,0,none⟩)),(.int .i64 k),(.bool true),(.bool true),(.pointer (some ⟨B2,0,none⟩)),(.int .i64 k2),(.pointer (some ⟨B1,0,none⟩)),(.int .i64 k),(.int .i64 k1),(.bool true),(.bool true),(.bool true),(.pointer (some ⟨B2,4,none⟩)),(.int .i64 i2),(.pointer (some ⟨B1,4,none⟩)),(.int .i64 i),(.bool true),(.bool true),(.bool true),(.pointer (some ⟨B2,22,none⟩)),(.slice ac nc cc),(.int .i64 (nc:Nat)),(.pointer (some ⟨B1,23,none⟩)),(.slice af nf fc),(.int .i64 (nf:Nat)),(.bool true),(.bool true),undef,undef,undef,undef,(.bool true),(.bool true),(.bool true),(.int .i64 v),(.agg C),(.int .i64 ep),(.bool false),(.bool false),(.bool false),undef,undef,undef,undef,(.bool false)]) (D:=[]) (by kernel_rfl) (by kernel_rfl) ?_ hS ?_ (fun w hS=>fin false w rfl hS _ _ _ _ _ _ _ _ _ _ _ _ _ _ _ _ _ _ _ _ _ _ _ _ _ _ _ _ _ _ _ _ _ _ _ _ _ _ _ _ _ _ _ _ _)
     case' true=>
      cases d4
      case' false=>
       refine qq8x.wp_in (ds:=[7,8,9,10,11,12,13,14,15,16,17,18,19,20,21,22,23,24,25,26,27,28,29,30,31,32,33,34,35,36,37,38,39,40,41,42,43,44,45,46,47,48,49,50,51,6]) (B:=[(.int .i64 v),x1,x2,x3,(.pointer (some ⟨B1,0,none⟩)),(.pointer (some ⟨B2,0,none⟩)),(.bool false),(.pointer (some ⟨B1,0,none⟩)),(.int .i64 k),(.bool true),(.bool true),(.pointer (some ⟨B2,0,none⟩)),(.int .i64 k2),(.pointer (some ⟨B1,0,none⟩)),(.int .i64 k),(.int .i64 k1),(.bool true),(.bool true),(.bool true),(.pointer (some ⟨B2,4,none⟩)),(.int .i64 i2),(.pointer (some ⟨B1,4,none⟩)),(.int .i64 i),(.bool true),(.bool true),(.bool true),(.pointer (some ⟨B2,22,none⟩)),(.slice ac nc cc),(.int .i64 (nc:Nat)),(.pointer (some ⟨B1,23,none⟩)),(.slice af nf fc),(.int .i64 (nf:Nat)),(.bool true),(.bool true),undef,undef,undef,undef,(.bool true),(.bool true),(.bool true),(.int .i64 v),(.agg C),(.int .i64 ep),(.bool true),(.bool true),(.bool true),(.int .i64 v),(.agg D),(.int .i64 eq),(.bool false),(.bool false)]) (D:=[]) (by kernel_rfl) (by kernel_rfl) ?_ hS ?_ (fun w hS=>fin false w rfl hS _ _ _ _ _ _ _ _ _ _ _ _ _ _ _ _ _ _ _ _ _ _ _ _ _ _ _ _ _ _ _ _ _ _ _ _ _ _ _ _ _ _ _ _ _)
      case' true=>
       refine qq8x.wp_in (ds:=[7,8,9,10,11,12,13,14,15,16,17,18,19,20,21,22,23,24,25,26,27,28,29,30,31,32,33,34,35,36,37,38,39,40,41,42,43,44,45,46,47,48,49,50,51,6]) (B:=[(.int .i64 v),x1,x2,x3,(.pointer (some ⟨B1,0,none⟩)),(.pointer (some ⟨B2,0,none⟩)),(.bool true),(.pointer (some ⟨B1,0,none⟩)),(.int .i64 k),(.bool true),(.bool true),(.pointer (some ⟨B2,0,none⟩)),(.int .i64 k2),(.pointer (some ⟨B1,0,none⟩)),(.int .i64 k),(.int .i64 k1),(.bool true),(.bool true),(.bool true),(.pointer (some ⟨B2,4,none⟩)),(.int .i64 i2),(.pointer (some ⟨B1,4,none⟩)),(.int .i64 i),(.bool true),(.bool true),(.bool true),(.pointer (some ⟨B2,22,none⟩)),(.slice ac nc cc),(.int .i64 (nc:Nat)),(.pointer (some ⟨B1,23,none⟩)),(.slice af nf fc),(.int .i64 (nf:Nat)),(.bool true),(.bool true),undef,undef,undef,undef,(.bool true),(.bool true),(.bool true),(.int .i64 v),(.agg C),(.int .i64 ep),(.bool true),(.bool true),(.bool true),(.int .i64 v),(.agg D),(.int .i64 eq),(.bool true),(.bool true)]) (D:=[]) (by kernel_rfl) (by kernel_rfl) ?_ hS ?_ (fun w hS=>fin true w rfl hS _ _ _ _ _ _ _ _ _ _ _ _ _ _ _ _ _ _ _ _ _ _ _ _ _ _ _ _ _ _ _ _ _ _ _ _ _ _ _ _ _ _ _ _ _)
 all_goals first
  | (
   refine qfhu.pu rfl rfl rfl rfl (fun w hS=>qd7q rfl) ?_
   refine qfhu.pu rfl rfl rfl rfl (fun w hS=>qkcv rfl (K0 w hS)) ?_
   refine qfhu.ca rfl rfl rfl rfl (fun w=>qpjl.enter1 Tryz.func44 rfl rfl) H0 ?_
   refine qfhu.pu rfl rfl rfl rfl (fun w hS=>rfl) ?_
   first | refine qfhu.sk rfl rfl rfl rfl ?_ | refine qfhu.pu rfl rfl rfl rfl (fun w hS=>qd7q rfl) ?_
   first | refine qfhu.sk rfl rfl rfl rfl ?_ | refine qfhu.pu rfl rfl rfl rfl (fun w hS=>qkcv rfl (L0 w hS)) ?_
   first | refine qfhu.sk rfl rfl rfl rfl ?_ | refine qfhu.pu rfl rfl rfl rfl (fun w hS=>qd7q rfl) ?_
   first | refine qfhu.sk rfl rfl rfl rfl ?_ | refine qfhu.pu rfl rfl rfl rfl (fun w hS=>qkcv rfl (K0 w hS)) ?_
   first | refine qfhu.sk rfl rfl rfl rfl ?_ | refine qfhu.pu rfl rfl rfl rfl (fun w hS=>qlgr rfl hk1) ?_
   first | refine qfhu.sk rfl rfl rfl rfl ?_ | refine qfhu.pu rfl rfl rfl rfl (fun w hS=>qc5j rfl rfl ed1) ?_
   refine qfhu.pu rfl rfl rfl rfl (fun w hS=>rfl) ?_
   refine qfhu.pu rfl rfl rfl rfl (fun w hS=>rfl) ?_
   first | refine qfhu.sk rfl rfl rfl rfl ?_ | refine qfhu.pu rfl rfl rfl rfl (fun w hS=>q43k rfl) ?_
   first | refine qfhu.sk rfl rfl rfl rfl ?_ | refine qfhu.pu rfl rfl rfl rfl (fun w hS=>qkcv rfl (L4 w hS)) ?_
   first | refine qfhu.sk rfl rfl rfl rfl ?_ | refine qfhu.pu rfl rfl rfl rfl (fun w hS=>q43k rfl) ?_
   first | refine qfhu.sk rfl rfl rfl rfl ?_ | refine qfhu.pu rfl rfl rfl rfl (fun w hS=>qkcv rfl (K4 w hS)) ?_
   first | refine qfhu.sk rfl rfl rfl rfl ?_ | refine qfhu.pu rfl rfl rfl rfl (fun w hS=>qc5j rfl rfl ed2) ?_
   refine qfhu.pu rfl rfl rfl rfl (fun w hS=>rfl) ?_
   refine qfhu.pu rfl rfl rfl rfl (fun w hS=>rfl) ?_
   first | refine qfhu.sk rfl rfl rfl rfl ?_ | refine qfhu.pu rfl rfl rfl rfl (fun w hS=>qxyk rfl) ?_
   first | refine qfhu.sk rfl rfl rfl rfl ?_ | refine qfhu.pu rfl rfl rfl rfl (fun w hS=>qag2 rfl (L22 w hS)) ?_
   first | refine qfhu.sk rfl rfl rfl rfl ?_ | refine qfhu.pu rfl rfl rfl rfl (fun w hS=>qki8 rfl) ?_
   first | refine qfhu.sk rfl rfl rfl rfl ?_ | refine qfhu.pu rfl rfl rfl rfl (fun w hS=>qvcr rfl) ?_
   first | refine qfhu.sk rfl rfl rfl rfl ?_ | refine qfhu.pu rfl rfl rfl rfl (fun w hS=>qdeq rfl (K23 w hS)) ?_
   first | refine qfhu.sk rfl rfl rfl rfl ?_ | refine qfhu.pu rfl rfl rfl rfl (fun w hS=>q73a rfl) ?_
   first | refine qfhu.sk rfl rfl rfl rfl ?_ | refine qfhu.pu rfl rfl rfl rfl (fun w hS=>qc5j rfl rfl ec0) ?_
   first | refine qfhu.sk rfl rfl rfl rfl ?_ | refine qfhu.pu rfl rfl rfl rfl (fun w hS=>rfl) ?_
   first | refine qfhu.sk rfl rfl rfl rfl ?_ | refine qfhu.pu rfl rfl rfl rfl (fun w hS=>rfl) ?_
   first | refine qfhu.sk rfl rfl rfl rfl ?_ | refine qfhu.pu rfl rfl rfl rfl (fun w hS=>qd7q rfl) ?_
   first | refine qfhu.sk rfl rfl rfl rfl ?_ | refine qfhu.pu rfl rfl rfl rfl (fun w hS=>qkcv rfl (L0 w hS)) ?_
   first | refine qfhu.sk rfl rfl rfl rfl ?_ | refine qfhu.ca rfl rfl rfl rfl (fun w=>qpjl.enter2 Tryz.func45 rfl rfl rfl) H1 ?_
   first | refine qfhu.sk rfl rfl rfl rfl ?_ | refine qfhu.pu rfl rfl rfl rfl (fun w hS=>rfl) ?_
   refine qfhu.pu rfl rfl rfl rfl (fun w hS=>rfl) ?_
   refine qfhu.pu rfl rfl rfl rfl (fun w hS=>rfl) ?_
   first | refine qfhu.sk rfl rfl rfl rfl ?_ | refine qfhu.pu rfl rfl rfl rfl (fun w hS=>rfl) ?_
   first | refine qfhu.sk rfl rfl rfl rfl ?_ | refine qfhu.pu rfl rfl rfl rfl (fun w hS=>qjuh rfl hC (KC w hS)) ?_
   first | refine qfhu.sk rfl rfl rfl rfl ?_ | refine qfhu.ca rfl rfl rfl rfl (fun w=>qpjl.enter2 Tryz.func15 rfl rfl rfl) H2 ?_
   first | refine qfhu.sk rfl rfl rfl rfl ?_ | refine qfhu.pu rfl rfl rfl rfl (fun w hS=>qn1u rfl ed3) ?_
   refine qfhu.pu rfl rfl rfl rfl (fun w hS=>rfl) ?_
   refine qfhu.pu rfl rfl rfl rfl (fun w hS=>rfl) ?_
   first | refine qfhu.sk rfl rfl rfl rfl ?_ | refine qfhu.pu rfl rfl rfl rfl (fun w hS=>rfl) ?_
   first | refine qfhu.sk rfl rfl rfl rfl ?_ | refine qfhu.pu rfl rfl rfl rfl (fun w hS=>qjuh rfl hD (LC w hS)) ?_
   first | refine qfhu.sk rfl rfl rfl rfl ?_ | refine qfhu.ca rfl rfl rfl rfl (fun w=>qpjl.enter2 Tryz.func15 rfl rfl rfl) H3 ?_
   first | refine qfhu.sk rfl rfl rfl rfl ?_ | refine qfhu.pu rfl rfl rfl rfl (fun w hS=>qn1u rfl ed4) ?_
   refine qfhu.pu rfl rfl rfl rfl (fun w hS=>rfl) ?_
   refine qfhu.pu rfl rfl rfl rfl (fun w hS=>rfl) ?_
   exact qfhu.All.fin rfl)
  | exact(by repeat (first | exact trivial | refine⟨.inr rfl,?_⟩ | refine⟨.inl rfl,?_⟩))
end Go.Proofs.YtbecggefmbpnoaaGreatDoor
