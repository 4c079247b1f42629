/- The region of polyglotref05.body's round: a property's byte and its value qk87 what stands. Condition: the sums are no longer than a string may be. -/
import Derived.Test.YtbklidpadffpgaaGreatK13
import Derived.Test.YtbklidpadffpgaaGreatK25
set_option maxRecDepth 100000
set_option maxHeartbeats 4000000
namespace Go.Proofs.YtbklidpadffpgaaGreat
open Go.RowKit
def qvxl:Option Nat→Value
 | some g => .slice (some ⟨g,0,none⟩) 1 1
 | none=>undef
section
variable{a:Act}{w:World}{d:Option Tmp}{p:String}{af:Array Edge}{gd:Option (Nat×Bool)}{x y:Tmp}{r:TypeId}
theorem qs8u{g i n c k:Nat}(hx:a.eval (.tmp x) = .slice (some ⟨g,i,none⟩) n c)(hy:a.eval (.tmp y) = .int .i64 k)(hk:(k:Int) < (n:Int)) :
 (execOp a.eval {dst:=d,op := .indexAddr 26 (.tmp x) (.tmp y),type:=r,pos:=p,after:=af,guard:=gd}).run Tryz.prog w = .ok (.value (.pointer (some ⟨g,i+k*4,none⟩))) w:=by
 generalize a.eval=f at *
 go_simp
theorem qpvl{g j:Nat}(hx:a.eval (.tmp x) = .pointer (some ⟨g,j,none⟩)) :
 (execOp a.eval {dst:=d,op := .fieldAddr 25 (.tmp x) 0,type:=r,pos:=p,after:=af,guard:=gd}).run Tryz.prog w = .ok (.value (.pointer (some ⟨g,j,none⟩))) w:=by
 generalize a.eval=f at *
 go_simp
theorem qpa4{g j:Nat}{v:Int}(hx:a.eval (.tmp x) = .pointer (some ⟨g,j,none⟩))(hc:w.cell? ⟨g,j,none⟩=some (.int .i64 v)) :
 (execOp a.eval {dst:=d,op := .load 3 (.tmp x),type:=3,pos:=p,after:=af,guard:=gd}).run Tryz.prog w = .ok (.value (.int .i64 v)) w:=by
 generalize a.eval=f at *
 go_simp
theorem qsqo{g j:Nat}{a0 a1 a2 a3:Value}(hx:a.eval (.tmp x) = .pointer (some ⟨g,j,none⟩))(hS:w.cell? ⟨g,j,none⟩=some a0∧w.cell? ⟨g,j+1,none⟩=some a1∧w.cell? ⟨g,j+2,none⟩=some a2∧w.cell? ⟨g,j+3,none⟩=some a3) :
 (execOp a.eval {dst:=d,op := .load 25 (.tmp x),type:=25,pos:=p,after:=af,guard:=gd}).run Tryz.prog w = .ok (.value (.agg #[a0,a1,a2,a3])) w:=by
 obtain⟨h0,h1,h2,h3⟩:=hS
 generalize a.eval=f at *
 go_simp
theorem q9rw{v:Int}{b:UInt8}(hx:a.eval (.tmp x) = .int .i64 v)(hw:IntKind.u8.wrap v=(b.toNat:Int)) :
 (execOp a.eval {dst:=d,op := .convert 3 5 (.tmp x),type:=r,pos:=p,after:=af,guard:=gd}).run Tryz.prog w = .ok (.value (.int .u8 b.toNat)) w:=by
 generalize a.eval=f at *
 go_simp
theorem q3xx{v:Int}(hx:a.eval (.tmp x) = .int .u8 v) :
 (execOp a.eval {dst:=d,op := .buildSlice 97 1 #[(0,.tmp x)],type:=r,pos:=p,after:=af,guard:=gd}).run Tryz.prog w = .ok (.value (.slice (some ⟨w.heap.size,0,none⟩) 1 1)) (w.alloc (.cells #[.int .u8 v] 5)):=by
 generalize a.eval=f at *
 go_simp
theorem qgzy{g:Nat}{b:UInt8}(hx:a.eval (.tmp x) = .slice (some ⟨g,0,none⟩) 1 1)(hc:w.heap[g]? = some (.cells #[.int .u8 b.toNat] 5 (0,0))) :
 (execOp a.eval {dst:=d,op := .convert 97 9 (.tmp x),type:=r,pos:=p,after:=af,guard:=gd}).run Tryz.prog w = .ok (.value (.string ⟨#[b]⟩)) w:=by
 have H:(convert 97 9 (.slice (some ⟨g,0,none⟩) 1 1)).run Tryz.prog w = .ok (.string ⟨#[b]⟩) w:=q3j9 (base:=g) [b] ⟨rfl,.inr ⟨_,1,_,rfl,Nat.le_refl _,hc,Nat.le_refl _,by decide,rfl,rfl⟩⟩
 generalize a.eval=f at *
 go_simp
theorem q2gk{u v:ByteArray}(hx:a.eval (.tmp x) = .string u)(hy:a.eval (.tmp y) = .string v)(hn:¬9223372036854775807 < u.size+v.size) :
 (execOp a.eval {dst:=d,op := .binOp .add 9 (.tmp x) (.tmp y) 9,type:=r,pos:=p,after:=af,guard:=gd}).run Tryz.prog w = .ok (.value (.string (u++v))) w:=by
 generalize a.eval=f at *
 go_simp
end
theorem qr0g{Q:Exit→Act→World→Prop}{T:World→Prop}{W:World}{g i n c k:Nat}{p0 p1:Int}{p2 p3 o1 o2:ByteArray}{y:UInt8}{x1 x2 x5 x6 x7 x8 x9 x10 x11 x12 x13 x14 x15 x16 x17 x18 x19 x20 x21 x22 x23 x24 x25 x26 x27:Value}
 (hk:(k:Int) < (n:Int)) (hw8:IntKind.u8.wrap p0=(y.toNat:Int)) (n1:¬9223372036854775807 < o1.size+(⟨#[y]⟩:ByteArray).size) (n2:¬9223372036854775807 < (o1++⟨#[y]⟩:ByteArray).size+o2.size) (hT:T W.drew)
 (C:∀w,T w→w.cell? ⟨g,i+k*4,none⟩=some (.int .i64 p0)∧w.cell? ⟨g,i+k*4+1,none⟩=some (.int .u32 p1)∧w.cell? ⟨g,i+k*4+2,none⟩=some (.string p2)∧w.cell? ⟨g,i+k*4+3,none⟩=some (.string p3))
 (ML:∀w,T w→T (w.alloc (.cells #[.int .u8 y.toNat] 5))) (LO:∀w w',T w→Below w.heap.size w w'→T w')
 (VA:∀w,T w→Calls Tryz.prog 112 #[(.agg #[.int .i64 p0,.int .u32 p1,.string p2,.string p3])] w fun e w'=>e = .returned (.string o2)∧Below w.heap.size w w')
 (fin:∀r w,T w→Q .normal ⟨#[(.slice (some ⟨g,i,none⟩) n c),x1,x2,(.string (o1++⟨#[y]⟩++o2)),(.int .i64 (k:Int)),x5,x6,x7,x8,x9,x10,(.string o1),(.slice (some ⟨g,i,none⟩) n c),(.int .i64 (k:Int)),(.pointer (some ⟨g,i+k*4,none⟩)),(.pointer (some ⟨g,i+k*4,none⟩)),(.int .i64 p0),(.int .u8 y.toNat),r,(.string ⟨#[y]⟩),(.string (o1++⟨#[y]⟩)),(.slice (some ⟨g,i,none⟩) n c),(.int .i64 (k:Int)),(.pointer (some ⟨g,i+k*4,none⟩)),(.agg #[.int .i64 p0,.int .u32 p1,.string p2,.string p3]),(.string o2),(.string (o1++⟨#[y]⟩++o2)),x27],[]⟩ w) :
 (Code.region 5 (qfhu.opsAt 5 Tryz.f71.body) true).wp Tryz.prog Q ⟨#[(.slice (some ⟨g,i,none⟩) n c),x1,x2,(.string o1),(.int .i64 (k:Int)),x5,x6,x7,x8,x9,x10,x11,x12,x13,x14,x15,x16,x17,x18,x19,x20,x21,x22,x23,x24,x25,x26,x27],[]⟩ W:=by
 refine q2y4.wp (x:=none) (S:=fun x w=>T w∧∀a,x=some a→w.heap[a]? = some (.cells #[.int .u8 y.toNat] 5 (0,0))) (made:=fun i x=>i=7→x.isSome=true) (war:=[(0,3)]) (ds:=[11,12,13,14,15,16,17,18,19,20,21,22,23,24,25,26,3]) (A:=[(.slice (some ⟨g,i,none⟩) n c),x1,x2,(.string o1),(.int .i64 (k:Int)),x5,x6,x7,x8,x9,x10,x11,x12,x13,x14,x15,x16,x17,x18,x19,x20,x21,x22,x23,x24,x25,x26,x27]) (B:=fun x=>[(.slice (some ⟨g,i,none⟩) n c),x1,x2,(.string (o1++⟨#[y]⟩++o2)),(.int .i64 (k:Int)),x5,x6,x7,x8,x9,x10,(.string o1),(.slice (some ⟨g,i,none⟩) n c),(.int .i64 (k:Int)),(.pointer (some ⟨g,i+k*4,none⟩)),(.pointer (some ⟨g,i+k*4,none⟩)),(.int .i64 p0),(.int .u8 y.toNat),(qvxl x),(.string ⟨#[y]⟩),(.string (o1++⟨#[y]⟩)),(.slice (some ⟨g,i,none⟩) n c),(.int .i64 (k:Int)),(.pointer (some ⟨g,i+k*4,none⟩)),(.agg #[.int .i64 p0,.int .u32 p1,.string p2,.string p3]),(.string o2),(.string (o1++⟨#[y]⟩++o2)),x27]) (D:=[]) (by kernel_rfl) (by kernel_rfl) (by kernel_rfl) ?_ ⟨hT,fun a ha=>by cases ha⟩ ?_ (fun x w _ hS=>fin _ w hS.1)
 ·exact fun x=>(by repeat (first | exact trivial | refine⟨.inr rfl,?_⟩ | refine⟨.inl rfl,?_⟩))
 iterate 3 refine q2y4.pu rfl rfl (fun _ h=>absurd h (by decide)) (fun x w hm hS=>⟨rfl,rfl,rfl⟩) ?_
 refine q2y4.pu rfl rfl (fun _ h=>absurd h (by decide)) (fun x w hm hS=>⟨rfl,rfl,qs8u rfl rfl hk⟩) ?_
 refine q2y4.pu rfl rfl (fun _ h=>absurd h (by decide)) (fun x w hm hS=>⟨rfl,rfl,qpvl rfl⟩) ?_
 refine q2y4.pu rfl rfl (fun _ h=>absurd h (by decide)) (fun x w hm hS=>⟨rfl,rfl,qpa4 rfl (C w hS.1).1⟩) ?_
 refine q2y4.pu rfl rfl (fun _ h=>absurd h (by decide)) (fun x w hm hS=>⟨rfl,rfl,q9rw rfl hw8⟩) ?_
 refine q2y4.All.step rfl ((fun x w hm hS => .inl ⟨rfl,.value (.slice (some ⟨w.heap.size,0,none⟩) 1 1) (some w.heap.size) _ (q3xx rfl) ⟨fun d hd=>by cases hd;rfl,⟨ML w hS.1,fun a ha=>by cases ha;exact heap_alloc_new w _⟩,fun _=>rfl,fun i hi h=>(by cases h;rfl),[18],by kernel_rfl,(by repeat (first | exact trivial | refine⟨.inr rfl,?_⟩ | refine⟨.inl rfl,?_⟩))⟩⟩)) ?_
 refine q2y4.pu rfl rfl (fun _ h=>absurd h (by decide)) (fun x w hm hS=>⟨rfl,rfl,by obtain⟨a,rfl⟩:=Option.isSome_iff_exists.1 (hm 7 (by kernel_rfl) (by decide) rfl);exact qgzy rfl (hS.2 a rfl)⟩) ?_
 refine q2y4.pu rfl rfl (fun _ h=>absurd h (by decide)) (fun x w hm hS=>⟨rfl,rfl,q2gk rfl rfl n1⟩) ?_
 iterate 2 refine q2y4.pu rfl rfl (fun _ h=>absurd h (by decide)) (fun x w hm hS=>⟨rfl,rfl,rfl⟩) ?_
 refine q2y4.pu rfl rfl (fun _ h=>absurd h (by decide)) (fun x w hm hS=>⟨rfl,rfl,qs8u rfl rfl hk⟩) ?_
 refine q2y4.pu rfl rfl (fun _ h=>absurd h (by decide)) (fun x w hm hS=>⟨rfl,rfl,qsqo rfl (C w hS.1)⟩) ?_
 refine q2y4.All.step rfl (q2y4.Does.call (val:=fun x=>(.string o2)) rfl (fun _ h=>absurd h (by decide)) (fun x w hm hS=>⟨rfl,rfl,qpjl.enter1 Tryz.func112 rfl rfl,(VA w hS.1).mono fun e w' h=>⟨h.1,LO w w' hS.1 h.2,fun a ha=>(h.2.block a (lt_of_block (hS.2 a ha))).trans (hS.2 a ha)⟩⟩)) ?_
 refine q2y4.pu rfl rfl (fun _ h=>absurd h (by decide)) (fun x w hm hS=>⟨rfl,rfl,q2gk rfl rfl n2⟩) ?_
 refine q2y4.pu rfl rfl (fun _ h=>absurd h (by decide)) (fun x w hm hS=>⟨rfl,rfl,rfl⟩) ?_
 exact q2y4.All.fin rfl
end Go.Proofs.YtbklidpadffpgaaGreat
