/- A filter in a box, and a region's operations upon it. No condition. -/
import Derived.Test.YtombgnfedafkjaaGreatDoorK16
import Derived.Test.YtombgnfedafkjaaGreatDoorK13
import Derived.Test.YtombgnfedafkjaaGreatDoorK14
set_option maxRecDepth 100000
set_option maxHeartbeats 4000000
namespace Go.Proofs.YtombgnfedafkjaaGreatDoor
open Proofs.Tryz
open Go.RowKit
def fiC(f:Fi):Array Value:=#[.string (bs f.topic),.int .i64 f.qos,.bool f.noLocal,.bool f.asPub,.int .i64 f.handling]
theorem qxzo(f:Fi):(fiC f).size=5:=rfl
theorem qx37(f:Fi):(fiC f).all (·.oneCell')=true:=by simp[fiC,Value.oneCell']
theorem qhg6:(prog.info? 67).map (·.size)=some 5:=by kernel_rfl
theorem q4j3:(prog.info? 67).map (fun i=>(i.zero,i.size,i.bytes))=some (some (.agg #[.string .empty,.int .i64 0,.bool false,.bool false,.int .i64 0]),5,40):=by kernel_rfl
structure BxF(w:World)(f:Fi)(W:World):Prop where
 low:Below w.heap.size w W
 box:W.heap[w.heap.size]?=some (.cells (fiC f) 67 (0,0))
theorem BxF.made(w:World)(f:Fi):BxF w f (w.alloc (.cells (fiC f) 67)):=⟨qybm _,heap_alloc_new _ _⟩
theorem BxF.call{w W W':World}{f:Fi}(h:BxF w f W)(hb:Below W.heap.size W W'):BxF w f W':=⟨qxh2 h.low hb,(hb.block _ (lt_of_block h.box)).trans h.box⟩
theorem BxF.draw{w W:World}{f:Fi}(h:BxF w f W):BxF w f W.drew:=⟨h.low.drew,h.box⟩
theorem BxF.cell{w W:World}{f:Fi}(h:BxF w f W)(j:Nat):W.cell? ⟨w.heap.size,j,none⟩=(fiC f)[j]? := cell_of_row _ _ j _ _ _ h.box
section
variable{a:Act}{w:World}{d:Option Tmp}{p:String}{af:Array Edge}{gd:Option (Nat×Bool)}{x y z:Tmp}{r:TypeId}
theorem q0b3{g:Nat}(hx:a.eval (.tmp x)=.pointer (some ⟨g,0,none⟩)) :
 (execOp a.eval {dst:=d,op := .fieldAddr 67 (.tmp x) 1,type:=r,pos:=p,after:=af,guard:=gd}).run prog w=.ok (.value (.pointer (some ⟨g,1,none⟩))) w:=by
 generalize a.eval=f at *;go_simp
theorem qqv5{g:Nat}(hx:a.eval (.tmp x)=.pointer (some ⟨g,0,none⟩)) :
 (execOp a.eval {dst:=d,op := .fieldAddr 67 (.tmp x) 2,type:=r,pos:=p,after:=af,guard:=gd}).run prog w=.ok (.value (.pointer (some ⟨g,2,none⟩))) w:=by
 generalize a.eval=f at *;go_simp
theorem qw8p{g:Nat}(hx:a.eval (.tmp x)=.pointer (some ⟨g,0,none⟩)) :
 (execOp a.eval {dst:=d,op := .fieldAddr 67 (.tmp x) 3,type:=r,pos:=p,after:=af,guard:=gd}).run prog w=.ok (.value (.pointer (some ⟨g,3,none⟩))) w:=by
 generalize a.eval=f at *;go_simp
theorem q7bm{g:Nat}(hx:a.eval (.tmp x)=.pointer (some ⟨g,0,none⟩)) :
 (execOp a.eval {dst:=d,op := .fieldAddr 67 (.tmp x) 4,type:=r,pos:=p,after:=af,guard:=gd}).run prog w=.ok (.value (.pointer (some ⟨g,4,none⟩))) w:=by
 generalize a.eval=f at *;go_simp
theorem qnwy{g j:Nat}{n:Int}(hx:a.eval (.tmp x)=.pointer (some ⟨g,j,none⟩))(hc:w.cell? ⟨g,j,none⟩=some (.int .i64 n)) :
 (execOp a.eval {dst:=d,op := .load 3 (.tmp x),type:=3,pos:=p,after:=af,guard:=gd}).run prog w=.ok (.value (.int .i64 n)) w:=by
 generalize a.eval=f at *;go_simp
theorem q7eg{g j:Nat}{n:Bool}(hx:a.eval (.tmp x)=.pointer (some ⟨g,j,none⟩))(hc:w.cell? ⟨g,j,none⟩=some (.bool n)) :
 (execOp a.eval {dst:=d,op := .load 4 (.tmp x),type:=4,pos:=p,after:=af,guard:=gd}).run prog w=.ok (.value (.bool n)) w:=by
 generalize a.eval=f at *;go_simp
theorem qv14{n c m:Int}(hx:a.eval (.tmp x)=.int .i64 n)(hm:IntKind.i64.wrap (n*c)=m) :
 (execOp a.eval {dst:=d,op := .binOp .mul 3 (.tmp x) (.const (.int .i64 c)) 3,type:=r,pos:=p,after:=af,guard:=gd}).run prog w=.ok (.value (.int .i64 m)) w:=by
 subst hm;have hc:a.eval (.const (.int .i64 c))=.int .i64 c:=rfl;generalize a.eval=f at *;go_simp
theorem qzzw{n c m:Int}(hx:a.eval (.tmp x)=.int .i64 n)(hm:bits .and .i64 n c=m) :
 (execOp a.eval {dst:=d,op := .binOp .and 3 (.tmp x) (.const (.int .i64 c)) 3,type:=r,pos:=p,after:=af,guard:=gd}).run prog w=.ok (.value (.int .i64 m)) w:=by
 subst hm;have hc:a.eval (.const (.int .i64 c))=.int .i64 c:=rfl;generalize a.eval=f at *;go_simp
theorem q0il{n c m:Int}(hx:a.eval (.tmp x)=.int .i64 n)(hy:a.eval (.tmp y)=.int .i64 c)(hm:bits .or .i64 n c=m) :
 (execOp a.eval {dst:=d,op := .binOp .or 3 (.tmp x) (.tmp y) 3,type:=r,pos:=p,after:=af,guard:=gd}).run prog w=.ok (.value (.int .i64 m)) w:=by
 subst hm;generalize a.eval=f at *;go_simp
end
section
variable{a:Act}{w:World}{d:Option Tmp}{p:String}{af:Array Edge}{gd:Option (Nat×Bool)}{x y z:Tmp}{r:TypeId}
theorem qjuh{g:Nat}{C:Array Value}(hx:a.eval (.tmp x)=.pointer (some ⟨g,0,none⟩))(hs:C.size=25)(hg:w.heap[g]?=some (.cells C 32 (0,0))) :
 (execOp a.eval {dst:=d,op := .load 32 (.tmp x),type:=32,pos:=p,after:=af,guard:=gd}).run prog w=.ok (.value (.agg C)) w:=by
 unfold execOp;simp only[hx,Instr.loadAt,Instr.sureAddr,Sem.run_bind,Sem.run_pure,Result.andThen_ok,run_loadVar_row w g 32 32 C (0,0) _ hg underlying32 rfl (by rw[hs];exact q5nr)]
theorem qd7q{g:Nat}(hx:a.eval (.tmp x)=.pointer (some ⟨g,0,none⟩)) :
 (execOp a.eval {dst:=d,op := .fieldAddr 32 (.tmp x) 0,type:=r,pos:=p,after:=af,guard:=gd}).run prog w=.ok (.value (.pointer (some ⟨g,0,none⟩))) w:=by
 generalize a.eval=f at *;go_simp
theorem q43k{g:Nat}(hx:a.eval (.tmp x)=.pointer (some ⟨g,0,none⟩)) :
 (execOp a.eval {dst:=d,op := .fieldAddr 32 (.tmp x) 4,type:=r,pos:=p,after:=af,guard:=gd}).run prog w=.ok (.value (.pointer (some ⟨g,4,none⟩))) w:=by
 generalize a.eval=f at *;go_simp
theorem q0yj{g:Nat}(hx:a.eval (.tmp x)=.pointer (some ⟨g,0,none⟩)) :
 (execOp a.eval {dst:=d,op := .fieldAddr 32 (.tmp x) 17,type:=r,pos:=p,after:=af,guard:=gd}).run prog w=.ok (.value (.pointer (some ⟨g,21,none⟩))) w:=by
 generalize a.eval=f at *;go_simp
theorem qkcv{g j:Nat}{n:Int}(hx:a.eval (.tmp x)=.pointer (some ⟨g,j,none⟩))(hc:w.cell? ⟨g,j,none⟩=some (.int .i64 n)) :
 (execOp a.eval {dst:=d,op := .load 3 (.tmp x),type:=3,pos:=p,after:=af,guard:=gd}).run prog w=.ok (.value (.int .i64 n)) w:=by
 generalize a.eval=f at *;go_simp
theorem qyhu{n c:Int}{b:Bool}(hx:a.eval (.tmp x)=.int .i64 n)(hb:decide (c<n)=b) :
 (execOp a.eval {dst:=d,op := .binOp .gtr 3 (.tmp x) (.const (.int .i64 c)) 3,type:=r,pos:=p,after:=af,guard:=gd}).run prog w=.ok (.value (.bool b)) w:=by
 subst hb;have hc:a.eval (.const (.int .i64 c))=.int .i64 c:=rfl;generalize a.eval=f at *;go_simp
theorem qbhz{n c:Int}{b:Bool}(hx:a.eval (.tmp x)=.int .i64 n)(hb:decide (n<=c)=b) :
 (execOp a.eval {dst:=d,op := .binOp .leq 3 (.tmp x) (.const (.int .i64 c)) 3,type:=r,pos:=p,after:=af,guard:=gd}).run prog w=.ok (.value (.bool b)) w:=by
 subst hb;have hc:a.eval (.const (.int .i64 c))=.int .i64 c:=rfl;generalize a.eval=f at *;go_simp
end
theorem qmrg:(prog.info? 147).map (·.size)=some 3:=by kernel_rfl
section
variable{a:Act}{w:World}{d:Option Tmp}{p:String}{af:Array Edge}{gd:Option (Nat×Bool)}{x y z:Tmp}{r:TypeId}
theorem qxjc{g:Nat}(hx:a.eval (.tmp x)=.pointer (some ⟨g,0,none⟩)) :
 (execOp a.eval {dst:=d,op := .fieldAddr 147 (.tmp x) 2,type:=r,pos:=p,after:=af,guard:=gd}).run prog w=.ok (.value (.pointer (some ⟨g,2,none⟩))) w:=by
 generalize a.eval=f at *;go_simp
theorem qtbf{g:Nat}{u0 u1 u2:Value}(hx:a.eval (.tmp x)=.pointer (some ⟨g,0,none⟩))(hg:w.heap[g]?=some (.cells #[u0,u1,u2] 147 (0,0))) :
 (execOp a.eval {dst:=d,op := .load 147 (.tmp x),type:=147,pos:=p,after:=af,guard:=gd}).run prog w=.ok (.value (.agg #[u0,u1,u2])) w:=by
 unfold execOp;simp only[hx,Instr.loadAt,Instr.sureAddr,Sem.run_bind,Sem.run_pure,Result.andThen_ok,run_loadVar_row w g 147 147 #[u0,u1,u2] (0,0) _ hg underlying147 rfl qmrg]
end
theorem qje9{Q:Exit->Act->World->Prop}{S:Option (Option Addr×Nat)->World->Prop}{W:World}{B cb n:Nat}{v kind k f:Int}{t:ByteArray}{x0 x2 x3 x4 x5 x6 x7 x8 x9 x10 x11 x12 x13 x14 x15 x16 x17 x18 x19 x20 x21 x22:Value}
 (hS:S none W.drew) (KR:∀x w,S x w->w.heap[B]?=some (.cells #[(.pointer (some ⟨cb,0,none⟩)),.int .i64 v,.int .i64 kind] 147 (0,0))) (K2:∀x w,S x w->w.cell? ⟨B,2,none⟩=some (.int .i64 kind))
 (H0:∀x w,S x w->Calls prog 202 #[(.agg #[(.pointer (some ⟨cb,0,none⟩)),.int .i64 v,.int .i64 kind])] w fun e w'=>e=.returned (.string t)/\S x w')
 (H1:∀x w,S x w->Calls prog 146 #[.int .i64 kind,.string t] w fun e w'=>∃A c,e=.returned (.tuple #[.slice A n c,.int .i64 k,.int .i64 f])/\S (some (A,c)) w')
 (fin:∀x w,x.isSome=true->S x w->Q .normal ⟨#[x0,(.pointer (some ⟨B,0,none⟩)),x2,(.slice (gA x) n (gC x)),(.int .i64 k),(.int .i64 f),x6,x7,x8,(.tuple #[(.slice (gA x) n (gC x)),(.int .i64 k),(.int .i64 f)]),(.pointer (some ⟨B,2,none⟩)),(.int .i64 kind),(.agg #[(.pointer (some ⟨cb,0,none⟩)),.int .i64 v,.int .i64 kind]),(.string t),(.tuple #[(.slice (gA x) n (gC x)),(.int .i64 k),(.int .i64 f)]),(.slice (gA x) n (gC x)),(.int .i64 k),(.int .i64 f),x18,x19,x20,x21,x22],[]⟩ w) :
 (Code.region 3 (qfhu.opsAt 3 Tryz.f157.body) true).wp prog Q ⟨#[x0,(.pointer (some ⟨B,0,none⟩)),x2,x3,x4,x5,x6,x7,x8,x9,x10,x11,x12,x13,x14,x15,x16,x17,x18,x19,x20,x21,x22],[]⟩ W:=by
 refine q2y4.wp (x:=none) (S:=S) (made:=fun i x=>i=4->x.isSome=true) (war:=[]) (ds:=[10,11,12,13,14,9,15,16,17,3,4,5]) (A:=[x0,(.pointer (some ⟨B,0,none⟩)),x2,x3,x4,x5,x6,x7,x8,x9,x10,x11,x12,x13,x14,x15,x16,x17,x18,x19,x20,x21,x22]) (B:=fun x=>[x0,(.pointer (some ⟨B,0,none⟩)),x2,(.slice (gA x) n (gC x)),(.int .i64 k),(.int .i64 f),x6,x7,x8,(.tuple #[(.slice (gA x) n (gC x)),(.int .i64 k),(.int .i64 f)]),(.pointer (some ⟨B,2,none⟩)),(.int .i64 kind),(.agg #[(.pointer (some ⟨cb,0,none⟩)),.int .i64 v,.int .i64 kind]),(.string t),(.tuple #[(.slice (gA x) n (gC x)),(.int .i64 k),(.int .i64 f)]),(.slice (gA x) n (gC x)),(.int .i64 k),(.int .i64 f),x18,x19,x20,x21,x22]) (D:=[]) (by kernel_rfl) (by kernel_rfl) (by kernel_rfl) ?_ hS ?_ (fun x w hm hS=>fin x w (hm 4 (by decide+kernel) rfl) hS)
 ·exact fun x=>(by repeat (first|exact trivial|refine⟨.inr rfl,?_⟩|refine⟨.inl rfl,?_⟩))
 refine q2y4.All.step rfl (q2y4.Does.pure (val:=fun x=>(.pointer (some ⟨B,2,none⟩))) rfl (fun x h=>absurd h (by decide)) (fun x w hm hS=>⟨rfl,rfl,qxjc rfl⟩)) ?_;refine q2y4.All.step rfl (q2y4.Does.pure (val:=fun x=>(.int .i64 kind)) rfl (fun x h=>absurd h (by decide)) (fun x w hm hS=>⟨rfl,rfl,qkcv rfl (K2 x w hS)⟩)) ?_;refine q2y4.All.step rfl (q2y4.Does.pure (val:=fun x=>(.agg #[(.pointer (some ⟨cb,0,none⟩)),.int .i64 v,.int .i64 kind])) rfl (fun x h=>absurd h (by decide)) (fun x w hm hS=>⟨rfl,rfl,qtbf rfl (KR x w hS)⟩)) ?_;refine q2y4.All.step rfl (q2y4.Does.call (val:=fun x=>(.string t)) rfl (fun x h=>absurd h (by decide)) (fun x w hm hS=>⟨rfl,rfl,qpjl.enter1 func202 rfl rfl,H0 x w hS⟩)) ?_;refine q2y4.All.step rfl (fun x w hm hS => .inl ⟨rfl,.call _ _ (qpjl.enter2 func146 rfl rfl rfl) ((H1 x w hS).mono fun e w' ⟨A,c,he,h1⟩=>⟨_,some (A,c),he,(fun d hd=>by cases hd;rfl),h1,(fun _=>rfl),(fun i _ _=>rfl),[14,9,15,3],by kernel_rfl,(by repeat (first|exact trivial|refine⟨.inr rfl,?_⟩|refine⟨.inl rfl,?_⟩))⟩)⟩) ?_;refine q2y4.All.step rfl (q2y4.Does.pure (val:=fun x=>(.tuple #[(.slice (gA x) n (gC x)),(.int .i64 k),(.int .i64 f)])) rfl (fun x h=>absurd h (by decide)) (fun x w hm hS=>⟨rfl,rfl,rfl⟩)) ?_;refine q2y4.All.step rfl (q2y4.Does.pure (val:=fun x=>(.slice (gA x) n (gC x))) rfl (fun x h=>absurd h (by decide)) (fun x w hm hS=>⟨rfl,rfl,rfl⟩)) ?_;refine q2y4.All.step rfl (q2y4.Does.pure (val:=fun x=>(.int .i64 k)) rfl (fun x h=>absurd h (by decide)) (fun x w hm hS=>⟨rfl,rfl,rfl⟩)) ?_;refine q2y4.All.step rfl (q2y4.Does.pure (val:=fun x=>(.int .i64 f)) rfl (fun x h=>absurd h (by decide)) (fun x w hm hS=>⟨rfl,rfl,rfl⟩)) ?_;refine q2y4.All.step rfl (q2y4.Does.pure (val:=fun x=>(.slice (gA x) n (gC x))) rfl (fun x h=>absurd h (by decide)) (fun x w hm hS=>⟨rfl,rfl,rfl⟩)) ?_;refine q2y4.All.step rfl (q2y4.Does.pure (val:=fun x=>(.int .i64 k)) rfl (fun x h=>absurd h (by decide)) (fun x w hm hS=>⟨rfl,rfl,rfl⟩)) ?_;refine q2y4.All.step rfl (q2y4.Does.pure (val:=fun x=>(.int .i64 f)) rfl (fun x h=>absurd h (by decide)) (fun x w hm hS=>⟨rfl,rfl,rfl⟩)) ?_;exact q2y4.All.fin rfl
section
variable{a:Act}{w:World}{d:Option Tmp}{p:String}{af:Array Edge}{gd:Option (Nat×Bool)}{x y z:Tmp}{r:TypeId}
theorem qxwk{g:Nat}(hx:a.eval (.tmp x)=.pointer (some ⟨g,0,none⟩)) :
 (execOp a.eval {dst:=d,op := .fieldAddr 147 (.tmp x) 0,type:=r,pos:=p,after:=af,guard:=gd}).run prog w=.ok (.value (.pointer (some ⟨g,0,none⟩))) w:=by
 generalize a.eval=f at *;go_simp
theorem qswu{g j:Nat}{q:Option Addr}(hx:a.eval (.tmp x)=.pointer (some ⟨g,j,none⟩))(hc:w.cell? ⟨g,j,none⟩=some (.pointer q)) :
 (execOp a.eval {dst:=d,op := .load 82 (.tmp x),type:=82,pos:=p,after:=af,guard:=gd}).run prog w=.ok (.value (.pointer q)) w:=by
 generalize a.eval=f at *;go_simp
end
theorem qf2v{Q:Exit->Act->World->Prop}{S:Nat->World->Prop}{W:World}{B cb:Nat}{n:Int}{t:ByteArray}{x0 x2 x3 x4 x5 x6 x7 x8 x9 x10 x11 x12 x13 x14 x15 x16 x17 x18 x19 x20 x21 x22 x23 x24 x25:Value}
 (hS:S 0 W.drew) (K0:∀x w,S x w->w.cell? ⟨B,0,none⟩=some (.pointer (some ⟨cb,0,none⟩)))
 (H0:∀w,S 0 w->Calls prog 77 #[(.pointer (some ⟨cb,0,none⟩))] w fun e w'=>e=.returned (.int .i64 n)/\S 1 w')
 (H1:∀w,S 1 w->Calls prog 60 #[(.pointer (some ⟨cb,0,none⟩)),.int .i64 n] w fun e w'=>e=.returned (.string t)/\S 2 w')
 (fin:∀w,S 2 w->Q .normal ⟨#[x0,(.pointer (some ⟨B,0,none⟩)),x2,x3,(.string t),x5,(.pointer (some ⟨B,0,none⟩)),(.pointer (some ⟨cb,0,none⟩)),(.pointer (some ⟨B,0,none⟩)),(.pointer (some ⟨cb,0,none⟩)),(.int .i64 n),(.string t),x12,x13,x14,x15,x16,x17,x18,x19,x20,x21,x22,x23,x24,x25],[]⟩ w) :
 (Code.region 2 (qfhu.opsAt 2 Tryz.f160.body) true).wp prog Q ⟨#[x0,(.pointer (some ⟨B,0,none⟩)),x2,x3,x4,x5,x6,x7,x8,x9,x10,x11,x12,x13,x14,x15,x16,x17,x18,x19,x20,x21,x22,x23,x24,x25],[]⟩ W:=by
 refine qu7n.wp (fresh:=fun i x=>(i=4->x=0)/\(i=5->x<=1)) (hf0:=fun i=>⟨fun _=>rfl,fun _=>Nat.zero_le _⟩) (x:=0) (S:=S) (made:=fun i x=>(i=4->1<=x)/\(i=5->x=2)) (war:=[]) (ds:=[6,7,8,9,10,11,4]) (A:=[x0,(.pointer (some ⟨B,0,none⟩)),x2,x3,x4,x5,x6,x7,x8,x9,x10,x11,x12,x13,x14,x15,x16,x17,x18,x19,x20,x21,x22,x23,x24,x25]) (B:=fun _=>[x0,(.pointer (some ⟨B,0,none⟩)),x2,x3,(.string t),x5,(.pointer (some ⟨B,0,none⟩)),(.pointer (some ⟨cb,0,none⟩)),(.pointer (some ⟨B,0,none⟩)),(.pointer (some ⟨cb,0,none⟩)),(.int .i64 n),(.string t),x12,x13,x14,x15,x16,x17,x18,x19,x20,x21,x22,x23,x24,x25]) (D:=[]) (by kernel_rfl) (by kernel_rfl) (by kernel_rfl) ?_ hS ?_ (fun x w hm hS=>fin w (by have h:=(hm 5 (by decide)).2 rfl;rw[<-h];exact hS))
 ·exact fun x=>(by repeat (first|exact trivial|refine⟨.inr rfl,?_⟩|refine⟨.inl rfl,?_⟩))
 refine q2y4.All.step rfl (qu7n.Does.pure (val:=fun x=>(.pointer (some ⟨B,0,none⟩))) rfl (fun x=>⟨fun h=>absurd h (by decide),fun h=>absurd h (by decide)⟩) (fun x w hm hS=>⟨rfl,rfl,qxwk rfl⟩)) ?_;refine q2y4.All.step rfl (qu7n.Does.pure (val:=fun x=>(.pointer (some ⟨cb,0,none⟩))) rfl (fun x=>⟨fun h=>absurd h (by decide),fun h=>absurd h (by decide)⟩) (fun x w hm hS=>⟨rfl,rfl,qswu rfl (K0 x w hS)⟩)) ?_;refine q2y4.All.step rfl (qu7n.Does.pure (val:=fun x=>(.pointer (some ⟨B,0,none⟩))) rfl (fun x=>⟨fun h=>absurd h (by decide),fun h=>absurd h (by decide)⟩) (fun x w hm hS=>⟨rfl,rfl,qxwk rfl⟩)) ?_;refine q2y4.All.step rfl (qu7n.Does.pure (val:=fun x=>(.pointer (some ⟨cb,0,none⟩))) rfl (fun x=>⟨fun h=>absurd h (by decide),fun h=>absurd h (by decide)⟩) (fun x w hm hS=>⟨rfl,rfl,qswu rfl (K0 x w hS)⟩)) ?_;refine q2y4.All.step rfl (fun x w hp hf hS => .inl ⟨rfl,.call _ _ (qpjl.enter1 func77 rfl rfl) (by obtain rfl:x=0:=hf.1 rfl;exact(H0 w hS).mono fun e w' ⟨he,h1⟩=>⟨_,1,he,(fun d hd=>by cases hd;rfl),h1,⟨fun _=>Nat.le_refl _,fun h=>absurd h (by decide)⟩,(fun i h=>⟨fun _=>Nat.le_refl _,fun e=>absurd (h.2 e) (by decide)⟩),(fun i hi _=>⟨fun e=>absurd e hi,fun _=>Nat.le_refl _⟩),[],rfl,q2y4.off_refl 0 _⟩)⟩) ?_
 refine q2y4.All.step rfl (fun x w hp hf hS => .inl ⟨rfl,.call _ _ (qpjl.enter2 func60 rfl rfl rfl) (by
  have h1:1<=x:=(hp 4 (by decide+kernel) (by decide)).1 rfl;have h2:x<=1:=hf.2 rfl;obtain rfl:x=1:=by omega
  exact(H1 w hS).mono fun e w' ⟨he,h1⟩=>⟨_,2,he,(fun d hd=>by cases hd;rfl),h1,⟨fun h=>absurd h (by decide),fun _=>rfl⟩,(fun i _=>⟨fun _=>by decide,fun _=>rfl⟩),(fun i hi h=>⟨fun e=>absurd (h.1 e) (by decide),fun e=>absurd e hi⟩),[],rfl,q2y4.off_refl 0 _⟩)⟩) ?_
 refine q2y4.All.step rfl (qu7n.Does.pure (val:=fun x=>(.string t)) rfl (fun x=>⟨fun h=>absurd h (by decide),fun h=>absurd h (by decide)⟩) (fun x w hm hS=>⟨rfl,rfl,rfl⟩)) ?_;exact q2y4.All.fin rfl
def XG:=Bool×Option Nat×Bool
def xn(x:XG):Bool:=x.1
def xa(x:XG):Option Nat:=x.2.1
def xg(x:XG):Nat:=x.2.1.getD 0
def xs(x:XG):Bool:=x.2.2
section
variable{a:Act}{w:World}{d:Option Tmp}{p:String}{af:Array Edge}{gd:Option (Nat×Bool)}{x y z:Tmp}{r:TypeId}
theorem q0mg:(execOp a.eval {dst:=d,op := .alloc 32,type:=r,pos:=p,after:=af,guard:=gd}).run prog w=.ok (.value (.pointer (some ⟨w.heap.size,0,none⟩))) (w.alloc (.cells pkZ 32)):=by have hzv:=qrai w;generalize a.eval=f at *;go_simp
theorem q654{n:Int}(hx:a.eval (.tmp x)=.int .u64 n)(h0:0<=n)(h1:n<65536) :
 (execOp a.eval {dst:=d,op := .convert 84 3 (.tmp x),type:=3,pos:=p,after:=af,guard:=gd}).run prog w=.ok (.value (.int .i64 n)) w:=by
 generalize a.eval=f at *;go_simp;rw[IntKind.wrap_i64];omega
theorem quib{D:Array Value}{k i:Int}(hx:a.eval (.tmp x)=.int .i64 k)(hy:a.eval (.tmp y)=.int .i64 i)(hD:pkC {Pk.zero with kind:=k,id:=i} adZ=D) :
 (execOp a.eval {dst:=d,op := .build 32 #[(0,.tmp x),(4,.tmp y)],type:=32,pos:=p,after:=af,guard:=gd}).run prog w=.ok (.value (.agg D)) w:=by
 generalize a.eval=f at *;go_simp;exact hD
theorem q2e0{g:Nat}{D old:Array Value}(hx:a.eval (.tmp x)=.pointer (some ⟨g,0,none⟩))(hy:a.eval (.tmp y)=.agg D)(hD:D.size=25)(h1:D.all (·.oneCell')=true)(hg:w.heap[g]?=some (.cells old 32 (0,0)))(ho:old.size=25) :
 (execOp a.eval {dst:=d,op := .store 32 (.tmp x) (.tmp y),type:=r,pos:=p,after:=af,guard:=gd}).run prog w=.ok .skip (w.setRow g D):=by
 unfold execOp;simp only[hx,hy,Instr.storeAt,Instr.sureAddr,Sem.run_bind,Sem.run_pure,Result.andThen_ok,run_storeVar_row w g 32 32 old D hg (by rw[hD];exact q5nr) (by rw[ho,hD]) h1]
end
theorem q3p3{Q:Exit->Act->World->Prop}{S:XG->World->Prop}{W:World}{B cb:Nat}{kind i:Int}{D:Array Value}{x0 x2 x3 x4 x5 x6 x7 x8 x9 x10 x11 x12 x13 x14 x15 x16 x17 x18 x19 x20 x21 x22 x23:Value}
 (hS:S (false,none,false) W.drew) (hD:D.size=25) (hD1:D.all (·.oneCell')=true) (hDb:pkC {Pk.zero with kind:=kind,id:=i} adZ=D) (i0:0<=i) (i1:i<65536)
 (K0:∀x w,S x w->w.cell? ⟨B,0,none⟩=some (.pointer (some ⟨cb,0,none⟩))) (K2:∀x w,S x w->w.cell? ⟨B,2,none⟩=some (.int .i64 kind))
 (H0:∀g w,S (false,g,false) w->Calls prog 36 #[(.pointer (some ⟨cb,0,none⟩)),.int .i64 2] w fun e w'=>e=.returned (.int .u64 i)/\S (true,g,false) w')
 (H1:∀n w,S (n,none,false) w->S (n,some w.heap.size,false) (w.alloc (.cells pkZ 32)))
 (H2:∀g w,S (true,some g,false) w->w.heap[g]?=some (.cells pkZ 32 (0,0))/\S (true,some g,true) (w.setRow g D))
 (fin:∀g w,S (true,some g,true) w->Q .normal ⟨#[x0,(.pointer (some ⟨B,0,none⟩)),x2,(.pointer (some ⟨g,0,none⟩)),(.pointer (some ⟨B,2,none⟩)),(.int .i64 kind),(.pointer (some ⟨B,0,none⟩)),(.pointer (some ⟨cb,0,none⟩)),(.int .u64 i),(.int .i64 i),(.agg D),x11,x12,x13,x14,x15,x16,x17,x18,x19,x20,x21,x22,x23],[]⟩ w) :
 (Code.region 1 (qfhu.opsAt 1 Tryz.f119.body) true).wp prog Q ⟨#[x0,(.pointer (some ⟨B,0,none⟩)),x2,x3,x4,x5,x6,x7,x8,x9,x10,x11,x12,x13,x14,x15,x16,x17,x18,x19,x20,x21,x22,x23],[]⟩ W:=by
 refine qu7n.wp (fresh:=fun i x=>(i=4->xn x=false)/\(i=7->xa x=none)/\(i<=8->i=4\/i=7\/i=8->xs x=false)) (hf0:=fun i=>⟨fun _=>rfl,fun _=>rfl,fun _ _=>rfl⟩) (x:=(false,none,false)) (S:=S) (made:=fun i x=>(i=4->xn x=true)/\(i=7->(xa x).isSome=true)/\(i=8->xs x=true)) (war:=[]) (ds:=[4,5,6,7,8,9,10,3]) (A:=[x0,(.pointer (some ⟨B,0,none⟩)),x2,x3,x4,x5,x6,x7,x8,x9,x10,x11,x12,x13,x14,x15,x16,x17,x18,x19,x20,x21,x22,x23]) (B:=fun x=>[x0,(.pointer (some ⟨B,0,none⟩)),x2,(.pointer (some ⟨xg x,0,none⟩)),(.pointer (some ⟨B,2,none⟩)),(.int .i64 kind),(.pointer (some ⟨B,0,none⟩)),(.pointer (some ⟨cb,0,none⟩)),(.int .u64 i),(.int .i64 i),(.agg D),x11,x12,x13,x14,x15,x16,x17,x18,x19,x20,x21,x22,x23]) (D:=[]) (by kernel_rfl) (by kernel_rfl) (by kernel_rfl) ?_ hS ?_ (fun x w hm hS=>by obtain⟨n,g,s⟩:=x;obtain rfl:n=true:=(hm 4 (by decide)).1 rfl;obtain⟨g,rfl⟩:=Option.isSome_iff_exists.1 ((hm 7 (by decide)).2.1 rfl:g.isSome=true);obtain rfl:s=true:=(hm 8 (by decide)).2.2 rfl;exact fin g w hS)
 ·exact fun x=>(by repeat (first|exact trivial|refine⟨.inr rfl,?_⟩|refine⟨.inl rfl,?_⟩))
 refine q2y4.All.step rfl (qu7n.Does.pure (val:=fun x=>(.pointer (some ⟨B,2,none⟩))) rfl (fun x=>⟨fun h=>absurd h (by decide),fun h=>absurd h (by decide),fun h=>absurd h (by decide)⟩) (fun x w hm hS=>⟨rfl,rfl,qxjc rfl⟩)) ?_;refine q2y4.All.step rfl (qu7n.Does.pure (val:=fun x=>(.int .i64 kind)) rfl (fun x=>⟨fun h=>absurd h (by decide),fun h=>absurd h (by decide),fun h=>absurd h (by decide)⟩) (fun x w hm hS=>⟨rfl,rfl,qkcv rfl (K2 x w hS)⟩)) ?_;refine q2y4.All.step rfl (qu7n.Does.pure (val:=fun x=>(.pointer (some ⟨B,0,none⟩))) rfl (fun x=>⟨fun h=>absurd h (by decide),fun h=>absurd h (by decide),fun h=>absurd h (by decide)⟩) (fun x w hm hS=>⟨rfl,rfl,qxwk rfl⟩)) ?_;refine q2y4.All.step rfl (qu7n.Does.pure (val:=fun x=>(.pointer (some ⟨cb,0,none⟩))) rfl (fun x=>⟨fun h=>absurd h (by decide),fun h=>absurd h (by decide),fun h=>absurd h (by decide)⟩) (fun x w hm hS=>⟨rfl,rfl,qswu rfl (K0 x w hS)⟩)) ?_;refine q2y4.All.step rfl (fun x w hp hf hS => .inl ⟨rfl,.call _ _ (qpjl.enter2 func36 rfl rfl rfl) (by obtain⟨n,g,s⟩:=x;obtain rfl:n=false:=hf.1 rfl;obtain rfl:s=false:=hf.2.2 (by decide) (by decide);exact(H0 g w hS).mono fun e w' ⟨he,h1⟩=>⟨_,(true,g,false),he,(fun d hd=>by cases hd;rfl),h1,⟨fun _=>rfl,fun h=>absurd h (by decide),fun h=>absurd h (by decide)⟩,(fun i h=>⟨fun _=>rfl,h.2.1,h.2.2⟩),(fun i hi h=>⟨fun e=>absurd e hi,h.2.1,h.2.2⟩),[],rfl,q2y4.off_refl 0 _⟩)⟩) ?_
 refine q2y4.All.step rfl (qu7n.Does.pure (val:=fun x=>(.int .i64 i)) rfl (fun x=>⟨fun h=>absurd h (by decide),fun h=>absurd h (by decide),fun h=>absurd h (by decide)⟩) (fun x w hm hS=>⟨rfl,rfl,q654 rfl i0 i1⟩)) ?_;refine q2y4.All.step rfl (qu7n.Does.pure (val:=fun x=>(.agg D)) rfl (fun x=>⟨fun h=>absurd h (by decide),fun h=>absurd h (by decide),fun h=>absurd h (by decide)⟩) (fun x w hm hS=>⟨rfl,rfl,quib rfl rfl hDb⟩)) ?_;refine q2y4.All.step rfl (fun x w hp hf hS => .inl ⟨rfl,.value _ (xn x,some w.heap.size,false) _ q0mg (by obtain⟨n,g,s⟩:=x;obtain rfl:g=none:=hf.2.1 rfl;obtain rfl:s=false:=hf.2.2 (by decide) (by decide);exact⟨(fun d hd=>by cases hd;rfl),H1 n w hS,⟨fun h=>absurd h (by decide),fun _=>rfl,fun h=>absurd h (by decide)⟩,(fun i h=>⟨h.1,fun _=>rfl,h.2.2⟩),(fun i hi h=>⟨h.1,fun e=>absurd e hi,h.2.2⟩),[3],by kernel_rfl,(by repeat (first|exact trivial|refine⟨.inr rfl,?_⟩|refine⟨.inl rfl,?_⟩))⟩)⟩) ?_
 refine q2y4.All.step rfl (fun x w hp hf hS=>by
  obtain⟨n,g,s⟩:=x;obtain rfl:n=true:=(hp 4 (by decide+kernel) (by decide)).1 rfl;obtain⟨g,rfl⟩:=Option.isSome_iff_exists.1 ((hp 7 (by decide+kernel) (by decide)).2.1 rfl:g.isSome=true);obtain rfl:s=false:=hf.2.2 (by decide) (by decide);obtain⟨h1,h2⟩:=H2 g w hS;exact .inl ⟨rfl,.skip (true,some g,true) _ (q2e0 rfl rfl hD hD1 h1 qbwp) ⟨(fun d hd=>by cases hd),h2,⟨fun _=>rfl,fun _=>rfl,fun _=>rfl⟩,(fun i h=>⟨fun _=>rfl,fun _=>rfl,fun _=>rfl⟩),(fun i hi h=>⟨h.1,h.2.1,fun _ e=>by
   rcases e with rfl|rfl|rfl
   ·exact absurd (h.1 rfl) (by simp[xn])
   ·exact absurd (h.2.1 rfl) (by simp[xa])
   ·exact absurd rfl hi⟩),[],rfl,q2y4.off_refl 0 _⟩⟩) ?_
 exact q2y4.All.fin rfl
section
variable{a:Act}{w:World}{d:Option Tmp}{p:String}{af:Array Edge}{gd:Option (Nat×Bool)}{x y z:Tmp}{r:TypeId}{ts:Array TypeId}
theorem qxyk{g:Nat}(hx:a.eval (.tmp x)=.pointer (some ⟨g,0,none⟩)) :
 (execOp a.eval {dst:=d,op := .fieldAddr 32 (.tmp x) 18,type:=r,pos:=p,after:=af,guard:=gd}).run prog w=.ok (.value (.pointer (some ⟨g,22,none⟩))) w:=by
 generalize a.eval=f at *;go_simp
theorem qvcr{g:Nat}(hx:a.eval (.tmp x)=.pointer (some ⟨g,0,none⟩)) :
 (execOp a.eval {dst:=d,op := .fieldAddr 32 (.tmp x) 19,type:=r,pos:=p,after:=af,guard:=gd}).run prog w=.ok (.value (.pointer (some ⟨g,23,none⟩))) w:=by
 generalize a.eval=f at *;go_simp
theorem qag2{g j n c:Nat}{A:Option Addr}(hx:a.eval (.tmp x)=.pointer (some ⟨g,j,none⟩))(hc:w.cell? ⟨g,j,none⟩=some (.slice A n c)) :
 (execOp a.eval {dst:=d,op := .load 29 (.tmp x),type:=29,pos:=p,after:=af,guard:=gd}).run prog w=.ok (.value (.slice A n c)) w:=by
 generalize a.eval=f at *;go_simp
theorem qdeq{g j n c:Nat}{A:Option Addr}(hx:a.eval (.tmp x)=.pointer (some ⟨g,j,none⟩))(hc:w.cell? ⟨g,j,none⟩=some (.slice A n c)) :
 (execOp a.eval {dst:=d,op := .load 30 (.tmp x),type:=30,pos:=p,after:=af,guard:=gd}).run prog w=.ok (.value (.slice A n c)) w:=by
 generalize a.eval=f at *;go_simp
theorem qki8{n c:Nat}{A:Option Addr}(hx:a.eval (.tmp x)=.slice A n c) :
 (execOp a.eval {dst:=d,op := .call {callee := .builtin .len,args:=#[.tmp x],argTypes:=#[29]},type:=r,pos:=p,after:=af,guard:=gd}).run prog w=.ok (.value (.int .i64 (n:Nat))) w:=by
 generalize a.eval=f at *;go_simp
theorem q73a{n c:Nat}{A:Option Addr}(hx:a.eval (.tmp x)=.slice A n c) :
 (execOp a.eval {dst:=d,op := .call {callee := .builtin .len,args:=#[.tmp x],argTypes:=#[30]},type:=r,pos:=p,after:=af,guard:=gd}).run prog w=.ok (.value (.int .i64 (n:Nat))) w:=by
 generalize a.eval=f at *;go_simp
theorem qvpr{n:Nat}{b:Bool}(h:decide (0<n)=b):decide ((0:Int)<(n:Int))=b:=by rw[<-h,decide_eq_decide];omega
end
end Go.Proofs.YtombgnfedafkjaaGreatDoor
