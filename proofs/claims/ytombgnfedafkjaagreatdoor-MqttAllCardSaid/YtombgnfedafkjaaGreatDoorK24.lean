/- The regions of connect's reader that draw their order: calls that write the cursor in a forced order. Condition: none. -/
import Derived.Test.YtombgnfedafkjaaGreatDoorK23
import Derived.Test.YtombgnfedafkjaaGreatDoorK19
set_option maxRecDepth 100000
set_option maxHeartbeats 8000000
namespace Go.Proofs.YtombgnfedafkjaaGreatDoor
open Lib(hid)
open Proofs.Tryz
open Go.RowKit
section
variable{a:Act}{w:World}{d:Option Tmp}{p:String}{af:Array Edge}{gd:Option (Nat×Bool)}{x y z:Tmp}{r:TypeId}
theorem qfsz{g cb:Nat}{v:Int}(hx:a.eval (.tmp x)=.pointer (some ⟨g,0,none⟩))(h0:w.cell? ⟨g,0,none⟩=some (.pointer (some ⟨cb,0,none⟩)))(h1:w.cell? ⟨g,1,none⟩=some (.int .i64 v)) :
 (execOp a.eval {dst:=d,op := .load 123 (.tmp x),type:=123,pos:=p,after:=af,guard:=gd}).run prog w=.ok (.value (.agg #[.pointer (some ⟨cb,0,none⟩),.int .i64 v])) w:=by
 generalize a.eval=f at *;go_simp
theorem q5g8{g:Nat}{C:Array Value}(hx:a.eval (.tmp x)=.pointer (some ⟨g,0,none⟩))(hs:C.size=25)(hg:w.heap[g]?=some (.cells C 32 (0,0))) :
 (execOp a.eval {dst:=d,op := .load 32 (.tmp x),type:=32,pos:=p,after:=af,guard:=gd}).run prog w=.ok (.value (.agg C)) w:=by
 unfold execOp;simp only[hx,Instr.loadAt,Instr.sureAddr,Sem.run_bind,Sem.run_pure,Result.andThen_ok,run_loadVar_row w g 32 32 C (0,0) _ hg underlying32 rfl (by rw[hs];exact q5nr)]
theorem q8i8{g:Nat}(hx:a.eval (.tmp x)=.pointer (some ⟨g,0,none⟩)) :
 (execOp a.eval {dst:=d,op := .fieldAddr 123 (.tmp x) 0,type:=r,pos:=p,after:=af,guard:=gd}).run prog w=.ok (.value (.pointer (some ⟨g,0,none⟩))) w:=by
 generalize a.eval=f at *;go_simp
theorem qil8{g:Nat}(hx:a.eval (.tmp x)=.pointer (some ⟨g,0,none⟩)) :
 (execOp a.eval {dst:=d,op := .fieldAddr 123 (.tmp x) 1,type:=r,pos:=p,after:=af,guard:=gd}).run prog w=.ok (.value (.pointer (some ⟨g,1,none⟩))) w:=by
 generalize a.eval=f at *;go_simp
theorem qpti{g cb:Nat}(hx:a.eval (.tmp x)=.pointer (some ⟨g,0,none⟩))(h0:w.cell? ⟨g,0,none⟩=some (.pointer (some ⟨cb,0,none⟩))) :
 (execOp a.eval {dst:=d,op := .load 82 (.tmp x),type:=82,pos:=p,after:=af,guard:=gd}).run prog w=.ok (.value (.pointer (some ⟨cb,0,none⟩))) w:=by
 generalize a.eval=f at *;go_simp
theorem qd8q{g:Nat}{v:Int}(hx:a.eval (.tmp x)=.pointer (some ⟨g,1,none⟩))(h1:w.cell? ⟨g,1,none⟩=some (.int .i64 v)) :
 (execOp a.eval {dst:=d,op := .load 3 (.tmp x),type:=3,pos:=p,after:=af,guard:=gd}).run prog w=.ok (.value (.int .i64 v)) w:=by
 generalize a.eval=f at *;go_simp
theorem q3gv{n m:Int}(hx:a.eval (.tmp x)=.int .i64 n)(hm:bits .and .i64 n 1=m) :
 (execOp a.eval {dst:=d,op := .binOp .and 3 (.tmp x) (.const (.int .i64 1)) 3,type:=r,pos:=p,after:=af,guard:=gd}).run prog w=.ok (.value (.int .i64 m)) w:=by
 subst hm;have hk:a.eval (.const (.int .i64 1))=.int .i64 1:=rfl;generalize a.eval=f at *;go_simp
theorem qqiz{n:Int}{b:Bool}(hx:a.eval (.tmp x)=.int .i64 n)(hb:(n==0)=b) :
 (execOp a.eval {dst:=d,op := .binOp .eql 3 (.tmp x) (.const (.int .i64 0)) 3,type:=r,pos:=p,after:=af,guard:=gd}).run prog w=.ok (.value (.bool b)) w:=by
 subst hb;have hk:a.eval (.const (.int .i64 0))=.int .i64 0:=rfl;generalize a.eval=f at *;go_simp
theorem q424{n m:Int}{b:Bool}(hx:a.eval (.tmp x)=.int .i64 n)(hy:a.eval (.tmp y)=.int .i64 m)(hb:(n==m)=b) :
 (execOp a.eval {dst:=d,op := .binOp .eql 3 (.tmp x) (.tmp y) 3,type:=r,pos:=p,after:=af,guard:=gd}).run prog w=.ok (.value (.bool b)) w:=by
 subst hb;generalize a.eval=f at *;go_simp
theorem qmwm{t:ByteArray}{b:Bool}(hx:a.eval (.tmp x)=.string t)(hb:(t.toList==[0,4,77,81,84,84])=b) :
 (execOp a.eval {dst:=d,op := .binOp .eql 9 (.tmp x) (.const (.string {data:=#[0,4,77,81,84,84]})) 9,type:=r,pos:=p,after:=af,guard:=gd}).run prog w=.ok (.value (.bool b)) w:=by
 subst hb;have hk:a.eval (.const (.string {data:=#[0,4,77,81,84,84]}))=.string {data:=#[0,4,77,81,84,84]}:=rfl;generalize a.eval=f at *;go_simp
end
theorem q58n{Q:Exit->Act->World->Prop}{S:Bool->World->Prop}{W:World}{B P cb:Nat}{v n m:Int}{b:Bool}{D:Array Value}{x0 x2 x5 x6 x7 x8 x9 x10 x11 x12 x13 x14 x15 x16 x17 x18 x19 x20:Value}
 (hS:S false W.drew) (K0:∀x w,S x w->w.cell? ⟨B,0,none⟩=some (.pointer (some ⟨cb,0,none⟩))) (K1:∀x w,S x w->w.cell? ⟨B,1,none⟩=some (.int .i64 v)) (hm1:bits .and .i64 n 1=m) (hz:(m==0)=true) (hD:D.size=25) (KD:∀x w,S x w->w.heap[P]?=some (.cells D 32 (0,0)))
 (H17:∀(x:Bool) (w:World),S x w->Calls prog 165 #[.int .i64 v,.agg D] w fun e w'=>e=.returned (.bool b)/\S x w')
 (H19:∀(x:Bool) (w:World),S x w->x=false->Calls prog 93 #[.agg #[.pointer (some ⟨cb,0,none⟩),.int .i64 v],.bool b,.int .i64 7] w fun e w'=>e=.returned (.tuple #[])/\S ((fun _=>true) x) w')
 (fin:∀w,S true w->Q .normal ⟨#[x0,(.pointer (some ⟨B,0,none⟩)),x2,(.int .i64 n),(.pointer (some ⟨P,0,none⟩)),x5,x6,x7,x8,(.agg #[.pointer (some ⟨cb,0,none⟩),.int .i64 v]),(.int .i64 n),(.int .i64 m),(.bool true),(.bool true),(.pointer (some ⟨B,1,none⟩)),(.int .i64 v),(.agg D),(.bool b),(.bool b),(.tuple #[]),x20],[]⟩ w) :
 (Code.region 3 (qfhu.opsAt 3 Tryz.f172.body) true).wp prog Q ⟨#[x0,(.pointer (some ⟨B,0,none⟩)),x2,(.int .i64 n),(.pointer (some ⟨P,0,none⟩)),x5,x6,x7,x8,x9,x10,x11,x12,x13,x14,x15,x16,x17,x18,x19,x20],[]⟩ W:=by
 refine qu7n.wp (fresh:=fun i x=>(i=10->x=false)) (hf0:=fun i=>fun _=>rfl) (x:=false) (S:=S) (made:=fun i x=>(i=10->x=true)) (war:=[]) (ds:=[9,10,11,12,13,14,15,16,17,18,19]) (A:=[x0,(.pointer (some ⟨B,0,none⟩)),x2,(.int .i64 n),(.pointer (some ⟨P,0,none⟩)),x5,x6,x7,x8,x9,x10,x11,x12,x13,x14,x15,x16,x17,x18,x19,x20]) (B:=fun x=>[x0,(.pointer (some ⟨B,0,none⟩)),x2,(.int .i64 n),(.pointer (some ⟨P,0,none⟩)),x5,x6,x7,x8,(.agg #[.pointer (some ⟨cb,0,none⟩),.int .i64 v]),(.int .i64 n),(.int .i64 m),(.bool true),(.bool true),(.pointer (some ⟨B,1,none⟩)),(.int .i64 v),(.agg D),(.bool b),(.bool b),(.tuple #[]),x20]) (D:=[]) (by kernel_rfl) (by kernel_rfl) (by kernel_rfl) ?_ hS ?_ (fun x w hm hS=>fin w (by have h:=hm 10 (by decide) rfl;rw[<-h];exact hS))
 ·exact fun x=>(by repeat (first|exact trivial|refine⟨.inr rfl,?_⟩|refine⟨.inl rfl,?_⟩))
 refine q2y4.All.step rfl (qu7n.Does.pure (val:=fun x=>(.agg #[.pointer (some ⟨cb,0,none⟩),.int .i64 v])) rfl (fun x=>fun h=>absurd h (by decide)) (fun x w hm hS=>⟨rfl,rfl,qfsz rfl (K0 x w hS) (K1 x w hS)⟩)) ?_;refine q2y4.All.step rfl (qu7n.Does.pure (val:=fun x=>(.int .i64 n)) rfl (fun x=>fun h=>absurd h (by decide)) (fun x w hm hS=>⟨rfl,rfl,rfl⟩)) ?_;refine q2y4.All.step rfl (qu7n.Does.pure (val:=fun x=>(.int .i64 m)) rfl (fun x=>fun h=>absurd h (by decide)) (fun x w hm hS=>⟨rfl,rfl,q3gv rfl hm1⟩)) ?_;refine q2y4.All.step rfl (qu7n.Does.pure (val:=fun x=>(.bool true)) rfl (fun x=>fun h=>absurd h (by decide)) (fun x w hm hS=>⟨rfl,rfl,qqiz rfl hz⟩)) ?_;refine q2y4.All.step rfl (qu7n.Does.pure (val:=fun x=>(.bool true)) rfl (fun x=>fun h=>absurd h (by decide)) (fun x w hm hS=>⟨rfl,rfl,rfl⟩)) ?_;refine q2y4.All.step rfl (qu7n.Does.pure (val:=fun x=>(.pointer (some ⟨B,1,none⟩))) rfl (fun x=>fun h=>absurd h (by decide)) (fun x w hm hS=>⟨rfl,rfl,qil8 rfl⟩)) ?_;refine q2y4.All.step rfl (qu7n.Does.pure (val:=fun x=>(.int .i64 v)) rfl (fun x=>fun h=>absurd h (by decide)) (fun x w hm hS=>⟨rfl,rfl,qd8q rfl (K1 x w hS)⟩)) ?_;refine q2y4.All.step rfl (qu7n.Does.pure (val:=fun x=>(.agg D)) rfl (fun x=>fun h=>absurd h (by decide)) (fun x w hm hS=>⟨rfl,rfl,q5g8 rfl hD (KD x w hS)⟩)) ?_;refine q2y4.All.step rfl (qu7n.Does.call (args:=fun x=>#[.int .i64 v,.agg D]) (val:=fun x=>(.bool b)) rfl (fun x=>fun h=>absurd h (by decide)) (fun x w hm hS=>⟨rfl,rfl,qpjl.enter2 func165 rfl rfl rfl,H17 x w hS⟩)) ?_;refine q2y4.All.step rfl (qu7n.Does.pure (val:=fun x=>(.bool b)) rfl (fun x=>fun h=>absurd h (by decide)) (fun x w hm hS=>⟨rfl,rfl,rfl⟩)) ?_;refine q2y4.All.step rfl (qu7n.Does.act (args:=fun x=>#[.agg #[.pointer (some ⟨cb,0,none⟩),.int .i64 v],.bool b,.int .i64 7]) (val:=fun x=>(.tuple #[])) (nx:=fun _=>true) (fun y hy x=>by cases hy;rfl) (fun x=>rfl) (fun x _=>rfl) (fun i x h e=>rfl) (fun i x hi h e=>absurd e hi) (fun x w hm hf hS=>⟨rfl,qpjl.enter3 func93 rfl rfl rfl rfl,H19 x w hS (hf rfl)⟩)) ?_;exact q2y4.All.fin rfl
theorem q7fu{Q:Exit->Act->World->Prop}{S:Bool->World->Prop}{W:World}{B P cb:Nat}{v n m:Int}{x0 x2 x5 x6 x7 x8 x9 x10 x11 x12 x13 x14 x15 x16 x17 x18 x19 x20:Value}
 (hS:S false W.drew) (K0:∀x w,S x w->w.cell? ⟨B,0,none⟩=some (.pointer (some ⟨cb,0,none⟩))) (K1:∀x w,S x w->w.cell? ⟨B,1,none⟩=some (.int .i64 v)) (hm1:bits .and .i64 n 1=m) (hz:(m==0)=false)
 (H19:∀(x:Bool) (w:World),S x w->x=false->Calls prog 93 #[.agg #[.pointer (some ⟨cb,0,none⟩),.int .i64 v],.bool false,.int .i64 7] w fun e w'=>e=.returned (.tuple #[])/\S ((fun _=>true) x) w')
 (fin:∀w,S true w->Q .normal ⟨#[x0,(.pointer (some ⟨B,0,none⟩)),x2,(.int .i64 n),(.pointer (some ⟨P,0,none⟩)),x5,x6,x7,x8,(.agg #[.pointer (some ⟨cb,0,none⟩),.int .i64 v]),(.int .i64 n),(.int .i64 m),(.bool false),(.bool false),undef,undef,undef,undef,(.bool false),(.tuple #[]),x20],[]⟩ w) :
 (Code.region 3 (qfhu.opsAt 3 Tryz.f172.body) true).wp prog Q ⟨#[x0,(.pointer (some ⟨B,0,none⟩)),x2,(.int .i64 n),(.pointer (some ⟨P,0,none⟩)),x5,x6,x7,x8,x9,x10,x11,x12,x13,x14,x15,x16,x17,x18,x19,x20],[]⟩ W:=by
 refine qu7n.wp (fresh:=fun i x=>(i=10->x=false)) (hf0:=fun i=>fun _=>rfl) (x:=false) (S:=S) (made:=fun i x=>(i=10->x=true)) (war:=[]) (ds:=[9,10,11,12,13,14,15,16,17,18,19]) (A:=[x0,(.pointer (some ⟨B,0,none⟩)),x2,(.int .i64 n),(.pointer (some ⟨P,0,none⟩)),x5,x6,x7,x8,x9,x10,x11,x12,x13,x14,x15,x16,x17,x18,x19,x20]) (B:=fun x=>[x0,(.pointer (some ⟨B,0,none⟩)),x2,(.int .i64 n),(.pointer (some ⟨P,0,none⟩)),x5,x6,x7,x8,(.agg #[.pointer (some ⟨cb,0,none⟩),.int .i64 v]),(.int .i64 n),(.int .i64 m),(.bool false),(.bool false),undef,undef,undef,undef,(.bool false),(.tuple #[]),x20]) (D:=[]) (by kernel_rfl) (by kernel_rfl) (by kernel_rfl) ?_ hS ?_ (fun x w hm hS=>fin w (by have h:=hm 10 (by decide) rfl;rw[<-h];exact hS))
 ·exact fun x=>(by repeat (first|exact trivial|refine⟨.inr rfl,?_⟩|refine⟨.inl rfl,?_⟩))
 refine q2y4.All.step rfl (qu7n.Does.pure (val:=fun x=>(.agg #[.pointer (some ⟨cb,0,none⟩),.int .i64 v])) rfl (fun x=>fun h=>absurd h (by decide)) (fun x w hm hS=>⟨rfl,rfl,qfsz rfl (K0 x w hS) (K1 x w hS)⟩)) ?_;refine q2y4.All.step rfl (qu7n.Does.pure (val:=fun x=>(.int .i64 n)) rfl (fun x=>fun h=>absurd h (by decide)) (fun x w hm hS=>⟨rfl,rfl,rfl⟩)) ?_;refine q2y4.All.step rfl (qu7n.Does.pure (val:=fun x=>(.int .i64 m)) rfl (fun x=>fun h=>absurd h (by decide)) (fun x w hm hS=>⟨rfl,rfl,q3gv rfl hm1⟩)) ?_;refine q2y4.All.step rfl (qu7n.Does.pure (val:=fun x=>(.bool false)) rfl (fun x=>fun h=>absurd h (by decide)) (fun x w hm hS=>⟨rfl,rfl,qqiz rfl hz⟩)) ?_;refine q2y4.All.step rfl (qu7n.Does.pure (val:=fun x=>(.bool false)) rfl (fun x=>fun h=>absurd h (by decide)) (fun x w hm hS=>⟨rfl,rfl,rfl⟩)) ?_
 iterate 4 refine q2y4.All.step rfl (qu7n.Does.skip rfl (fun x=>fun h=>absurd h (by decide)) (fun x=>⟨rfl,rfl⟩)) ?_
 refine q2y4.All.step rfl (qu7n.Does.pure (val:=fun x=>(.bool false)) rfl (fun x=>fun h=>absurd h (by decide)) (fun x w hm hS=>⟨rfl,rfl,rfl⟩)) ?_;refine q2y4.All.step rfl (qu7n.Does.act (args:=fun x=>#[.agg #[.pointer (some ⟨cb,0,none⟩),.int .i64 v],.bool false,.int .i64 7]) (val:=fun x=>(.tuple #[])) (nx:=fun _=>true) (fun y hy x=>by cases hy;rfl) (fun x=>rfl) (fun x _=>rfl) (fun i x h e=>rfl) (fun i x hi h e=>absurd e hi) (fun x w hm hf hS=>⟨rfl,qpjl.enter3 func93 rfl rfl rfl rfl,H19 x w hS (hf rfl)⟩)) ?_;exact q2y4.All.fin rfl
theorem qjsk{Q:Exit->Act->World->Prop}{S:Bool×Bool->World->Prop}{W:World}{B cb:Nat}{v:Int}{t:ByteArray}{b:Bool}{x0 x2 x3 x4 x5 x6 x7 x8 x9 x10 x11 x12 x13 x14 x15 x16 x17 x18 x19 x20 x21 x22 x23 x24 x25 x26 x27 x28 x29 x30 x31 x32 x33 x34 x35 x36 x37 x38 x39 x40 x41 x42 x43 x44 x45 x46 x47 x48 x49 x50 x51 x52 x53 x54:Value}
 (hS:S (false,false) W.drew) (K0:∀x w,S x w->w.cell? ⟨B,0,none⟩=some (.pointer (some ⟨cb,0,none⟩))) (K1:∀x w,S x w->w.cell? ⟨B,1,none⟩=some (.int .i64 v)) (hb:(t.toList==[0,4,77,81,84,84])=b)
 (H7:∀(x:Bool×Bool) (w:World),S x w->x.1=false->Calls prog 60 #[.pointer (some ⟨cb,0,none⟩),.int .i64 6] w fun e w'=>e=.returned (.string t)/\S ((fun x=>(true,x.2)) x) w')
 (H9:∀(x:Bool×Bool) (w:World),S x w->x.1=true->x.2=false->Calls prog 93 #[.agg #[.pointer (some ⟨cb,0,none⟩),.int .i64 v],.bool b,.int .i64 5] w fun e w'=>e=.returned (.tuple #[])/\S ((fun x=>(x.1,true)) x) w')
 (fin:∀w,S (true,true) w->Q .normal ⟨#[x0,(.pointer (some ⟨B,0,none⟩)),x2,x3,(.agg #[.pointer (some ⟨cb,0,none⟩),.int .i64 v]),(.pointer (some ⟨B,0,none⟩)),(.pointer (some ⟨cb,0,none⟩)),(.string t),(.bool b),(.tuple #[]),x10,x11,x12,x13,x14,x15,x16,x17,x18,x19,x20,x21,x22,x23,x24,x25,x26,x27,x28,x29,x30,x31,x32,x33,x34,x35,x36,x37,x38,x39,x40,x41,x42,x43,x44,x45,x46,x47,x48,x49,x50,x51,x52,x53,x54],[]⟩ w) :
 (Code.region 1 (qfhu.opsAt 1 Tryz.f133.body) true).wp prog Q ⟨#[x0,(.pointer (some ⟨B,0,none⟩)),x2,x3,x4,x5,x6,x7,x8,x9,x10,x11,x12,x13,x14,x15,x16,x17,x18,x19,x20,x21,x22,x23,x24,x25,x26,x27,x28,x29,x30,x31,x32,x33,x34,x35,x36,x37,x38,x39,x40,x41,x42,x43,x44,x45,x46,x47,x48,x49,x50,x51,x52,x53,x54],[]⟩ W:=by
 refine qu7n.wp (fresh:=fun i x=>(i=3->x.1=false)/\(i=5->x.2=false)) (hf0:=fun i=>⟨fun _=>rfl,fun _=>rfl⟩) (x:=(false,false)) (S:=S) (made:=fun i x=>(i=3->x.1=true)/\(i=5->x.2=true)) (war:=[]) (ds:=[4,5,6,7,8,9]) (A:=[x0,(.pointer (some ⟨B,0,none⟩)),x2,x3,x4,x5,x6,x7,x8,x9,x10,x11,x12,x13,x14,x15,x16,x17,x18,x19,x20,x21,x22,x23,x24,x25,x26,x27,x28,x29,x30,x31,x32,x33,x34,x35,x36,x37,x38,x39,x40,x41,x42,x43,x44,x45,x46,x47,x48,x49,x50,x51,x52,x53,x54]) (B:=fun x=>[x0,(.pointer (some ⟨B,0,none⟩)),x2,x3,(.agg #[.pointer (some ⟨cb,0,none⟩),.int .i64 v]),(.pointer (some ⟨B,0,none⟩)),(.pointer (some ⟨cb,0,none⟩)),(.string t),(.bool b),(.tuple #[]),x10,x11,x12,x13,x14,x15,x16,x17,x18,x19,x20,x21,x22,x23,x24,x25,x26,x27,x28,x29,x30,x31,x32,x33,x34,x35,x36,x37,x38,x39,x40,x41,x42,x43,x44,x45,x46,x47,x48,x49,x50,x51,x52,x53,x54]) (D:=[]) (by kernel_rfl) (by kernel_rfl) (by kernel_rfl) ?_ hS ?_ (fun x w hm hS=>fin w (by have h:=(hm 3 (by decide)).1 rfl;have h2:=(hm 5 (by decide)).2 rfl;rw[show(true,true)=x from(Prod.ext h h2).symm];exact hS))
 ·exact fun x=>(by repeat (first|exact trivial|refine⟨.inr rfl,?_⟩|refine⟨.inl rfl,?_⟩))
 refine q2y4.All.step rfl (qu7n.Does.pure (val:=fun x=>(.agg #[.pointer (some ⟨cb,0,none⟩),.int .i64 v])) rfl (fun x=>⟨fun h=>absurd h (by decide),fun h=>absurd h (by decide)⟩) (fun x w hm hS=>⟨rfl,rfl,qfsz rfl (K0 x w hS) (K1 x w hS)⟩)) ?_;refine q2y4.All.step rfl (qu7n.Does.pure (val:=fun x=>(.pointer (some ⟨B,0,none⟩))) rfl (fun x=>⟨fun h=>absurd h (by decide),fun h=>absurd h (by decide)⟩) (fun x w hm hS=>⟨rfl,rfl,q8i8 rfl⟩)) ?_;refine q2y4.All.step rfl (qu7n.Does.pure (val:=fun x=>(.pointer (some ⟨cb,0,none⟩))) rfl (fun x=>⟨fun h=>absurd h (by decide),fun h=>absurd h (by decide)⟩) (fun x w hm hS=>⟨rfl,rfl,qpti rfl (K0 x w hS)⟩)) ?_;refine q2y4.All.step rfl (qu7n.Does.act (args:=fun x=>#[.pointer (some ⟨cb,0,none⟩),.int .i64 6]) (val:=fun x=>(.string t)) (nx:=fun x=>(true,x.2)) (fun y hy x=>by cases hy;rfl) (fun x=>rfl) (fun x=>⟨fun _=>rfl,fun h=>absurd h (by decide)⟩) (fun i x h=>⟨fun _=>rfl,h.2⟩) (fun i x hi h=>⟨fun e=>absurd e hi,h.2⟩) (fun x w hm hf hS=>⟨rfl,qpjl.enter2 func60 rfl rfl rfl,H7 x w hS (hf.1 rfl)⟩)) ?_;refine q2y4.All.step rfl (qu7n.Does.pure (val:=fun x=>(.bool b)) rfl (fun x=>⟨fun h=>absurd h (by decide),fun h=>absurd h (by decide)⟩) (fun x w hm hS=>⟨rfl,rfl,qmwm rfl hb⟩)) ?_;refine q2y4.All.step rfl (qu7n.Does.act (args:=fun x=>#[.agg #[.pointer (some ⟨cb,0,none⟩),.int .i64 v],.bool b,.int .i64 5]) (val:=fun x=>(.tuple #[])) (nx:=fun x=>(x.1,true)) (fun y hy x=>by cases hy;rfl) (fun x=>rfl) (fun x=>⟨fun h=>absurd h (by decide),fun _=>rfl⟩) (fun i x h=>⟨h.1,fun _=>rfl⟩) (fun i x hi h=>⟨h.1,fun e=>absurd e hi⟩) (fun x w hm hf hS=>⟨rfl,qpjl.enter3 func93 rfl rfl rfl rfl,H9 x w hS ((hm 3 (by kernel_rfl) (by decide)).1 rfl) (hf.2 rfl)⟩)) ?_;exact q2y4.All.fin rfl
theorem q2os{Q:Exit->Act->World->Prop}{S:Bool×Bool->World->Prop}{W:World}{B cb:Nat}{v n:Int}{b:Bool}{x0 x2 x3 x4 x5 x6 x7 x8 x9 x10 x11 x12 x13 x14 x15 x16 x17 x18 x19 x20 x21 x22 x23 x24 x25 x26 x27 x28 x29 x30 x31 x32 x33 x34 x35 x36 x37 x38 x39 x40 x41 x42 x43 x44 x45 x46 x47 x48 x49 x50 x51 x52 x53 x54:Value}
 (hS:S (false,false) W.drew) (K0:∀x w,S x w->w.cell? ⟨B,0,none⟩=some (.pointer (some ⟨cb,0,none⟩))) (K1:∀x w,S x w->w.cell? ⟨B,1,none⟩=some (.int .i64 v)) (hb:(n==v)=b)
 (H12:∀(x:Bool×Bool) (w:World),S x w->x.1=false->Calls prog 170 #[.agg #[.pointer (some ⟨cb,0,none⟩),.int .i64 v]] w fun e w'=>e=.returned (.int .i64 n)/\S ((fun x=>(true,x.2)) x) w')
 (H16:∀(x:Bool×Bool) (w:World),S x w->x.1=true->x.2=false->Calls prog 93 #[.agg #[.pointer (some ⟨cb,0,none⟩),.int .i64 v],.bool b,.int .i64 5] w fun e w'=>e=.returned (.tuple #[])/\S ((fun x=>(x.1,true)) x) w')
 (fin:∀w,S (true,true) w->Q .normal ⟨#[x0,(.pointer (some ⟨B,0,none⟩)),x2,x3,x4,x5,x6,x7,x8,x9,(.agg #[.pointer (some ⟨cb,0,none⟩),.int .i64 v]),(.agg #[.pointer (some ⟨cb,0,none⟩),.int .i64 v]),(.int .i64 n),(.pointer (some ⟨B,1,none⟩)),(.int .i64 v),(.bool b),(.tuple #[]),x17,x18,x19,x20,x21,x22,x23,x24,x25,x26,x27,x28,x29,x30,x31,x32,x33,x34,x35,x36,x37,x38,x39,x40,x41,x42,x43,x44,x45,x46,x47,x48,x49,x50,x51,x52,x53,x54],[]⟩ w) :
 (Code.region 2 (qfhu.opsAt 2 Tryz.f133.body) true).wp prog Q ⟨#[x0,(.pointer (some ⟨B,0,none⟩)),x2,x3,x4,x5,x6,x7,x8,x9,x10,x11,x12,x13,x14,x15,x16,x17,x18,x19,x20,x21,x22,x23,x24,x25,x26,x27,x28,x29,x30,x31,x32,x33,x34,x35,x36,x37,x38,x39,x40,x41,x42,x43,x44,x45,x46,x47,x48,x49,x50,x51,x52,x53,x54],[]⟩ W:=by
 refine qu7n.wp (fresh:=fun i x=>(i=2->x.1=false)/\(i=6->x.2=false)) (hf0:=fun i=>⟨fun _=>rfl,fun _=>rfl⟩) (x:=(false,false)) (S:=S) (made:=fun i x=>(i=2->x.1=true)/\(i=6->x.2=true)) (war:=[]) (ds:=[10,11,12,13,14,15,16]) (A:=[x0,(.pointer (some ⟨B,0,none⟩)),x2,x3,x4,x5,x6,x7,x8,x9,x10,x11,x12,x13,x14,x15,x16,x17,x18,x19,x20,x21,x22,x23,x24,x25,x26,x27,x28,x29,x30,x31,x32,x33,x34,x35,x36,x37,x38,x39,x40,x41,x42,x43,x44,x45,x46,x47,x48,x49,x50,x51,x52,x53,x54]) (B:=fun x=>[x0,(.pointer (some ⟨B,0,none⟩)),x2,x3,x4,x5,x6,x7,x8,x9,(.agg #[.pointer (some ⟨cb,0,none⟩),.int .i64 v]),(.agg #[.pointer (some ⟨cb,0,none⟩),.int .i64 v]),(.int .i64 n),(.pointer (some ⟨B,1,none⟩)),(.int .i64 v),(.bool b),(.tuple #[]),x17,x18,x19,x20,x21,x22,x23,x24,x25,x26,x27,x28,x29,x30,x31,x32,x33,x34,x35,x36,x37,x38,x39,x40,x41,x42,x43,x44,x45,x46,x47,x48,x49,x50,x51,x52,x53,x54]) (D:=[]) (by kernel_rfl) (by kernel_rfl) (by kernel_rfl) ?_ hS ?_ (fun x w hm hS=>fin w (by have h:=(hm 2 (by decide)).1 rfl;have h2:=(hm 6 (by decide)).2 rfl;rw[show(true,true)=x from(Prod.ext h h2).symm];exact hS))
 ·exact fun x=>(by repeat (first|exact trivial|refine⟨.inr rfl,?_⟩|refine⟨.inl rfl,?_⟩))
 iterate 2 refine q2y4.All.step rfl (qu7n.Does.pure (val:=fun x=>(.agg #[.pointer (some ⟨cb,0,none⟩),.int .i64 v])) rfl (fun x=>⟨fun h=>absurd h (by decide),fun h=>absurd h (by decide)⟩) (fun x w hm hS=>⟨rfl,rfl,qfsz rfl (K0 x w hS) (K1 x w hS)⟩)) ?_
 refine q2y4.All.step rfl (qu7n.Does.act (args:=fun x=>#[.agg #[.pointer (some ⟨cb,0,none⟩),.int .i64 v]]) (val:=fun x=>(.int .i64 n)) (nx:=fun x=>(true,x.2)) (fun y hy x=>by cases hy;rfl) (fun x=>rfl) (fun x=>⟨fun _=>rfl,fun h=>absurd h (by decide)⟩) (fun i x h=>⟨fun _=>rfl,h.2⟩) (fun i x hi h=>⟨fun e=>absurd e hi,h.2⟩) (fun x w hm hf hS=>⟨rfl,qpjl.enter1 func170 rfl rfl,H12 x w hS (hf.1 rfl)⟩)) ?_;refine q2y4.All.step rfl (qu7n.Does.pure (val:=fun x=>(.pointer (some ⟨B,1,none⟩))) rfl (fun x=>⟨fun h=>absurd h (by decide),fun h=>absurd h (by decide)⟩) (fun x w hm hS=>⟨rfl,rfl,qil8 rfl⟩)) ?_;refine q2y4.All.step rfl (qu7n.Does.pure (val:=fun x=>(.int .i64 v)) rfl (fun x=>⟨fun h=>absurd h (by decide),fun h=>absurd h (by decide)⟩) (fun x w hm hS=>⟨rfl,rfl,qd8q rfl (K1 x w hS)⟩)) ?_;refine q2y4.All.step rfl (qu7n.Does.pure (val:=fun x=>(.bool b)) rfl (fun x=>⟨fun h=>absurd h (by decide),fun h=>absurd h (by decide)⟩) (fun x w hm hS=>⟨rfl,rfl,q424 rfl rfl hb⟩)) ?_;refine q2y4.All.step rfl (qu7n.Does.act (args:=fun x=>#[.agg #[.pointer (some ⟨cb,0,none⟩),.int .i64 v],.bool b,.int .i64 5]) (val:=fun x=>(.tuple #[])) (nx:=fun x=>(x.1,true)) (fun y hy x=>by cases hy;rfl) (fun x=>rfl) (fun x=>⟨fun h=>absurd h (by decide),fun _=>rfl⟩) (fun i x h=>⟨h.1,fun _=>rfl⟩) (fun i x hi h=>⟨h.1,fun e=>absurd e hi⟩) (fun x w hm hf hS=>⟨rfl,qpjl.enter3 func93 rfl rfl rfl rfl,H16 x w hS ((hm 2 (by kernel_rfl) (by decide)).1 rfl) (hf.2 rfl)⟩)) ?_;exact q2y4.All.fin rfl
theorem qwvm{Q:Exit->Act->World->Prop}{S:Bool->World->Prop}{W:World}{B cb:Nat}{v n:Int}{b:Bool}{x0 x1 x2 x3 x4 x5 x6 x7 x9 x10 x11 x12 x13 x14 x15 x16 x17 x18 x19 x20 x21 x22 x23 x24 x25 x26 x27 x28 x29 x30 x31 x32 x33 x34 x35 x36 x37 x38 x39 x40 x41:Value}
 (hS:S false W.drew) (K0:∀x w,S x w->w.cell? ⟨B,0,none⟩=some (.pointer (some ⟨cb,0,none⟩))) (K1:∀x w,S x w->w.cell? ⟨B,1,none⟩=some (.int .i64 v)) (hb:(n==0)=b)
 (H26:∀(x:Bool) (w:World),S x w->Calls prog 77 #[.pointer (some ⟨cb,0,none⟩)] w fun e w'=>e=.returned (.int .i64 n)/\S x w')
 (H28:∀(x:Bool) (w:World),S x w->x=false->Calls prog 93 #[.agg #[.pointer (some ⟨cb,0,none⟩),.int .i64 v],.bool b,.int .i64 5] w fun e w'=>e=.returned (.tuple #[])/\S ((fun _=>true) x) w')
 (fin:∀w,S true w->Q .normal ⟨#[x0,x1,x2,x3,x4,x5,x6,x7,(.pointer (some ⟨B,0,none⟩)),x9,x10,x11,x12,x13,x14,x15,x16,x17,x18,x19,x20,x21,x22,(.agg #[.pointer (some ⟨cb,0,none⟩),.int .i64 v]),(.pointer (some ⟨B,0,none⟩)),(.pointer (some ⟨cb,0,none⟩)),(.int .i64 n),(.bool b),(.tuple #[]),x29,x30,x31,x32,x33,x34,x35,x36,x37,x38,x39,x40,x41],[]⟩ w) :
 (Code.region 5 (qfhu.opsAt 5 Tryz.f67.body) true).wp prog Q ⟨#[x0,x1,x2,x3,x4,x5,x6,x7,(.pointer (some ⟨B,0,none⟩)),x9,x10,x11,x12,x13,x14,x15,x16,x17,x18,x19,x20,x21,x22,x23,x24,x25,x26,x27,x28,x29,x30,x31,x32,x33,x34,x35,x36,x37,x38,x39,x40,x41],[]⟩ W:=by
 refine qu7n.wp (fresh:=fun i x=>(i=5->x=false)) (hf0:=fun i=>fun _=>rfl) (x:=false) (S:=S) (made:=fun i x=>(i=5->x=true)) (war:=[]) (ds:=[23,24,25,26,27,28]) (A:=[x0,x1,x2,x3,x4,x5,x6,x7,(.pointer (some ⟨B,0,none⟩)),x9,x10,x11,x12,x13,x14,x15,x16,x17,x18,x19,x20,x21,x22,x23,x24,x25,x26,x27,x28,x29,x30,x31,x32,x33,x34,x35,x36,x37,x38,x39,x40,x41]) (B:=fun x=>[x0,x1,x2,x3,x4,x5,x6,x7,(.pointer (some ⟨B,0,none⟩)),x9,x10,x11,x12,x13,x14,x15,x16,x17,x18,x19,x20,x21,x22,(.agg #[.pointer (some ⟨cb,0,none⟩),.int .i64 v]),(.pointer (some ⟨B,0,none⟩)),(.pointer (some ⟨cb,0,none⟩)),(.int .i64 n),(.bool b),(.tuple #[]),x29,x30,x31,x32,x33,x34,x35,x36,x37,x38,x39,x40,x41]) (D:=[]) (by kernel_rfl) (by kernel_rfl) (by kernel_rfl) ?_ hS ?_ (fun x w hm hS=>fin w (by have h:=hm 5 (by decide) rfl;rw[<-h];exact hS))
 ·exact fun x=>(by repeat (first|exact trivial|refine⟨.inr rfl,?_⟩|refine⟨.inl rfl,?_⟩))
 refine q2y4.All.step rfl (qu7n.Does.pure (val:=fun x=>(.agg #[.pointer (some ⟨cb,0,none⟩),.int .i64 v])) rfl (fun x=>fun h=>absurd h (by decide)) (fun x w hm hS=>⟨rfl,rfl,qfsz rfl (K0 x w hS) (K1 x w hS)⟩)) ?_;refine q2y4.All.step rfl (qu7n.Does.pure (val:=fun x=>(.pointer (some ⟨B,0,none⟩))) rfl (fun x=>fun h=>absurd h (by decide)) (fun x w hm hS=>⟨rfl,rfl,q8i8 rfl⟩)) ?_;refine q2y4.All.step rfl (qu7n.Does.pure (val:=fun x=>(.pointer (some ⟨cb,0,none⟩))) rfl (fun x=>fun h=>absurd h (by decide)) (fun x w hm hS=>⟨rfl,rfl,qpti rfl (K0 x w hS)⟩)) ?_;refine q2y4.All.step rfl (qu7n.Does.call (args:=fun x=>#[.pointer (some ⟨cb,0,none⟩)]) (val:=fun x=>(.int .i64 n)) rfl (fun x=>fun h=>absurd h (by decide)) (fun x w hm hS=>⟨rfl,rfl,qpjl.enter1 func77 rfl rfl,H26 x w hS⟩)) ?_;refine q2y4.All.step rfl (qu7n.Does.pure (val:=fun x=>(.bool b)) rfl (fun x=>fun h=>absurd h (by decide)) (fun x w hm hS=>⟨rfl,rfl,qqiz rfl hb⟩)) ?_;refine q2y4.All.step rfl (qu7n.Does.act (args:=fun x=>#[.agg #[.pointer (some ⟨cb,0,none⟩),.int .i64 v],.bool b,.int .i64 5]) (val:=fun x=>(.tuple #[])) (nx:=fun _=>true) (fun y hy x=>by cases hy;rfl) (fun x=>rfl) (fun x _=>rfl) (fun i x h e=>rfl) (fun i x hi h e=>absurd e hi) (fun x w hm hf hS=>⟨rfl,qpjl.enter3 func93 rfl rfl rfl rfl,H28 x w hS (hf rfl)⟩)) ?_;exact q2y4.All.fin rfl
def qfkc(t:Bool)(p:Pk):Pk:={Pk.zero with kind:=p.kind,code:=if t then p.code else 0,props:=if t then p.props else []}
def q43o(t:Bool)(a:Ad):Ad:={adZ with ps:=if t then a.ps else none,pc:=if t then a.pc else 0}
theorem qt8s(v:Int)(p:Pk):usedK v p=qfkc (!q6gd v p.kind) p:=by unfold usedK qfkc;cases q6gd v p.kind<;>rfl
theorem q2c6{w:World}{p:Pk}{a:Ad}(t:Bool)(h:PkAt w p a):PkAt w (qfkc t p) (q43o t a):=by
 refine⟨fun e=>absurd rfl e,fun e=>absurd rfl e,fun e=>absurd rfl e,?_⟩;unfold qfkc q43o;cases t with
 |true=>exact h.ps
 |false=>exact fun e=>absurd rfl e
theorem qynt{p:Pk}(t:Bool)(h:q21o p):q21o (qfkc t p):=by
 refine⟨Nat.zero_le _,Nat.zero_le _,?_,Nat.zero_le _⟩;cases t with
 |true=>exact h.2.2.1
 |false=>exact Nat.zero_le _
section
variable{w W W':World}{p x:Pk}{a b:Ad}
theorem SmS.cell(h:SmS w p a x b W)(j:Nat):W.cell? ⟨w.heap.size,j,none⟩=(pkC p a)[j]? := cell_of_row _ _ j _ _ _ h.p
theorem SmS.ncell(h:SmS w p a x b W)(j:Nat):W.cell? ⟨w.heap.size+1,j,none⟩=(pkC x b)[j]? := cell_of_row _ _ j _ _ _ h.q
theorem SmS.fr(h:SmS w p a x b W)(j:Nat):W.frozen? ⟨w.heap.size+1,j,none⟩=false:=frozen_of_row _ _ _ _ _ h.q
theorem SmS.put(h:SmS w p a x b W)(j:Nat)(u:Value){x':Pk}{b':Ad}(he:(pkC x b).setIfInBounds j u=pkC x' b'):SmS w p a x' b' (W.setCell ⟨w.heap.size+1,j,none⟩ u):=
 ⟨h.low.setCell (by show _<=w.heap.size+1;omega) u,(heap_setCell_other W ⟨w.heap.size+1,j,none⟩ _ u (by show w.heap.size≠w.heap.size+1;omega)).trans h.p,
  by have:=qlvy h.q j u;rw[he] at this;exact this⟩
theorem SmS.drew(h:SmS w p a x b W):SmS w p a x b W.drew:=⟨h.low.drew,h.p,h.q⟩
end
def qdz0(p:Pk):Pk:={Pk.zero with kind:=p.kind}
theorem qqfg(t:Bool)(p:Pk)(a:Ad)(w:World)(hp:PkAt w p a)(sp:q21o p) :
 Calls prog 161 #[.bool t,.agg (pkC p a)] w fun e w'=>e=.returned (.bool (decide (p=qfkc t p)&&(!t || mayR p.kind p.code)))/\Below w.heap.size w w':=by
 have Z0:(w.alloc (.cells (pkC p a) 32)).heap.size=w.heap.size+1:=by simp
 have GN:((w.alloc (.cells (pkC p a) 32)).alloc (.cells pkZ 32)).heap[w.heap.size+1]?=some (.cells pkZ 32 (0,0)):=by
  have:=heap_alloc_new (w.alloc (.cells (pkC p a) 32)) (.cells pkZ 32)
  rw[Z0] at this;exact this
 have S0:SmS w p a (qdz0 p) adZ (((w.alloc (.cells (pkC p a) 32)).alloc (.cells pkZ 32)).setRow (w.heap.size+1) (pkC (qdz0 p) adZ)):=
  ⟨q8xz (qxh2 (qybm _) (qybm _)) (by omega) _,(setRow_other _ _ _ _ (by omega)).trans (heap_alloc2_old _ _ _),setRow_heap _ _ _ _ _ _ GN⟩
 have SM:=hid (fun V (h:SmS w p a (qfkc t p) (q43o t a) V)=>(qyk8 p (qfkc t p) a (q43o t a) V (hp.below h.low) (q2c6 t (hp.below h.low)) sp (qynt t sp)).mono fun e W' hh=>(⟨hh.1,h.call hh.2⟩:_/\SmS w p a (qfkc t p) (q43o t a) W'));have MA:=hid (fun V (h:SmS w p a (qfkc t p) (q43o t a) V)=>(qeiz p.kind p.code V).mono fun e W' hh=>(⟨hh.1,h.call hh.2⟩:_/\SmS w p a (qfkc t p) (q43o t a) W'));have hzv:=qrai;have hne:¬pkZ=#[]:=by intro h;have:=qbwp;rw[h] at this;cases this
 have HZ:=hid qbwp;have GN:=hid GN;have hD1:=qwmp (qdz0 p) adZ;have hD2:=qmz0 (qdz0 p) adZ;obtain⟨D,hD⟩:∃D,pkC (qdz0 p) adZ=D:=⟨_,rfl⟩
 rw[hD] at hD1 hD2 S0;have HD:=hid hD;have HD1:=hid hD1;have HD2:=hid hD2;have HS0:=hid S0;have C1:=hid (qwmp p a);have C2:=hid (qwmp (qfkc t p) (q43o t a));have k0:(w.alloc (.cells (pkC p a) 32)).cell? ⟨w.heap.size,0,none⟩=some (.int .i64 p.kind):=cell_of_row _ _ 0 _ _ _ (heap_alloc_new _ _);clear S0 hD hD1 hD2 Z0 hp sp;generalize decide (p=qfkc t p)=s at *;generalize mayR p.kind p.code=m at *;obtain⟨r,hr⟩:∃r,(s&&(!t || m))=r:=⟨_,rfl⟩
 rw[hr];have HR:=hid hr;clear hr;go_in
 go_upto_if 9 with (first
  |(refine wpList_buildTo rfl 32 _ rfl (some _) rfl D (by rw[<-HD.out];kernel_rfl) ?_)
  |(refine wpList_store_row rfl _ _ _ rfl (w.heap.size+1) D rfl rfl 32 _ GN.out (by rw[HD1.out];exact q5nr) (by rw[HZ.out,HD1.out]) HD2.out ?_))
 clear k0 GN HZ hne hzv;go_cut [] (fun wx=>SmS w p a (qfkc t p) (q43o t a) wx)
 case first=>
  generalize ((w.alloc (.cells (pkC p a) 32)).alloc (.cells pkZ 32)).setRow (w.heap.size+1) D=W at *;cases t with
  |true=>
   have S1:=hid ((HS0.out.put 21 (.int .i64 p.code) (x':={qdz0 p with code:=p.code}) (b':=adZ) rfl).put 24 (.slice a.ps p.props.length a.pc) (x':=qfkc true p) (b':=q43o true a) rfl);have k21:W.cell? ⟨w.heap.size,21,none⟩=some (.int .i64 p.code):=HS0.out.cell 21;have k24:W.cell? ⟨w.heap.size,24,none⟩=some (.slice a.ps p.props.length a.pc):=HS0.out.cell 24;have n21:W.cell? ⟨w.heap.size+1,21,none⟩=some (.int .i64 0):=HS0.out.ncell 21;have n24:W.cell? ⟨w.heap.size+1,24,none⟩=some (.slice none 0 0):=HS0.out.ncell 24;have f21:=HS0.out.fr 21;have f24:=HS0.out.fr 24;clear HS0
   go_upto_region 3 with fail
   go_region
   go_wp2_with fail
   go_meet
   exact S1.out.drew
  |false=>
   go_wp2_with fail
   go_meet
   exact HS0.out
 case rest=>
  have HS:=hid hcut;clear hcut HS0
  go_upto_region 4 with fail
  clear HD HD1 HD2;obtain⟨C,hC⟩:∃C,pkC p a=C:=⟨_,rfl⟩
  obtain⟨E,hE⟩:∃E,pkC (qfkc t p) (q43o t a)=E:=⟨_,rfl⟩
  have BC:=hid (fun V (h:SmS w p a (qfkc t p) (q43o t a) V)=>(by rw[<-hC];exact h.p:V.heap[w.heap.size]?=some (.cells C 32 (0,0))));have BE:=hid (fun V (h:SmS w p a (qfkc t p) (q43o t a) V)=>(by rw[<-hE];exact h.q:V.heap[w.heap.size+1]?=some (.cells E 32 (0,0))));have LOW:=hid (fun V (h:SmS w p a (qfkc t p) (q43o t a) V)=>h.low);have c0:∀V,SmS w p a (qfkc t p) (q43o t a) V->V.cell? ⟨w.heap.size,0,none⟩=some (.int .i64 p.kind):=fun V h=>h.cell 0;have c21:∀V,SmS w p a (qfkc t p) (q43o t a) V->V.cell? ⟨w.heap.size,21,none⟩=some (.int .i64 p.code):=fun V h=>h.cell 21;have K0:=hid c0;have K21:=hid c21;clear c0 c21;unfold pkV at SM;rw[hC] at C1 SM;rw[hE] at C2 SM;rw[hC];clear hC hE;generalize p.kind=k at *;generalize p.code=c at *;cases s with
  |false=>
   clear MA;go_wp2_with (first
    |(refine wpList_load_row rfl _ _ rfl w.heap.size rfl 32 _ (0,0) _ (BC.out _ HS.out) underlying32 rfl (by rw[C1.out];exact q5nr) ?_)
    |(refine wpList_load_row rfl _ _ rfl (w.heap.size+1) rfl 32 _ (0,0) _ (BE.out _ HS.out) underlying32 rfl (by rw[C2.out];exact q5nr) ?_))
   refine(SM.out _ HS.out).mono ?_;rintro e W ⟨rfl,hb⟩;have LO:=hid (LOW.out _ hb);clear hb;go_wp2;go_ret;exact⟨by rw[<-HR.out];rfl,LO.out⟩
  |true=>
   cases t with
   |false=>
    clear MA;go_wp2_with (first
     |(refine wpList_load_row rfl _ _ rfl w.heap.size rfl 32 _ (0,0) _ (BC.out _ HS.out) underlying32 rfl (by rw[C1.out];exact q5nr) ?_)
     |(refine wpList_load_row rfl _ _ rfl (w.heap.size+1) rfl 32 _ (0,0) _ (BE.out _ HS.out) underlying32 rfl (by rw[C2.out];exact q5nr) ?_))
    refine(SM.out _ HS.out).mono ?_;rintro e W ⟨rfl,hb⟩;have LO:=hid (LOW.out _ hb);clear hb;go_wp2;go_ret;exact⟨by rw[<-HR.out];rfl,LO.out⟩
   |true=>
    go_wp2_with (first
     |(refine wpList_load_row rfl _ _ rfl w.heap.size rfl 32 _ (0,0) _ (BC.out _ HS.out) underlying32 rfl (by rw[C1.out];exact q5nr) ?_)
     |(refine wpList_load_row rfl _ _ rfl (w.heap.size+1) rfl 32 _ (0,0) _ (BE.out _ HS.out) underlying32 rfl (by rw[C2.out];exact q5nr) ?_))
    refine(SM.out _ HS.out).mono ?_;rintro e W ⟨rfl,hb⟩;have HS2:=hid hb;have k0:W.cell? ⟨w.heap.size,0,none⟩=some (.int .i64 k):=K0.out _ hb;have k21:W.cell? ⟨w.heap.size,21,none⟩=some (.int .i64 c):=K21.out _ hb;clear hb HS;go_wp2_with fail;refine(MA.out _ HS2.out).mono ?_;rintro e W2 ⟨rfl,hb⟩;have LO:=hid (LOW.out _ hb);clear hb;go_wp2;go_ret;exact⟨by rw[<-HR.out];rfl,LO.out⟩
theorem qeqd{Q:Exit->Act->World->Prop}{S:World->Prop}{W:World}{b B cb:Nat}{f:Int}{C:Array Value}{x0 x1 x2 x3 x5 x8 x9 x10 x11 x12 x13 x14 x15 x16 x17 x18 x19 x20 x21 x22 x23 x24 x25 x26 x27 x28 x29 x30 x31 x32 x33 x34 x35 x36 x37 x38 x39 x40 x41 x42 x43 x44 x45 x46 x47 x48 x49 x50 x51 x52:Value}
 (hS:S W.drew) (hC:C.size=25) (h1:C.all (·.oneCell')=true) (hb:B≠b) (KB:∀w,S w->w.heap[B]?=some (.cells C 32 (0,0))) (KR:∀w,S w->∃old,w.heap[b]?=some (.cells old 32 (0,0))/\old.size=25)
 (H0:∀w,S w->Calls prog 37 #[(.pointer (some ⟨cb,0,none⟩))] w fun e w'=>e=.returned (.int .i64 f)/\w=w')
 (H1:∀w,S w->Calls prog 37 #[(.pointer (some ⟨cb,0,none⟩))] (w.setRow b C) fun e w'=>e=.returned (.int .i64 f)/\w.setRow b C=w')
 (fin:∀w,S w->Q .normal ⟨#[x0,x1,x2,x3,(.pointer (some ⟨b,0,none⟩)),(.int .i64 f),(.pointer (some ⟨cb,0,none⟩)),(.pointer (some ⟨B,0,none⟩)),x8,x9,x10,x11,x12,x13,x14,x15,x16,x17,x18,x19,x20,x21,x22,x23,x24,x25,x26,x27,x28,x29,x30,x31,x32,x33,x34,x35,x36,x37,x38,x39,x40,x41,x42,x43,x44,x45,x46,x47,x48,x49,(.agg C),(.pointer (some ⟨cb,0,none⟩)),(.int .i64 f)],[]⟩ (w.setRow b C)) :
 (Code.region 11 (qfhu.opsAt 11 Tryz.f123.body) true).wp prog Q ⟨#[x0,x1,x2,x3,(.pointer (some ⟨b,0,none⟩)),x5,(.pointer (some ⟨cb,0,none⟩)),(.pointer (some ⟨B,0,none⟩)),x8,x9,x10,x11,x12,x13,x14,x15,x16,x17,x18,x19,x20,x21,x22,x23,x24,x25,x26,x27,x28,x29,x30,x31,x32,x33,x34,x35,x36,x37,x38,x39,x40,x41,x42,x43,x44,x45,x46,x47,x48,x49,x50,x51,x52],[]⟩ W:=by
 refine q2y4.wp (x:=false) (S:=fun x W=>∃V,S V/\W=if x=true then V.setRow b C else V) (made:=fun i x=>i=3->x=true) (war:=[]) (ds:=[50,51,52,5]) (A:=[x0,x1,x2,x3,(.pointer (some ⟨b,0,none⟩)),x5,(.pointer (some ⟨cb,0,none⟩)),(.pointer (some ⟨B,0,none⟩)),x8,x9,x10,x11,x12,x13,x14,x15,x16,x17,x18,x19,x20,x21,x22,x23,x24,x25,x26,x27,x28,x29,x30,x31,x32,x33,x34,x35,x36,x37,x38,x39,x40,x41,x42,x43,x44,x45,x46,x47,x48,x49,x50,x51,x52]) (B:=fun x=>[x0,x1,x2,x3,(.pointer (some ⟨b,0,none⟩)),(.int .i64 f),(.pointer (some ⟨cb,0,none⟩)),(.pointer (some ⟨B,0,none⟩)),x8,x9,x10,x11,x12,x13,x14,x15,x16,x17,x18,x19,x20,x21,x22,x23,x24,x25,x26,x27,x28,x29,x30,x31,x32,x33,x34,x35,x36,x37,x38,x39,x40,x41,x42,x43,x44,x45,x46,x47,x48,x49,(.agg C),(.pointer (some ⟨cb,0,none⟩)),(.int .i64 f)]) (D:=[]) (by kernel_rfl) (by kernel_rfl) (by kernel_rfl) ?_ ⟨_,hS,rfl⟩ ?_ ?fin
 case refine_1=>exact fun x=>(by repeat (first|exact trivial|refine⟨.inr rfl,?_⟩|refine⟨.inl rfl,?_⟩))
 refine q2y4.All.step rfl (q2y4.Does.pure (val:=fun x=>(.agg C)) rfl (fun x h=>absurd h (by decide)) (fun x w hm hS=>⟨rfl,rfl,qjuh rfl hC (by
  obtain⟨V,hV,hw⟩:=hS;subst hw;cases x
  ·exact KB V hV
  ·exact(setRow_other V b B C hb).trans (KB V hV))⟩)) ?_
 refine q2y4.All.step rfl (q2y4.Does.pure (val:=fun x=>(.pointer (some ⟨cb,0,none⟩))) rfl (fun x h=>absurd h (by decide)) (fun x w hm hS=>⟨rfl,rfl,rfl⟩)) ?_;refine q2y4.All.step rfl (q2y4.Does.call (val:=fun x=>(.int .i64 f)) rfl (fun x h=>absurd h (by decide)) (fun x w hm hS=>⟨rfl,rfl,qpjl.enter1 func37 rfl rfl,by
  obtain⟨V,hV,hw⟩:=hS;subst hw;cases x
  ·exact(H0 V hV).mono fun e w' ⟨he,hk⟩=>⟨he,V,hV,hk.symm⟩
  ·exact(H1 V hV).mono fun e w' ⟨he,hk⟩=>⟨he,V,hV,hk.symm⟩⟩)) ?_
 refine q2y4.All.step rfl (fun x w hm hS=>by
  obtain⟨V,hV,hw⟩:=hS;obtain⟨old,ho,hs⟩:=KR V hV;refine .inl ⟨rfl,.skip true (V.setRow b C) ?_ ⟨fun d hd=>(by cases hd),⟨V,hV,rfl⟩,fun _=>rfl,fun i h e=>rfl,[],rfl,q2y4.off_refl 0 _⟩⟩;subst hw;cases x
  ·exact qn4o rfl rfl hC h1 ho hs
  ·exact(qn4o rfl rfl hC h1 (setRow_heap V b old C _ _ ho) hC).trans (by rw[setRow_setRow])) ?_
 refine q2y4.All.step rfl (q2y4.Does.pure (val:=fun x=>(.int .i64 f)) rfl (fun x h=>absurd h (by decide)) (fun x w hm hS=>⟨rfl,rfl,rfl⟩)) ?_;exact q2y4.All.fin rfl
 case fin=>intro x w hm hS;obtain⟨V,hV,hw⟩:=hS;obtain rfl:=hm 3 (by decide+kernel) rfl;subst hw;exact fin V hV
section
variable{a:Act}{w:World}{d:Option Tmp}{p:String}{af:Array Edge}{gd:Option (Nat×Bool)}{x y z:Tmp}{r:TypeId}
theorem q45x{g:Nat}{z:Int}(hx:a.eval (.tmp x)=.pointer (some ⟨g,0,none⟩))(hc:w.cell? ⟨g,0,none⟩=some (.int .i64 z)) :
 (execOp a.eval {dst:=d,op := .load 3 (.tmp x),type:=3,pos:=p,after:=af,guard:=gd}).run prog w=.ok (.value (.int .i64 z)) w:=by
 generalize a.eval=f at *;go_simp
theorem q0s8{g:Nat}{C:Array Value}(hx:a.eval (.tmp x)=.pointer (some ⟨g,0,none⟩))(hs:C.size=25)(hg:w.heap[g]?=some (.cells C 32 (0,0))) :
 (execOp a.eval {dst:=d,op := .load 32 (.tmp x),type:=32,pos:=p,after:=af,guard:=gd}).run prog w=.ok (.value (.agg C)) w:=by
 unfold execOp;simp only[hx,Instr.loadAt,Instr.sureAddr,Sem.run_bind,Sem.run_pure,Result.andThen_ok,run_loadVar_row w g 32 32 C (0,0) _ hg underlying32 rfl (by rw[hs];exact q5nr)]
end
theorem qikm{Q:Exit->Act->World->Prop}{S:World->Prop}{W:World}{b1 b2:Nat}{v z:Int}{C D:Array Value}{b:Bool}{x2 x3 x4 x5 x6 x7 x8 x9 x10 x11 x12:Value}
 (hS:S W.drew) (hC:C.size=25) (KC:∀w,S w->w.heap[b2]?=some (.cells C 32 (0,0))) (KV:∀w,S w->w.cell? ⟨b1,0,none⟩=some (.int .i64 v))
 (H0:∀w,S w->Calls prog 139 #[(.agg C)] w fun e w'=>e=.returned (.bool true)/\S w')
 (H1:∀w,S w->Calls prog 141 #[(.int .i64 v),(.agg C)] w fun e w'=>e=.returned (.agg D)/\S w')
 (H2:∀w,S w->Calls prog 140 #[(.agg C),(.agg D)] w fun e w'=>e=.returned (.bool b)/\S w')
 (H3:∀w,S w->Calls prog 135 #[(.bool b),.int .i64 2] w fun e w'=>e=.returned (.int .i64 z)/\S w')
 (fin:∀w,S w->Q .normal ⟨#[(.pointer (some ⟨b2,0,none⟩)),(.pointer (some ⟨b1,0,none⟩)),(.int .i64 z),(.agg C),(.bool true),(.bool true),(.agg C),(.int .i64 v),(.agg C),(.agg D),(.bool b),(.bool b),(.int .i64 z)],[]⟩ w) :
 (Code.region 1 (qfhu.opsAt 1 Tryz.f138.body) true).wp prog Q ⟨#[(.pointer (some ⟨b2,0,none⟩)),(.pointer (some ⟨b1,0,none⟩)),x2,x3,x4,x5,x6,x7,x8,x9,x10,x11,x12],[]⟩ W:=by
 refine qfhu.wp_in (ds:=[3,4,5,6,7,8,9,10,11,12,2]) (D:=[]) (by kernel_rfl) (by kernel_rfl) (by kernel_rfl) ?_ hS ?_ (fun w hS=>fin w hS)
 ·exact(by repeat (first|exact trivial|refine⟨.inr rfl,?_⟩|refine⟨.inl rfl,?_⟩))
 refine qfhu.pu rfl rfl rfl rfl (fun w hS=>q0s8 rfl hC (KC w hS)) ?_;refine qfhu.ca rfl rfl rfl rfl (fun w=>qpjl.enter1 func139 rfl rfl) H0 ?_;refine qfhu.pu rfl rfl rfl rfl (fun w hS=>rfl) ?_;refine qfhu.pu rfl rfl rfl rfl (fun w hS=>q0s8 rfl hC (KC w hS)) ?_;refine qfhu.pu rfl rfl rfl rfl (fun w hS=>q45x rfl (KV w hS)) ?_;refine qfhu.pu rfl rfl rfl rfl (fun w hS=>q0s8 rfl hC (KC w hS)) ?_;refine qfhu.ca rfl rfl rfl rfl (fun w=>qpjl.enter2 func141 rfl rfl rfl) H1 ?_;refine qfhu.ca rfl rfl rfl rfl (fun w=>qpjl.enter2 func140 rfl rfl rfl) H2 ?_;refine qfhu.pu rfl rfl rfl rfl (fun w hS=>rfl) ?_;refine qfhu.ca rfl rfl rfl rfl (fun w=>qpjl.enter2 func135 rfl rfl rfl) H3 ?_;refine qfhu.pu rfl rfl rfl rfl (fun w hS=>rfl) ?_;exact qfhu.All.fin rfl
theorem qjt8{Q:Exit->Act->World->Prop}{S:World->Prop}{W:World}{b1 b2:Nat}{z:Int}{C:Array Value}{x2 x3 x4 x5 x6 x7 x8 x9 x10 x11 x12:Value}
 (hS:S W.drew) (hC:C.size=25) (KC:∀w,S w->w.heap[b2]?=some (.cells C 32 (0,0)))
 (H0:∀w,S w->Calls prog 139 #[(.agg C)] w fun e w'=>e=.returned (.bool false)/\S w')
 (H1:∀w,S w->Calls prog 135 #[(.bool false),.int .i64 2] w fun e w'=>e=.returned (.int .i64 z)/\S w')
 (fin:∀w,S w->Q .normal ⟨#[(.pointer (some ⟨b2,0,none⟩)),(.pointer (some ⟨b1,0,none⟩)),(.int .i64 z),(.agg C),(.bool false),(.bool false),undef,undef,undef,undef,undef,(.bool false),(.int .i64 z)],[]⟩ w) :
 (Code.region 1 (qfhu.opsAt 1 Tryz.f138.body) true).wp prog Q ⟨#[(.pointer (some ⟨b2,0,none⟩)),(.pointer (some ⟨b1,0,none⟩)),x2,x3,x4,x5,x6,x7,x8,x9,x10,x11,x12],[]⟩ W:=by
 refine qfhu.wp_in (ds:=[3,4,5,6,7,8,9,10,11,12,2]) (D:=[]) (by kernel_rfl) (by kernel_rfl) (by kernel_rfl) ?_ hS ?_ (fun w hS=>fin w hS)
 ·exact(by repeat (first|exact trivial|refine⟨.inr rfl,?_⟩|refine⟨.inl rfl,?_⟩))
 refine qfhu.pu rfl rfl rfl rfl (fun w hS=>q0s8 rfl hC (KC w hS)) ?_;refine qfhu.ca rfl rfl rfl rfl (fun w=>qpjl.enter1 func139 rfl rfl) H0 ?_
 iterate 7 (first|refine qfhu.sk rfl rfl rfl rfl ?_|refine qfhu.pu rfl rfl rfl rfl (fun w hS=>rfl) ?_)
 refine qfhu.ca rfl rfl rfl rfl (fun w=>qpjl.enter2 func135 rfl rfl rfl) H1 ?_;refine qfhu.pu rfl rfl rfl rfl (fun w hS=>rfl) ?_;exact qfhu.All.fin rfl
section
variable{a:Act}{w:World}{d:Option Tmp}{p:String}{af:Array Edge}{gd:Option (Nat×Bool)}{x y z:Tmp}{r:TypeId}
theorem qusw{u v z:ByteArray}(hx:a.eval (.tmp x)=.string u)(hy:a.eval (.tmp y)=.string v)(hz:u++v=z)(hn:z.size<=9223372036854775807) :
 (execOp a.eval {dst:=d,op := .binOp .add 9 (.tmp x) (.tmp y) 9,type:=r,pos:=p,after:=af,guard:=gd}).run prog w=.ok (.value (.string z)) w:=by
 have hn:¬9223372036854775807<u.size+v.size:=by rw[<-hz,ByteArray.size_append] at hn;omega
 generalize a.eval=f at *;rw[<-hz];go_simp
theorem q2ke{g:Nat}{C:Array Value}(hx:a.eval (.tmp x)=.pointer (some ⟨g,0,none⟩))(hs:C.size=25)(hg:w.heap[g]?=some (.cells C 32 (0,0))) :
 (execOp a.eval {dst:=d,op := .load 32 (.tmp x),type:=32,pos:=p,after:=af,guard:=gd}).run prog w=.ok (.value (.agg C)) w:=by
 unfold execOp;simp only[hx,Instr.loadAt,Instr.sureAddr,Sem.run_bind,Sem.run_pure,Result.andThen_ok,run_loadVar_row w g 32 32 C (0,0) _ hg underlying32 rfl (by rw[hs];exact q5nr)]
theorem qc3b{g:Nat}(hx:a.eval (.tmp x)=.pointer (some ⟨g,0,none⟩)) :
 (execOp a.eval {dst:=d,op := .fieldAddr 32 (.tmp x) 6,type:=r,pos:=p,after:=af,guard:=gd}).run prog w=.ok (.value (.pointer (some ⟨g,6,none⟩))) w:=by
 generalize a.eval=f at *;go_simp
theorem qmlj{g j:Nat}{u:ByteArray}(hx:a.eval (.tmp x)=.pointer (some ⟨g,j,none⟩))(hc:w.cell? ⟨g,j,none⟩=some (.string u)) :
 (execOp a.eval {dst:=d,op := .load 9 (.tmp x),type:=9,pos:=p,after:=af,guard:=gd}).run prog w=.ok (.value (.string u)) w:=by
 generalize a.eval=f at *;go_simp
end
theorem q869{Q:Exit->Act->World->Prop}{S:World->Prop}{W:World}{b:Nat}{v:Int}{C:Array Value}{N I T PA Z1 Z2 Z3:ByteArray}{x1 x2 x4 x5 x6 x8 x9 x10 x11 x12 x13 x14 x15 x16 x17 x18 x19 x20 x21 x22 x23 x24 x25 x26 x27 x28 x29 x30 x31:Value}
 (hS:S W.drew) (hC:C.size=25) (KC:∀w,S w->w.heap[b]?=some (.cells C 32 (0,0))) (K6:∀w,S w->w.cell? ⟨b,6,none⟩=some (.string PA))
 (H0:∀w,S w->Calls prog 96 #[(.agg C)] w fun e w'=>e=.returned (.string I)/\S w')
 (H1:∀w,S w->Calls prog 97 #[(.int .i64 v),(.agg C)] w fun e w'=>e=.returned (.string T)/\S w')
 (eZ1:N++I=Z1) (sZ1:Z1.size<=9223372036854775807) (eZ2:Z1++T=Z2) (sZ2:Z2.size<=9223372036854775807) (eZ3:Z2++PA=Z3) (sZ3:Z3.size<=9223372036854775807)
 (fin:∀w,S w->Q .normal ⟨#[(.int .i64 v),x1,x2,(.pointer (some ⟨b,0,none⟩)),(.string Z3),(.int .i64 0),x6,(.string N),x8,x9,x10,x11,x12,x13,x14,x15,x16,x17,x18,x19,x20,(.string N),(.agg C),(.string I),(.string Z1),(.int .i64 v),(.agg C),(.string T),(.string Z2),(.pointer (some ⟨b,6,none⟩)),(.string PA),(.string Z3)],[]⟩ w) :
 (Code.region 5 (qfhu.opsAt 5 Tryz.f68.body) true).wp prog Q ⟨#[(.int .i64 v),x1,x2,(.pointer (some ⟨b,0,none⟩)),x4,x5,x6,(.string N),x8,x9,x10,x11,x12,x13,x14,x15,x16,x17,x18,x19,x20,x21,x22,x23,x24,x25,x26,x27,x28,x29,x30,x31],[]⟩ W:=by
 refine qfhu.wp_in (ds:=[21,22,23,24,25,26,27,28,29,30,31,4,5]) (D:=[]) (by kernel_rfl) (by kernel_rfl) (by kernel_rfl) ?_ hS ?_ (fun w hS=>fin w hS)
 ·exact(by repeat (first|exact trivial|refine⟨.inr rfl,?_⟩|refine⟨.inl rfl,?_⟩))
 refine qfhu.pu rfl rfl rfl rfl (fun w hS=>rfl) ?_;refine qfhu.pu rfl rfl rfl rfl (fun w hS=>q2ke rfl hC (KC w hS)) ?_;refine qfhu.ca rfl rfl rfl rfl (fun w=>qpjl.enter1 func96 rfl rfl) H0 ?_;refine qfhu.pu rfl rfl rfl rfl (fun w hS=>qusw rfl rfl eZ1 sZ1) ?_;refine qfhu.pu rfl rfl rfl rfl (fun w hS=>rfl) ?_;refine qfhu.pu rfl rfl rfl rfl (fun w hS=>q2ke rfl hC (KC w hS)) ?_;refine qfhu.ca rfl rfl rfl rfl (fun w=>qpjl.enter2 func97 rfl rfl rfl) H1 ?_;refine qfhu.pu rfl rfl rfl rfl (fun w hS=>qusw rfl rfl eZ2 sZ2) ?_;refine qfhu.pu rfl rfl rfl rfl (fun w hS=>qc3b rfl) ?_;refine qfhu.pu rfl rfl rfl rfl (fun w hS=>qmlj rfl (K6 w hS)) ?_;refine qfhu.pu rfl rfl rfl rfl (fun w hS=>qusw rfl rfl eZ3 sZ3) ?_;refine qfhu.pu rfl rfl rfl rfl (fun w hS=>rfl) ?_;refine qfhu.pu rfl rfl rfl rfl (fun w hS=>rfl) ?_;exact qfhu.All.fin rfl
section
variable{a:Act}{w:World}{d:Option Tmp}{p:String}{af:Array Edge}{gd:Option (Nat×Bool)}{x y z:Tmp}{r:TypeId}
theorem qfmr{g i n c k:Nat}(hx:a.eval (.tmp x)=.slice (some ⟨g,i,none⟩) n c)(hy:a.eval (.tmp y)=.int .i64 (k:Int))(hk:k<n) :
 (execOp a.eval {dst:=d,op := .indexAddr 37 (.tmp x) (.tmp y),type:=r,pos:=p,after:=af,guard:=gd}).run prog w=.ok (.value (.pointer (some ⟨g,i+k*25,none⟩))) w:=by
 generalize a.eval=f at *;go_simp
theorem qlo3(hx:a.eval (.tmp x)=.bool true) :
 (execOp a.eval {dst:=d,op := .unOp .not 4 (.tmp x),type:=r,pos:=p,after:=af,guard:=gd}).run prog w=.ok (.value (.bool false)) w:=by
 generalize a.eval=f at *;go_simp
theorem q8rp{A:Addr}{C:Array Value}(hx:a.eval (.tmp x)=.pointer (some A))(hs:C.size=25)(hc:∀(j:Nat) (v:Value),C[j]?=some v->w.cell? (A.add j)=some v) :
 (execOp a.eval {dst:=d,op := .load 32 (.tmp x),type:=32,pos:=p,after:=af,guard:=gd}).run prog w=.ok (.value (.agg C)) w:=by
 unfold execOp;simp only[hx,Instr.loadAt,Instr.sureAddr,Sem.run_bind,Sem.run_pure,Result.andThen_ok,qesj w A 32 C _ hc underlying32 rfl (by rw[hs];exact q5nr)]
end
theorem qbdg{Q:Exit->Act->World->Prop}{S:World->Prop}{W:World}{ga ia gb ib n c d k:Nat}{C E:Array Value}{x2 x3 x4 x6 x7 x8 x9 x10 x11 x12 x13 x14 x15 x16 x17 x18 x19 x20 x21 x22 x23 x24 x25 x26:Value}
 (hS:S W.drew)
 (hk:k<n) (hC:C.size=25) (hE:E.size=25) (KA:∀w,S w->∀(j:Nat) (v:Value),C[j]?=some v->w.cell? ((⟨ga,ia+k*25,none⟩:Addr).add j)=some v) (KB:∀w,S w->∀(j:Nat) (v:Value),E[j]?=some v->w.cell? ((⟨gb,ib+k*25,none⟩:Addr).add j)=some v)
 (H0:∀w,S w->Calls prog 15 #[.agg C,.agg E] w fun e w'=>e=.returned (.bool true)/\S w')
 (fin:∀w:World,S w->Q .normal ⟨#[(.slice (some ⟨ga,ia,none⟩) n c),(.slice (some ⟨gb,ib,none⟩) n d),x2,x3,x4,(.int .i64 (k:Int)),x6,x7,x8,x9,x10,x11,x12,x13,x14,x15,x16,(.slice (some ⟨ga,ia,none⟩) n c),(.int .i64 (k:Int)),(.pointer (some ⟨ga,ia+k*25,none⟩)),(.agg C),(.slice (some ⟨gb,ib,none⟩) n d),(.int .i64 (k:Int)),(.pointer (some ⟨gb,ib+k*25,none⟩)),(.agg E),(.bool true),(.bool false)],[]⟩ w) :
 (Code.region 6 (qfhu.opsAt 6 Tryz.f19.body) true).wp prog Q ⟨#[(.slice (some ⟨ga,ia,none⟩) n c),(.slice (some ⟨gb,ib,none⟩) n d),x2,x3,x4,(.int .i64 (k:Int)),x6,x7,x8,x9,x10,x11,x12,x13,x14,x15,x16,x17,x18,x19,x20,x21,x22,x23,x24,x25,x26],[]⟩ W:=by
 refine qfhu.wp_in (ds:=[17,18,19,20,21,22,23,24,25,26]) (B:=[(.slice (some ⟨ga,ia,none⟩) n c),(.slice (some ⟨gb,ib,none⟩) n d),x2,x3,x4,(.int .i64 (k:Int)),x6,x7,x8,x9,x10,x11,x12,x13,x14,x15,x16,(.slice (some ⟨ga,ia,none⟩) n c),(.int .i64 (k:Int)),(.pointer (some ⟨ga,ia+k*25,none⟩)),(.agg C),(.slice (some ⟨gb,ib,none⟩) n d),(.int .i64 (k:Int)),(.pointer (some ⟨gb,ib+k*25,none⟩)),(.agg E),(.bool true),(.bool false)]) (D:=[]) (by kernel_rfl) (by kernel_rfl) (by kernel_rfl) ?_ hS ?_ fin
 ·exact(by repeat (first|exact trivial|refine⟨.inr rfl,?_⟩|refine⟨.inl rfl,?_⟩))
 refine qfhu.pu rfl rfl rfl rfl (fun w hS=>rfl) ?_;refine qfhu.pu rfl rfl rfl rfl (fun w hS=>rfl) ?_;refine qfhu.pu rfl rfl rfl rfl (fun w hS=>qfmr rfl rfl hk) ?_;refine qfhu.pu rfl rfl rfl rfl (fun w hS=>q8rp rfl hC (KA w hS)) ?_;refine qfhu.pu rfl rfl rfl rfl (fun w hS=>rfl) ?_;refine qfhu.pu rfl rfl rfl rfl (fun w hS=>rfl) ?_;refine qfhu.pu rfl rfl rfl rfl (fun w hS=>qfmr rfl rfl hk) ?_;refine qfhu.pu rfl rfl rfl rfl (fun w hS=>q8rp rfl hE (KB w hS)) ?_;refine qfhu.ca rfl rfl rfl rfl (fun w=>qpjl.enter2 func15 rfl rfl rfl) H0 ?_;refine qfhu.pu rfl rfl rfl rfl (fun w hS=>qlo3 rfl) ?_;exact qfhu.All.fin rfl
theorem qqev(A B:Option Addr)(n c d:Nat)(l m:List Pa)(w:World)(hA:PKL w A l)(hB:PKL w B m)(hl:l.length=n)(he:m.map (·.1)=l.map (·.1))(hs:∀q∈l,q21o q.1)(hn:n<=9223372036854775807) :
 Calls prog 19 #[.slice A n c,.slice B n d] w fun e w'=>e=.returned (.bool true)/\Below w.heap.size w w':=by
 have HA:=hid hA;have HB:=hid hB;have HL:=hid hl;have HE:=hid he;have HS:=hid hs;have HN:=hid hn;clear hA hB hl he hs hn;go_in;go_wp2_with fail
 go_loopg [5] n (fun gk i wr=>∃k:Nat,k<=n/\gk=n-k/\i=.int .i64 (k:Int)/\Below w.heap.size w wr)
 case atStart=>exact⟨0,Nat.zero_le _,rfl,rfl,Below.refl _ _⟩
 case round=>
  obtain⟨k,hk,rfl,rfl,hb⟩:=hrel;have LW:=hid hb;clear hb;by_cases hlt:k<n
  ·have hkl:k<l.length:=by rw[HL.out];exact hlt
   obtain⟨p,hp⟩:∃p,l[k]?=some p:=⟨_,List.getElem?_eq_getElem hkl⟩
   have hkm:k<m.length:=by
    have:=congrArg List.length HE.out
    simp only[List.length_map] at this;omega
   obtain⟨q,hq⟩:∃q,m[k]?=some q:=⟨_,List.getElem?_eq_getElem hkm⟩
   have hpq:q.1=p.1:=by
    have:=congrArg (·[k]?) HE.out
    simp only[List.getElem?_map,hp,hq,Option.map_some] at this;exact Option.some.inj this
   obtain⟨⟨P,a⟩,hpe⟩:∃z,p=z:=⟨_,rfl⟩
   subst hpe;obtain⟨⟨Q,b⟩,hqe⟩:∃z,q=z:=⟨_,rfl⟩
   subst hqe;obtain rfl:Q=P:=hpq;have hsp:=HS.out _ (List.mem_of_getElem? hp);have PA:=HA.out.get hp;have PB:=HB.out.get hq;obtain⟨ga,ia,rfl,la,ca⟩:=HA.out.at hp;obtain⟨gb,ib,rfl,lb,cb⟩:=HB.out.at hq;have SM:=hid (fun W (h:Below w.heap.size w W)=>(qbsf Q a b W (PA.below h) (PB.below h) hsp.1 hsp.2.1 hsp.2.2.1 hsp.2.2.2).mono fun e W' hh=>(⟨hh.1,qxh2 h hh.2⟩:_/\Below w.heap.size w W'));have CA:=hid (fun W (h:Below w.heap.size w W) (j:Nat) (v:Value) (hv:(pkC Q a)[j]?=some v)=>(show W.cell? ((⟨ga,ia+k*25,none⟩:Addr).add j)=some v by rw[Addr.add_lit];exact(World.cell?_of_block (a:=⟨ga,ia+k*25+j,none⟩) (h.block ga la)).trans (ca j v hv)));have CB:=hid (fun W (h:Below w.heap.size w W) (j:Nat) (v:Value) (hv:(pkC Q b)[j]?=some v)=>(show W.cell? ((⟨gb,ib+k*25,none⟩:Addr).add j)=some v by rw[Addr.add_lit];exact(World.cell?_of_block (a:=⟨gb,ib+k*25+j,none⟩) (h.block gb lb)).trans (cb j v hv)));have ZA:=hid (qwmp Q a);have ZB:=hid (qwmp Q b);have HLT:=hid hlt;have g1:(k:Int)<(n:Int):=by omega
   clear hp hq hkl hkm hsp PA PB la ca lb cb hlt hk;unfold pkV at SM;obtain⟨C,hC⟩:∃C,pkC Q a=C:=⟨_,rfl⟩
   obtain⟨E,hE⟩:∃C,pkC Q b=C:=⟨_,rfl⟩
   rw[hC] at SM CA ZA;rw[hE] at SM CB ZB;clear hC hE
   go_upto_region 6 with fail
   refine qbdg (S:=fun W=>Below w.heap.size w W) LW.out.drew HLT.out ZA.out ZB.out (fun W h=>CA.out W h) (fun W h=>CB.out W h) SM.out ?_;intro W h;have LX:=hid h;clear h;go_wp2_with fail
   go_roundg (n-(k+1))
   case measure=>have:=HLT.out;omega
   case rel=>exact⟨k+1,HLT.out,rfl,congrArg (Value.int IntKind.i64) (by have:=HLT.out;have:=HN.out;unfold wrap64;omega),LX.out⟩
  ·obtain rfl:k=n:=by omega
   clear hlt hk;go_wp2;go_ret;exact⟨rfl,LW.out⟩
end Go.Proofs.YtombgnfedafkjaaGreatDoor
