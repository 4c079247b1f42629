/- The regions of connect's reader that draw their order: calls that write the cursor in a forced order. Condition: none. -/
import Derived.Test.YtaahhbjnflimnaaGreatK02
import Derived.Test.YtaahhbjnflimnaaGreatK12
set_option maxRecDepth 100000
set_option maxHeartbeats 4000000
namespace Go.Proofs.YtaahhbjnflimnaaGreat
open Go.RowKit
section
variable{a:Act}{w:World}{d:Option Tmp}{p:String}{af:Array Edge}{gd:Option (Nat×Bool)}{x y z:Tmp}{r:TypeId}
theorem qfsz{g cb:Nat}{v:Int}(hx:a.eval (.tmp x) = .pointer (some ⟨g,0,none⟩))(h0:w.cell? ⟨g,0,none⟩=some (.pointer (some ⟨cb,0,none⟩)))(h1:w.cell? ⟨g,1,none⟩=some (.int .i64 v)) :
 (execOp a.eval {dst:=d,op := .load 71 (.tmp x),type:=71,pos:=p,after:=af,guard:=gd}).run Tryz.prog w = .ok (.value (.agg #[.pointer (some ⟨cb,0,none⟩),.int .i64 v])) w:=by
 generalize a.eval=f at *
 go_simp
theorem q5g8{g:Nat}{C:Array Value}(hx:a.eval (.tmp x) = .pointer (some ⟨g,0,none⟩))(hs:C.size=25)(hg:w.heap[g]? = some (.cells C 28 (0,0))) :
 (execOp a.eval {dst:=d,op := .load 28 (.tmp x),type:=28,pos:=p,after:=af,guard:=gd}).run Tryz.prog w = .ok (.value (.agg C)) w:=by
 unfold execOp
 simp only[hx,Instr.loadAt,Instr.sureAddr,Sem.run_bind,Sem.run_pure,Result.andThen_ok,run_loadVar_row w g 28 28 C (0,0) _ hg Tryz.underlying28 rfl (by rw[hs];exact q5nr)]
theorem q8i8{g:Nat}(hx:a.eval (.tmp x) = .pointer (some ⟨g,0,none⟩)) :
 (execOp a.eval {dst:=d,op := .fieldAddr 71 (.tmp x) 0,type:=r,pos:=p,after:=af,guard:=gd}).run Tryz.prog w = .ok (.value (.pointer (some ⟨g,0,none⟩))) w:=by
 generalize a.eval=f at *
 go_simp
theorem qil8{g:Nat}(hx:a.eval (.tmp x) = .pointer (some ⟨g,0,none⟩)) :
 (execOp a.eval {dst:=d,op := .fieldAddr 71 (.tmp x) 1,type:=r,pos:=p,after:=af,guard:=gd}).run Tryz.prog w = .ok (.value (.pointer (some ⟨g,1,none⟩))) w:=by
 generalize a.eval=f at *
 go_simp
theorem qpti{g cb:Nat}(hx:a.eval (.tmp x) = .pointer (some ⟨g,0,none⟩))(h0:w.cell? ⟨g,0,none⟩=some (.pointer (some ⟨cb,0,none⟩))) :
 (execOp a.eval {dst:=d,op := .load 68 (.tmp x),type:=68,pos:=p,after:=af,guard:=gd}).run Tryz.prog w = .ok (.value (.pointer (some ⟨cb,0,none⟩))) w:=by
 generalize a.eval=f at *
 go_simp
theorem qd8q{g:Nat}{v:Int}(hx:a.eval (.tmp x) = .pointer (some ⟨g,1,none⟩))(h1:w.cell? ⟨g,1,none⟩=some (.int .i64 v)) :
 (execOp a.eval {dst:=d,op := .load 3 (.tmp x),type:=3,pos:=p,after:=af,guard:=gd}).run Tryz.prog w = .ok (.value (.int .i64 v)) w:=by
 generalize a.eval=f at *
 go_simp
theorem q3gv{n m:Int}(hx:a.eval (.tmp x) = .int .i64 n)(hm:bits .and .i64 n 1=m) :
 (execOp a.eval {dst:=d,op := .binOp .and 3 (.tmp x) (.const (.int .i64 1)) 3,type:=r,pos:=p,after:=af,guard:=gd}).run Tryz.prog w = .ok (.value (.int .i64 m)) w:=by
 subst hm
 have hk:a.eval (.const (.int .i64 1)) = .int .i64 1:=rfl
 generalize a.eval=f at *
 go_simp
theorem qqiz{n:Int}{b:Bool}(hx:a.eval (.tmp x) = .int .i64 n)(hb:(n==0)=b) :
 (execOp a.eval {dst:=d,op := .binOp .eql 3 (.tmp x) (.const (.int .i64 0)) 3,type:=r,pos:=p,after:=af,guard:=gd}).run Tryz.prog w = .ok (.value (.bool b)) w:=by
 subst hb
 have hk:a.eval (.const (.int .i64 0)) = .int .i64 0:=rfl
 generalize a.eval=f at *
 go_simp
theorem q424{n m:Int}{b:Bool}(hx:a.eval (.tmp x) = .int .i64 n)(hy:a.eval (.tmp y) = .int .i64 m)(hb:(n==m)=b) :
 (execOp a.eval {dst:=d,op := .binOp .eql 3 (.tmp x) (.tmp y) 3,type:=r,pos:=p,after:=af,guard:=gd}).run Tryz.prog w = .ok (.value (.bool b)) w:=by
 subst hb
 generalize a.eval=f at *
 go_simp
theorem qmwm{t:ByteArray}{b:Bool}(hx:a.eval (.tmp x) = .string t)(hb:(t.toList==[0,4,77,81,84,84])=b) :
 (execOp a.eval {dst:=d,op := .binOp .eql 9 (.tmp x) (.const (.string {data:=#[0,4,77,81,84,84]})) 9,type:=r,pos:=p,after:=af,guard:=gd}).run Tryz.prog w = .ok (.value (.bool b)) w:=by
 subst hb
 have hk:a.eval (.const (.string {data:=#[0,4,77,81,84,84]})) = .string {data:=#[0,4,77,81,84,84]}:=rfl
 generalize a.eval=f at *
 go_simp
theorem qf0i{ts:Array TypeId}{u v:Value}(hx:a.eval (.tmp x)=u)(hy:a.eval (.tmp y)=v) :
 (execOp a.eval {dst:=d,op := .call {callee := .value (.func 127),args:=#[.tmp x,.tmp y],argTypes:=ts},type:=r,pos:=p,after:=af,guard:=gd}).run Tryz.prog w = .ok (.enter 127 #[u,v]) w:=by
 have hf:a.eval (.func 127) = .func (.func 127) #[] #[]:=rfl
 generalize a.eval=f at *
 go_simp
theorem qv9f{ts:Array TypeId}{u v:Value}(hx:a.eval (.tmp x)=u)(hy:a.eval (.tmp y)=v) :
 (execOp a.eval {dst:=d,op := .call {callee := .value (.func 52),args:=#[.tmp x,.tmp y,.const (.int .i64 7)],argTypes:=ts},type:=r,pos:=p,after:=af,guard:=gd}).run Tryz.prog w = .ok (.enter 52 #[u,v,.int .i64 7]) w:=by
 have hf:a.eval (.func 52) = .func (.func 52) #[] #[]:=rfl
 have hc2:a.eval (.const (.int .i64 7)) = .int .i64 7:=rfl
 generalize a.eval=f at *
 go_simp
theorem qrdh{ts:Array TypeId}{u v:Value}(hx:a.eval (.tmp x)=u)(hy:a.eval (.tmp y)=v) :
 (execOp a.eval {dst:=d,op := .call {callee := .value (.func 52),args:=#[.tmp x,.tmp y,.const (.int .i64 5)],argTypes:=ts},type:=r,pos:=p,after:=af,guard:=gd}).run Tryz.prog w = .ok (.enter 52 #[u,v,.int .i64 5]) w:=by
 have hf:a.eval (.func 52) = .func (.func 52) #[] #[]:=rfl
 have hc2:a.eval (.const (.int .i64 5)) = .int .i64 5:=rfl
 generalize a.eval=f at *
 go_simp
theorem q8p7{ts:Array TypeId}{u:Value}(hx:a.eval (.tmp x)=u) :
 (execOp a.eval {dst:=d,op := .call {callee := .value (.func 170),args:=#[.tmp x,.const (.int .i64 6)],argTypes:=ts},type:=r,pos:=p,after:=af,guard:=gd}).run Tryz.prog w = .ok (.enter 170 #[u,.int .i64 6]) w:=by
 have hf:a.eval (.func 170) = .func (.func 170) #[] #[]:=rfl
 have hc1:a.eval (.const (.int .i64 6)) = .int .i64 6:=rfl
 generalize a.eval=f at *
 go_simp
theorem qr1v{ts:Array TypeId}{u:Value}(hx:a.eval (.tmp x)=u) :
 (execOp a.eval {dst:=d,op := .call {callee := .value (.func 168),args:=#[.tmp x],argTypes:=ts},type:=r,pos:=p,after:=af,guard:=gd}).run Tryz.prog w = .ok (.enter 168 #[u]) w:=by
 have hf:a.eval (.func 168) = .func (.func 168) #[] #[]:=rfl
 generalize a.eval=f at *
 go_simp
theorem q9di{ts:Array TypeId}{u:Value}(hx:a.eval (.tmp x)=u) :
 (execOp a.eval {dst:=d,op := .call {callee := .value (.func 53),args:=#[.tmp x],argTypes:=ts},type:=r,pos:=p,after:=af,guard:=gd}).run Tryz.prog w = .ok (.enter 53 #[u]) w:=by
 have hf:a.eval (.func 53) = .func (.func 53) #[] #[]:=rfl
 generalize a.eval=f at *
 go_simp
end
theorem q58n{Q:Exit→Act→World→Prop}{S:Bool→World→Prop}{W:World}{B P cb:Nat}{v n m:Int}{b:Bool}{D:Array Value}{x0 x2 x5 x6 x7 x8 x9 x10 x11 x12 x13 x14 x15 x16 x17 x18 x19 x20:Value}
 (hS:S false W.drew) (K0:∀x w,S x w→w.cell? ⟨B,0,none⟩=some (.pointer (some ⟨cb,0,none⟩))) (K1:∀x w,S x w→w.cell? ⟨B,1,none⟩=some (.int .i64 v)) (hm1:bits .and .i64 n 1=m) (hz:(m==0)=true) (hD:D.size=25) (KD:∀x w,S x w→w.heap[P]? = some (.cells D 28 (0,0)))
 (H17:∀(x:Bool) (w:World),S x w→Calls Tryz.prog 127 #[.int .i64 v,.agg D] w fun e w'=>e = .returned (.bool b)∧S x w')
 (H19:∀(x:Bool) (w:World),S x w→x=false→Calls Tryz.prog 52 #[.agg #[.pointer (some ⟨cb,0,none⟩),.int .i64 v],.bool b,.int .i64 7] w fun e w'=>e = .returned (.tuple #[])∧S ((fun _=>true) x) w')
 (fin:∀w,S true w→Q .normal ⟨#[x0,(.pointer (some ⟨B,0,none⟩)),x2,(.int .i64 n),(.pointer (some ⟨P,0,none⟩)),x5,x6,x7,x8,(.agg #[.pointer (some ⟨cb,0,none⟩),.int .i64 v]),(.int .i64 n),(.int .i64 m),(.bool true),(.bool true),(.pointer (some ⟨B,1,none⟩)),(.int .i64 v),(.agg D),(.bool b),(.bool b),(.tuple #[]),x20],[]⟩ w) :
 (Code.region 3 (qfhu.opsAt 3 Tryz.f171.body) true).wp Tryz.prog Q ⟨#[x0,(.pointer (some ⟨B,0,none⟩)),x2,(.int .i64 n),(.pointer (some ⟨P,0,none⟩)),x5,x6,x7,x8,x9,x10,x11,x12,x13,x14,x15,x16,x17,x18,x19,x20],[]⟩ W:=by
 refine qu7n.wp (fresh:=fun i x=>(i=10→x=false)) (hf0:=fun i=>fun _=>rfl) (x:=false) (S:=S) (made:=fun i x=>(i=10→x=true)) (war:=[]) (ds:=[9,10,11,12,13,14,15,16,17,18,19]) (A:=[x0,(.pointer (some ⟨B,0,none⟩)),x2,(.int .i64 n),(.pointer (some ⟨P,0,none⟩)),x5,x6,x7,x8,x9,x10,x11,x12,x13,x14,x15,x16,x17,x18,x19,x20]) (B:=fun x=>[x0,(.pointer (some ⟨B,0,none⟩)),x2,(.int .i64 n),(.pointer (some ⟨P,0,none⟩)),x5,x6,x7,x8,(.agg #[.pointer (some ⟨cb,0,none⟩),.int .i64 v]),(.int .i64 n),(.int .i64 m),(.bool true),(.bool true),(.pointer (some ⟨B,1,none⟩)),(.int .i64 v),(.agg D),(.bool b),(.bool b),(.tuple #[]),x20]) (D:=[]) (by kernel_rfl) (by kernel_rfl) (by kernel_rfl) ?_ hS ?_ (fun x w hm hS=>fin w (by have h:=hm 10 (by decide) rfl;rw[←h];exact hS))
 ·exact fun x=>(by repeat (first | exact trivial | refine⟨.inr rfl,?_⟩ | refine⟨.inl rfl,?_⟩))
 refine q2y4.All.step rfl (qu7n.Does.pure (val:=fun x=>(.agg #[.pointer (some ⟨cb,0,none⟩),.int .i64 v])) rfl (fun x=>fun h=>absurd h (by decide)) (fun x w hm hS=>⟨rfl,rfl,qfsz rfl (K0 x w hS) (K1 x w hS)⟩)) ?_
 refine q2y4.All.step rfl (qu7n.Does.pure (val:=fun x=>(.int .i64 n)) rfl (fun x=>fun h=>absurd h (by decide)) (fun x w hm hS=>⟨rfl,rfl,rfl⟩)) ?_
 refine q2y4.All.step rfl (qu7n.Does.pure (val:=fun x=>(.int .i64 m)) rfl (fun x=>fun h=>absurd h (by decide)) (fun x w hm hS=>⟨rfl,rfl,q3gv rfl hm1⟩)) ?_
 refine q2y4.All.step rfl (qu7n.Does.pure (val:=fun x=>(.bool true)) rfl (fun x=>fun h=>absurd h (by decide)) (fun x w hm hS=>⟨rfl,rfl,qqiz rfl hz⟩)) ?_
 refine q2y4.All.step rfl (qu7n.Does.pure (val:=fun x=>(.bool true)) rfl (fun x=>fun h=>absurd h (by decide)) (fun x w hm hS=>⟨rfl,rfl,rfl⟩)) ?_
 refine q2y4.All.step rfl (qu7n.Does.pure (val:=fun x=>(.pointer (some ⟨B,1,none⟩))) rfl (fun x=>fun h=>absurd h (by decide)) (fun x w hm hS=>⟨rfl,rfl,qil8 rfl⟩)) ?_
 refine q2y4.All.step rfl (qu7n.Does.pure (val:=fun x=>(.int .i64 v)) rfl (fun x=>fun h=>absurd h (by decide)) (fun x w hm hS=>⟨rfl,rfl,qd8q rfl (K1 x w hS)⟩)) ?_
 refine q2y4.All.step rfl (qu7n.Does.pure (val:=fun x=>(.agg D)) rfl (fun x=>fun h=>absurd h (by decide)) (fun x w hm hS=>⟨rfl,rfl,q5g8 rfl hD (KD x w hS)⟩)) ?_
 refine q2y4.All.step rfl (qu7n.Does.call (args:=fun x=>#[.int .i64 v,.agg D]) (val:=fun x=>(.bool b)) rfl (fun x=>fun h=>absurd h (by decide)) (fun x w hm hS=>⟨rfl,rfl,qf0i rfl rfl,H17 x w hS⟩)) ?_
 refine q2y4.All.step rfl (qu7n.Does.pure (val:=fun x=>(.bool b)) rfl (fun x=>fun h=>absurd h (by decide)) (fun x w hm hS=>⟨rfl,rfl,rfl⟩)) ?_
 refine q2y4.All.step rfl (qu7n.Does.act (args:=fun x=>#[.agg #[.pointer (some ⟨cb,0,none⟩),.int .i64 v],.bool b,.int .i64 7]) (val:=fun x=>(.tuple #[])) (nx:=fun _=>true) (fun y hy x=>by cases hy;rfl) (fun x=>rfl) (fun x _=>rfl) (fun i x h e=>rfl) (fun i x hi h e=>absurd e hi) (fun x w hm hf hS=>⟨rfl,qv9f rfl rfl,H19 x w hS (hf rfl)⟩)) ?_
 exact q2y4.All.fin rfl
theorem q7fu{Q:Exit→Act→World→Prop}{S:Bool→World→Prop}{W:World}{B P cb:Nat}{v n m:Int}{x0 x2 x5 x6 x7 x8 x9 x10 x11 x12 x13 x14 x15 x16 x17 x18 x19 x20:Value}
 (hS:S false W.drew) (K0:∀x w,S x w→w.cell? ⟨B,0,none⟩=some (.pointer (some ⟨cb,0,none⟩))) (K1:∀x w,S x w→w.cell? ⟨B,1,none⟩=some (.int .i64 v)) (hm1:bits .and .i64 n 1=m) (hz:(m==0)=false)
 (H19:∀(x:Bool) (w:World),S x w→x=false→Calls Tryz.prog 52 #[.agg #[.pointer (some ⟨cb,0,none⟩),.int .i64 v],.bool false,.int .i64 7] w fun e w'=>e = .returned (.tuple #[])∧S ((fun _=>true) x) w')
 (fin:∀w,S true w→Q .normal ⟨#[x0,(.pointer (some ⟨B,0,none⟩)),x2,(.int .i64 n),(.pointer (some ⟨P,0,none⟩)),x5,x6,x7,x8,(.agg #[.pointer (some ⟨cb,0,none⟩),.int .i64 v]),(.int .i64 n),(.int .i64 m),(.bool false),(.bool false),undef,undef,undef,undef,(.bool false),(.tuple #[]),x20],[]⟩ w) :
 (Code.region 3 (qfhu.opsAt 3 Tryz.f171.body) true).wp Tryz.prog Q ⟨#[x0,(.pointer (some ⟨B,0,none⟩)),x2,(.int .i64 n),(.pointer (some ⟨P,0,none⟩)),x5,x6,x7,x8,x9,x10,x11,x12,x13,x14,x15,x16,x17,x18,x19,x20],[]⟩ W:=by
 refine qu7n.wp (fresh:=fun i x=>(i=10→x=false)) (hf0:=fun i=>fun _=>rfl) (x:=false) (S:=S) (made:=fun i x=>(i=10→x=true)) (war:=[]) (ds:=[9,10,11,12,13,14,15,16,17,18,19]) (A:=[x0,(.pointer (some ⟨B,0,none⟩)),x2,(.int .i64 n),(.pointer (some ⟨P,0,none⟩)),x5,x6,x7,x8,x9,x10,x11,x12,x13,x14,x15,x16,x17,x18,x19,x20]) (B:=fun x=>[x0,(.pointer (some ⟨B,0,none⟩)),x2,(.int .i64 n),(.pointer (some ⟨P,0,none⟩)),x5,x6,x7,x8,(.agg #[.pointer (some ⟨cb,0,none⟩),.int .i64 v]),(.int .i64 n),(.int .i64 m),(.bool false),(.bool false),undef,undef,undef,undef,(.bool false),(.tuple #[]),x20]) (D:=[]) (by kernel_rfl) (by kernel_rfl) (by kernel_rfl) ?_ hS ?_ (fun x w hm hS=>fin w (by have h:=hm 10 (by decide) rfl;rw[←h];exact hS))
 ·exact fun x=>(by repeat (first | exact trivial | refine⟨.inr rfl,?_⟩ | refine⟨.inl rfl,?_⟩))
 refine q2y4.All.step rfl (qu7n.Does.pure (val:=fun x=>(.agg #[.pointer (some ⟨cb,0,none⟩),.int .i64 v])) rfl (fun x=>fun h=>absurd h (by decide)) (fun x w hm hS=>⟨rfl,rfl,qfsz rfl (K0 x w hS) (K1 x w hS)⟩)) ?_
 refine q2y4.All.step rfl (qu7n.Does.pure (val:=fun x=>(.int .i64 n)) rfl (fun x=>fun h=>absurd h (by decide)) (fun x w hm hS=>⟨rfl,rfl,rfl⟩)) ?_
 refine q2y4.All.step rfl (qu7n.Does.pure (val:=fun x=>(.int .i64 m)) rfl (fun x=>fun h=>absurd h (by decide)) (fun x w hm hS=>⟨rfl,rfl,q3gv rfl hm1⟩)) ?_
 refine q2y4.All.step rfl (qu7n.Does.pure (val:=fun x=>(.bool false)) rfl (fun x=>fun h=>absurd h (by decide)) (fun x w hm hS=>⟨rfl,rfl,qqiz rfl hz⟩)) ?_
 refine q2y4.All.step rfl (qu7n.Does.pure (val:=fun x=>(.bool false)) rfl (fun x=>fun h=>absurd h (by decide)) (fun x w hm hS=>⟨rfl,rfl,rfl⟩)) ?_
 iterate 4 refine q2y4.All.step rfl (qu7n.Does.skip rfl (fun x=>fun h=>absurd h (by decide)) (fun x=>⟨rfl,rfl⟩)) ?_
 refine q2y4.All.step rfl (qu7n.Does.pure (val:=fun x=>(.bool false)) rfl (fun x=>fun h=>absurd h (by decide)) (fun x w hm hS=>⟨rfl,rfl,rfl⟩)) ?_
 refine q2y4.All.step rfl (qu7n.Does.act (args:=fun x=>#[.agg #[.pointer (some ⟨cb,0,none⟩),.int .i64 v],.bool false,.int .i64 7]) (val:=fun x=>(.tuple #[])) (nx:=fun _=>true) (fun y hy x=>by cases hy;rfl) (fun x=>rfl) (fun x _=>rfl) (fun i x h e=>rfl) (fun i x hi h e=>absurd e hi) (fun x w hm hf hS=>⟨rfl,qv9f rfl rfl,H19 x w hS (hf rfl)⟩)) ?_
 exact q2y4.All.fin rfl
theorem qjsk{Q:Exit→Act→World→Prop}{S:Bool×Bool→World→Prop}{W:World}{B cb:Nat}{v:Int}{t:ByteArray}{b:Bool}{x0 x2 x3 x4 x5 x6 x7 x8 x9 x10 x11 x12 x13 x14 x15 x16 x17 x18 x19 x20 x21 x22 x23 x24 x25 x26 x27 x28 x29 x30 x31 x32 x33 x34 x35 x36 x37 x38 x39 x40 x41 x42 x43 x44 x45 x46 x47 x48 x49 x50 x51 x52 x53 x54:Value}
 (hS:S (false,false) W.drew) (K0:∀x w,S x w→w.cell? ⟨B,0,none⟩=some (.pointer (some ⟨cb,0,none⟩))) (K1:∀x w,S x w→w.cell? ⟨B,1,none⟩=some (.int .i64 v)) (hb:(t.toList==[0,4,77,81,84,84])=b)
 (H7:∀(x:Bool×Bool) (w:World),S x w→x.1=false→Calls Tryz.prog 170 #[.pointer (some ⟨cb,0,none⟩),.int .i64 6] w fun e w'=>e = .returned (.string t)∧S ((fun x=>(true,x.2)) x) w')
 (H9:∀(x:Bool×Bool) (w:World),S x w→x.1=true→x.2=false→Calls Tryz.prog 52 #[.agg #[.pointer (some ⟨cb,0,none⟩),.int .i64 v],.bool b,.int .i64 5] w fun e w'=>e = .returned (.tuple #[])∧S ((fun x=>(x.1,true)) x) w')
 (fin:∀w,S (true,true) w→Q .normal ⟨#[x0,(.pointer (some ⟨B,0,none⟩)),x2,x3,(.agg #[.pointer (some ⟨cb,0,none⟩),.int .i64 v]),(.pointer (some ⟨B,0,none⟩)),(.pointer (some ⟨cb,0,none⟩)),(.string t),(.bool b),(.tuple #[]),x10,x11,x12,x13,x14,x15,x16,x17,x18,x19,x20,x21,x22,x23,x24,x25,x26,x27,x28,x29,x30,x31,x32,x33,x34,x35,x36,x37,x38,x39,x40,x41,x42,x43,x44,x45,x46,x47,x48,x49,x50,x51,x52,x53,x54],[]⟩ w) :
 (Code.region 1 (qfhu.opsAt 1 Tryz.f115.body) true).wp Tryz.prog Q ⟨#[x0,(.pointer (some ⟨B,0,none⟩)),x2,x3,x4,x5,x6,x7,x8,x9,x10,x11,x12,x13,x14,x15,x16,x17,x18,x19,x20,x21,x22,x23,x24,x25,x26,x27,x28,x29,x30,x31,x32,x33,x34,x35,x36,x37,x38,x39,x40,x41,x42,x43,x44,x45,x46,x47,x48,x49,x50,x51,x52,x53,x54],[]⟩ W:=by
 refine qu7n.wp (fresh:=fun i x=>(i=3→x.1=false)∧(i=5→x.2=false)) (hf0:=fun i=>⟨fun _=>rfl,fun _=>rfl⟩) (x:=(false,false)) (S:=S) (made:=fun i x=>(i=3→x.1=true)∧(i=5→x.2=true)) (war:=[]) (ds:=[4,5,6,7,8,9]) (A:=[x0,(.pointer (some ⟨B,0,none⟩)),x2,x3,x4,x5,x6,x7,x8,x9,x10,x11,x12,x13,x14,x15,x16,x17,x18,x19,x20,x21,x22,x23,x24,x25,x26,x27,x28,x29,x30,x31,x32,x33,x34,x35,x36,x37,x38,x39,x40,x41,x42,x43,x44,x45,x46,x47,x48,x49,x50,x51,x52,x53,x54]) (B:=fun x=>[x0,(.pointer (some ⟨B,0,none⟩)),x2,x3,(.agg #[.pointer (some ⟨cb,0,none⟩),.int .i64 v]),(.pointer (some ⟨B,0,none⟩)),(.pointer (some ⟨cb,0,none⟩)),(.string t),(.bool b),(.tuple #[]),x10,x11,x12,x13,x14,x15,x16,x17,x18,x19,x20,x21,x22,x23,x24,x25,x26,x27,x28,x29,x30,x31,x32,x33,x34,x35,x36,x37,x38,x39,x40,x41,x42,x43,x44,x45,x46,x47,x48,x49,x50,x51,x52,x53,x54]) (D:=[]) (by kernel_rfl) (by kernel_rfl) (by kernel_rfl) ?_ hS ?_ (fun x w hm hS=>fin w (by have h:=(hm 3 (by decide)).1 rfl;have h2:=(hm 5 (by decide)).2 rfl;rw[show(true,true)=x from(Prod.ext h h2).symm];exact hS))
 ·exact fun x=>(by repeat (first | exact trivial | refine⟨.inr rfl,?_⟩ | refine⟨.inl rfl,?_⟩))
 refine q2y4.All.step rfl (qu7n.Does.pure (val:=fun x=>(.agg #[.pointer (some ⟨cb,0,none⟩),.int .i64 v])) rfl (fun x=>⟨fun h=>absurd h (by decide),fun h=>absurd h (by decide)⟩) (fun x w hm hS=>⟨rfl,rfl,qfsz rfl (K0 x w hS) (K1 x w hS)⟩)) ?_
 refine q2y4.All.step rfl (qu7n.Does.pure (val:=fun x=>(.pointer (some ⟨B,0,none⟩))) rfl (fun x=>⟨fun h=>absurd h (by decide),fun h=>absurd h (by decide)⟩) (fun x w hm hS=>⟨rfl,rfl,q8i8 rfl⟩)) ?_
 refine q2y4.All.step rfl (qu7n.Does.pure (val:=fun x=>(.pointer (some ⟨cb,0,none⟩))) rfl (fun x=>⟨fun h=>absurd h (by decide),fun h=>absurd h (by decide)⟩) (fun x w hm hS=>⟨rfl,rfl,qpti rfl (K0 x w hS)⟩)) ?_
 refine q2y4.All.step rfl (qu7n.Does.act (args:=fun x=>#[.pointer (some ⟨cb,0,none⟩),.int .i64 6]) (val:=fun x=>(.string t)) (nx:=fun x=>(true,x.2)) (fun y hy x=>by cases hy;rfl) (fun x=>rfl) (fun x=>⟨fun _=>rfl,fun h=>absurd h (by decide)⟩) (fun i x h=>⟨fun _=>rfl,h.2⟩) (fun i x hi h=>⟨fun e=>absurd e hi,h.2⟩) (fun x w hm hf hS=>⟨rfl,q8p7 rfl,H7 x w hS (hf.1 rfl)⟩)) ?_
 refine q2y4.All.step rfl (qu7n.Does.pure (val:=fun x=>(.bool b)) rfl (fun x=>⟨fun h=>absurd h (by decide),fun h=>absurd h (by decide)⟩) (fun x w hm hS=>⟨rfl,rfl,qmwm rfl hb⟩)) ?_
 refine q2y4.All.step rfl (qu7n.Does.act (args:=fun x=>#[.agg #[.pointer (some ⟨cb,0,none⟩),.int .i64 v],.bool b,.int .i64 5]) (val:=fun x=>(.tuple #[])) (nx:=fun x=>(x.1,true)) (fun y hy x=>by cases hy;rfl) (fun x=>rfl) (fun x=>⟨fun h=>absurd h (by decide),fun _=>rfl⟩) (fun i x h=>⟨h.1,fun _=>rfl⟩) (fun i x hi h=>⟨h.1,fun e=>absurd e hi⟩) (fun x w hm hf hS=>⟨rfl,qrdh rfl rfl,H9 x w hS ((hm 3 (by kernel_rfl) (by decide)).1 rfl) (hf.2 rfl)⟩)) ?_
 exact q2y4.All.fin rfl
theorem q2os{Q:Exit→Act→World→Prop}{S:Bool×Bool→World→Prop}{W:World}{B cb:Nat}{v n:Int}{b:Bool}{x0 x2 x3 x4 x5 x6 x7 x8 x9 x10 x11 x12 x13 x14 x15 x16 x17 x18 x19 x20 x21 x22 x23 x24 x25 x26 x27 x28 x29 x30 x31 x32 x33 x34 x35 x36 x37 x38 x39 x40 x41 x42 x43 x44 x45 x46 x47 x48 x49 x50 x51 x52 x53 x54:Value}
 (hS:S (false,false) W.drew) (K0:∀x w,S x w→w.cell? ⟨B,0,none⟩=some (.pointer (some ⟨cb,0,none⟩))) (K1:∀x w,S x w→w.cell? ⟨B,1,none⟩=some (.int .i64 v)) (hb:(n==v)=b)
 (H12:∀(x:Bool×Bool) (w:World),S x w→x.1=false→Calls Tryz.prog 168 #[.agg #[.pointer (some ⟨cb,0,none⟩),.int .i64 v]] w fun e w'=>e = .returned (.int .i64 n)∧S ((fun x=>(true,x.2)) x) w')
 (H16:∀(x:Bool×Bool) (w:World),S x w→x.1=true→x.2=false→Calls Tryz.prog 52 #[.agg #[.pointer (some ⟨cb,0,none⟩),.int .i64 v],.bool b,.int .i64 5] w fun e w'=>e = .returned (.tuple #[])∧S ((fun x=>(x.1,true)) x) w')
 (fin:∀w,S (true,true) w→Q .normal ⟨#[x0,(.pointer (some ⟨B,0,none⟩)),x2,x3,x4,x5,x6,x7,x8,x9,(.agg #[.pointer (some ⟨cb,0,none⟩),.int .i64 v]),(.agg #[.pointer (some ⟨cb,0,none⟩),.int .i64 v]),(.int .i64 n),(.pointer (some ⟨B,1,none⟩)),(.int .i64 v),(.bool b),(.tuple #[]),x17,x18,x19,x20,x21,x22,x23,x24,x25,x26,x27,x28,x29,x30,x31,x32,x33,x34,x35,x36,x37,x38,x39,x40,x41,x42,x43,x44,x45,x46,x47,x48,x49,x50,x51,x52,x53,x54],[]⟩ w) :
 (Code.region 2 (qfhu.opsAt 2 Tryz.f115.body) true).wp Tryz.prog Q ⟨#[x0,(.pointer (some ⟨B,0,none⟩)),x2,x3,x4,x5,x6,x7,x8,x9,x10,x11,x12,x13,x14,x15,x16,x17,x18,x19,x20,x21,x22,x23,x24,x25,x26,x27,x28,x29,x30,x31,x32,x33,x34,x35,x36,x37,x38,x39,x40,x41,x42,x43,x44,x45,x46,x47,x48,x49,x50,x51,x52,x53,x54],[]⟩ W:=by
 refine qu7n.wp (fresh:=fun i x=>(i=2→x.1=false)∧(i=6→x.2=false)) (hf0:=fun i=>⟨fun _=>rfl,fun _=>rfl⟩) (x:=(false,false)) (S:=S) (made:=fun i x=>(i=2→x.1=true)∧(i=6→x.2=true)) (war:=[]) (ds:=[10,11,12,13,14,15,16]) (A:=[x0,(.pointer (some ⟨B,0,none⟩)),x2,x3,x4,x5,x6,x7,x8,x9,x10,x11,x12,x13,x14,x15,x16,x17,x18,x19,x20,x21,x22,x23,x24,x25,x26,x27,x28,x29,x30,x31,x32,x33,x34,x35,x36,x37,x38,x39,x40,x41,x42,x43,x44,x45,x46,x47,x48,x49,x50,x51,x52,x53,x54]) (B:=fun x=>[x0,(.pointer (some ⟨B,0,none⟩)),x2,x3,x4,x5,x6,x7,x8,x9,(.agg #[.pointer (some ⟨cb,0,none⟩),.int .i64 v]),(.agg #[.pointer (some ⟨cb,0,none⟩),.int .i64 v]),(.int .i64 n),(.pointer (some ⟨B,1,none⟩)),(.int .i64 v),(.bool b),(.tuple #[]),x17,x18,x19,x20,x21,x22,x23,x24,x25,x26,x27,x28,x29,x30,x31,x32,x33,x34,x35,x36,x37,x38,x39,x40,x41,x42,x43,x44,x45,x46,x47,x48,x49,x50,x51,x52,x53,x54]) (D:=[]) (by kernel_rfl) (by kernel_rfl) (by kernel_rfl) ?_ hS ?_ (fun x w hm hS=>fin w (by have h:=(hm 2 (by decide)).1 rfl;have h2:=(hm 6 (by decide)).2 rfl;rw[show(true,true)=x from(Prod.ext h h2).symm];exact hS))
 ·exact fun x=>(by repeat (first | exact trivial | refine⟨.inr rfl,?_⟩ | refine⟨.inl rfl,?_⟩))
 iterate 2 refine q2y4.All.step rfl (qu7n.Does.pure (val:=fun x=>(.agg #[.pointer (some ⟨cb,0,none⟩),.int .i64 v])) rfl (fun x=>⟨fun h=>absurd h (by decide),fun h=>absurd h (by decide)⟩) (fun x w hm hS=>⟨rfl,rfl,qfsz rfl (K0 x w hS) (K1 x w hS)⟩)) ?_
 refine q2y4.All.step rfl (qu7n.Does.act (args:=fun x=>#[.agg #[.pointer (some ⟨cb,0,none⟩),.int .i64 v]]) (val:=fun x=>(.int .i64 n)) (nx:=fun x=>(true,x.2)) (fun y hy x=>by cases hy;rfl) (fun x=>rfl) (fun x=>⟨fun _=>rfl,fun h=>absurd h (by decide)⟩) (fun i x h=>⟨fun _=>rfl,h.2⟩) (fun i x hi h=>⟨fun e=>absurd e hi,h.2⟩) (fun x w hm hf hS=>⟨rfl,qr1v rfl,H12 x w hS (hf.1 rfl)⟩)) ?_
 refine q2y4.All.step rfl (qu7n.Does.pure (val:=fun x=>(.pointer (some ⟨B,1,none⟩))) rfl (fun x=>⟨fun h=>absurd h (by decide),fun h=>absurd h (by decide)⟩) (fun x w hm hS=>⟨rfl,rfl,qil8 rfl⟩)) ?_
 refine q2y4.All.step rfl (qu7n.Does.pure (val:=fun x=>(.int .i64 v)) rfl (fun x=>⟨fun h=>absurd h (by decide),fun h=>absurd h (by decide)⟩) (fun x w hm hS=>⟨rfl,rfl,qd8q rfl (K1 x w hS)⟩)) ?_
 refine q2y4.All.step rfl (qu7n.Does.pure (val:=fun x=>(.bool b)) rfl (fun x=>⟨fun h=>absurd h (by decide),fun h=>absurd h (by decide)⟩) (fun x w hm hS=>⟨rfl,rfl,q424 rfl rfl hb⟩)) ?_
 refine q2y4.All.step rfl (qu7n.Does.act (args:=fun x=>#[.agg #[.pointer (some ⟨cb,0,none⟩),.int .i64 v],.bool b,.int .i64 5]) (val:=fun x=>(.tuple #[])) (nx:=fun x=>(x.1,true)) (fun y hy x=>by cases hy;rfl) (fun x=>rfl) (fun x=>⟨fun h=>absurd h (by decide),fun _=>rfl⟩) (fun i x h=>⟨h.1,fun _=>rfl⟩) (fun i x hi h=>⟨h.1,fun e=>absurd e hi⟩) (fun x w hm hf hS=>⟨rfl,qrdh rfl rfl,H16 x w hS ((hm 2 (by kernel_rfl) (by decide)).1 rfl) (hf.2 rfl)⟩)) ?_
 exact q2y4.All.fin rfl
theorem qwvm{Q:Exit→Act→World→Prop}{S:Bool→World→Prop}{W:World}{B cb:Nat}{v n:Int}{b:Bool}{x0 x1 x2 x3 x4 x5 x6 x7 x9 x10 x11 x12 x13 x14 x15 x16 x17 x18 x19 x20 x21 x22 x23 x24 x25 x26 x27 x28 x29 x30 x31 x32 x33 x34 x35 x36 x37 x38 x39 x40 x41:Value}
 (hS:S false W.drew) (K0:∀x w,S x w→w.cell? ⟨B,0,none⟩=some (.pointer (some ⟨cb,0,none⟩))) (K1:∀x w,S x w→w.cell? ⟨B,1,none⟩=some (.int .i64 v)) (hb:(n==0)=b)
 (H26:∀(x:Bool) (w:World),S x w→Calls Tryz.prog 53 #[.pointer (some ⟨cb,0,none⟩)] w fun e w'=>e = .returned (.int .i64 n)∧S x w')
 (H28:∀(x:Bool) (w:World),S x w→x=false→Calls Tryz.prog 52 #[.agg #[.pointer (some ⟨cb,0,none⟩),.int .i64 v],.bool b,.int .i64 5] w fun e w'=>e = .returned (.tuple #[])∧S ((fun _=>true) x) w')
 (fin:∀w,S true w→Q .normal ⟨#[x0,x1,x2,x3,x4,x5,x6,x7,(.pointer (some ⟨B,0,none⟩)),x9,x10,x11,x12,x13,x14,x15,x16,x17,x18,x19,x20,x21,x22,(.agg #[.pointer (some ⟨cb,0,none⟩),.int .i64 v]),(.pointer (some ⟨B,0,none⟩)),(.pointer (some ⟨cb,0,none⟩)),(.int .i64 n),(.bool b),(.tuple #[]),x29,x30,x31,x32,x33,x34,x35,x36,x37,x38,x39,x40,x41],[]⟩ w) :
 (Code.region 5 (qfhu.opsAt 5 Tryz.f13.body) true).wp Tryz.prog Q ⟨#[x0,x1,x2,x3,x4,x5,x6,x7,(.pointer (some ⟨B,0,none⟩)),x9,x10,x11,x12,x13,x14,x15,x16,x17,x18,x19,x20,x21,x22,x23,x24,x25,x26,x27,x28,x29,x30,x31,x32,x33,x34,x35,x36,x37,x38,x39,x40,x41],[]⟩ W:=by
 refine qu7n.wp (fresh:=fun i x=>(i=5→x=false)) (hf0:=fun i=>fun _=>rfl) (x:=false) (S:=S) (made:=fun i x=>(i=5→x=true)) (war:=[]) (ds:=[23,24,25,26,27,28]) (A:=[x0,x1,x2,x3,x4,x5,x6,x7,(.pointer (some ⟨B,0,none⟩)),x9,x10,x11,x12,x13,x14,x15,x16,x17,x18,x19,x20,x21,x22,x23,x24,x25,x26,x27,x28,x29,x30,x31,x32,x33,x34,x35,x36,x37,x38,x39,x40,x41]) (B:=fun x=>[x0,x1,x2,x3,x4,x5,x6,x7,(.pointer (some ⟨B,0,none⟩)),x9,x10,x11,x12,x13,x14,x15,x16,x17,x18,x19,x20,x21,x22,(.agg #[.pointer (some ⟨cb,0,none⟩),.int .i64 v]),(.pointer (some ⟨B,0,none⟩)),(.pointer (some ⟨cb,0,none⟩)),(.int .i64 n),(.bool b),(.tuple #[]),x29,x30,x31,x32,x33,x34,x35,x36,x37,x38,x39,x40,x41]) (D:=[]) (by kernel_rfl) (by kernel_rfl) (by kernel_rfl) ?_ hS ?_ (fun x w hm hS=>fin w (by have h:=hm 5 (by decide) rfl;rw[←h];exact hS))
 ·exact fun x=>(by repeat (first | exact trivial | refine⟨.inr rfl,?_⟩ | refine⟨.inl rfl,?_⟩))
 refine q2y4.All.step rfl (qu7n.Does.pure (val:=fun x=>(.agg #[.pointer (some ⟨cb,0,none⟩),.int .i64 v])) rfl (fun x=>fun h=>absurd h (by decide)) (fun x w hm hS=>⟨rfl,rfl,qfsz rfl (K0 x w hS) (K1 x w hS)⟩)) ?_
 refine q2y4.All.step rfl (qu7n.Does.pure (val:=fun x=>(.pointer (some ⟨B,0,none⟩))) rfl (fun x=>fun h=>absurd h (by decide)) (fun x w hm hS=>⟨rfl,rfl,q8i8 rfl⟩)) ?_
 refine q2y4.All.step rfl (qu7n.Does.pure (val:=fun x=>(.pointer (some ⟨cb,0,none⟩))) rfl (fun x=>fun h=>absurd h (by decide)) (fun x w hm hS=>⟨rfl,rfl,qpti rfl (K0 x w hS)⟩)) ?_
 refine q2y4.All.step rfl (qu7n.Does.call (args:=fun x=>#[.pointer (some ⟨cb,0,none⟩)]) (val:=fun x=>(.int .i64 n)) rfl (fun x=>fun h=>absurd h (by decide)) (fun x w hm hS=>⟨rfl,rfl,q9di rfl,H26 x w hS⟩)) ?_
 refine q2y4.All.step rfl (qu7n.Does.pure (val:=fun x=>(.bool b)) rfl (fun x=>fun h=>absurd h (by decide)) (fun x w hm hS=>⟨rfl,rfl,qqiz rfl hb⟩)) ?_
 refine q2y4.All.step rfl (qu7n.Does.act (args:=fun x=>#[.agg #[.pointer (some ⟨cb,0,none⟩),.int .i64 v],.bool b,.int .i64 5]) (val:=fun x=>(.tuple #[])) (nx:=fun _=>true) (fun y hy x=>by cases hy;rfl) (fun x=>rfl) (fun x _=>rfl) (fun i x h e=>rfl) (fun i x hi h e=>absurd e hi) (fun x w hm hf hS=>⟨rfl,qrdh rfl rfl,H28 x w hS (hf rfl)⟩)) ?_
 exact q2y4.All.fin rfl
end Go.Proofs.YtaahhbjnflimnaaGreat
