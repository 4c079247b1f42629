/- The region of polyglotref08.Done that draws. Condition: none. -/
import Derived.Test.YtaahhbjnflimnaaGreatK02
import Derived.Test.YtaahhbjnflimnaaGreatK27
import Derived.Test.YtaahhbjnflimnaaGreatK15
import Derived.Test.YtaahhbjnflimnaaGreatK08
import Derived.Test.YtaahhbjnflimnaaGreatK18
set_option maxRecDepth 100000
set_option maxHeartbeats 4000000
namespace Go.Proofs.YtaahhbjnflimnaaGreat
open Go.RowKit
section
variable{a:Act}{w:World}{d:Option Tmp}{p:String}{af:Array Edge}{gd:Option (Nat×Bool)}{x y z:Tmp}{r:TypeId}
theorem qaf1  :
 (execOp a.eval {dst:=d,op := .build 28 #[],type:=r,pos:=p,after:=af,guard:=gd}).run Tryz.prog w = .ok (.value (.agg pkZ)) w:=by
 have hz:=qrai w
 have hne:¬pkZ=#[]:=by intro h;have:=qbwp;rw[h] at this;cases this
 have hs:=qbwp
 generalize a.eval=f at *
 go_simp
theorem q8u0{g:Nat}(hx:a.eval (.tmp x) = .pointer (some ⟨g,0,none⟩)) :
 (execOp a.eval {dst:=d,op := .nilCheck (.tmp x),type:=r,pos:=p,after:=af,guard:=gd}).run Tryz.prog w = .ok (.value (.pointer (some ⟨g,0,none⟩))) w:=by
 generalize a.eval=f at *
 go_simp
theorem qn9r{g:Nat}(hx:a.eval (.tmp x) = .pointer (some ⟨g,0,none⟩)) :
 (execOp a.eval {dst:=d,op := .fieldAddr 113 (.tmp x) 2,type:=r,pos:=p,after:=af,guard:=gd}).run Tryz.prog w = .ok (.value (.pointer (some ⟨g,2,none⟩))) w:=by
 generalize a.eval=f at *
 go_simp
theorem dn_l{g j:Nat}{k:Int}(hx:a.eval (.tmp x) = .pointer (some ⟨g,j,none⟩))(hc:w.cell? ⟨g,j,none⟩=some (.int .i64 k)) :
 (execOp a.eval {dst:=d,op := .load 31 (.tmp x),type:=31,pos:=p,after:=af,guard:=gd}).run Tryz.prog w = .ok (.value (.int .i64 k)) w:=by
 generalize a.eval=f at *
 go_simp
theorem q80d{g:Nat}{D old:Array Value}(hx:a.eval (.tmp x) = .pointer (some ⟨g,0,none⟩))(hy:a.eval (.tmp y) = .agg D)(hD:D.size=25)(h1:D.all (·.oneCell')=true)(hg:w.heap[g]? = some (.cells old 28 (0,0)))(ho:old.size=25) :
 (execOp a.eval {dst:=d,op := .store 28 (.tmp x) (.tmp y),type:=r,pos:=p,after:=af,guard:=gd}).run Tryz.prog w = .ok .skip (w.setRow g D):=by
 unfold execOp
 simp only[hx,hy,Instr.storeAt,Instr.sureAddr,Sem.run_bind,Sem.run_pure,Result.andThen_ok,run_storeVar_row w g 28 28 old D hg (by rw[hD];exact q5nr) (by rw[ho,hD]) h1]
end
theorem qy7c{Q:Exit→Act→World→Prop}{T:World→Prop}{W:World}{B cb:Nat}{z:Int}{x1 x2 x3 x4 x5 x7 x8 x9 x10 x11 x12 x13 x14 x15 x16 x17 x18 x19 x20 x21 x22 x23 x24 x25 x26 x27 x28 x29 x30 x31 x32 x33:Value}
 (hT:T W.drew) (K2:∀w,T w→w.cell? ⟨cb,2,none⟩=some (.int .i64 z)) (KB:∀w,T w→w.heap[B]? = some (.cells pkZ 28 (0,0))) (ST:∀w,T w→T (w.setRow B pkZ))
 (fin:∀w,T w→Q .normal ⟨#[(.pointer (some ⟨cb,0,none⟩)),x1,x2,x3,x4,x5,(.pointer (some ⟨B,0,none⟩)),(.int .i64 z),x8,x9,x10,x11,x12,x13,x14,x15,x16,x17,x18,x19,x20,x21,x22,x23,x24,x25,x26,x27,(.agg pkZ),(.pointer (some ⟨cb,0,none⟩)),(.pointer (some ⟨cb,0,none⟩)),(.pointer (some ⟨cb,2,none⟩)),(.int .i64 z),x33],[]⟩ w) :
 (Code.region 5 (qfhu.opsAt 5 Tryz.f61.body) true).wp Tryz.prog Q ⟨#[(.pointer (some ⟨cb,0,none⟩)),x1,x2,x3,x4,x5,(.pointer (some ⟨B,0,none⟩)),x7,x8,x9,x10,x11,x12,x13,x14,x15,x16,x17,x18,x19,x20,x21,x22,x23,x24,x25,x26,x27,x28,x29,x30,x31,x32,x33],[]⟩ W:=by
 refine q2y4.wp (x:=()) (S:=fun(_:Unit) w=>T w) (made:=fun _ _=>True) (war:=[]) (ds:=[28,29,30,31,32,7]) (D:=[]) (by kernel_rfl) (by kernel_rfl) (by kernel_rfl) ?_ hT ?_ (fun x w _ hS=>fin w hS)
 ·exact fun x=>(by repeat (first | exact trivial | refine⟨.inr rfl,?_⟩ | refine⟨.inl rfl,?_⟩))
 refine q2y4.pu rfl rfl (fun _=>trivial) (fun x w hm hS=>⟨rfl,rfl,qaf1⟩) ?_
 refine q2y4.pu rfl rfl (fun _=>trivial) (fun x w hm hS=>⟨rfl,rfl,rfl⟩) ?_
 refine q2y4.pu rfl rfl (fun _=>trivial) (fun x w hm hS=>⟨rfl,rfl,q8u0 rfl⟩) ?_
 refine q2y4.pu rfl rfl (fun _=>trivial) (fun x w hm hS=>⟨rfl,rfl,qn9r rfl⟩) ?_
 refine q2y4.pu rfl rfl (fun _=>trivial) (fun x w hm hS=>⟨rfl,rfl,dn_l rfl (K2 w hS)⟩) ?_
 refine q2y4.All.step rfl ((fun x w hm hS => .inl ⟨rfl,.skip x _ (q80d rfl rfl qbwp (qmz0 Pk.zero adZ) (KB w hS) qbwp) ⟨fun d hd=>(by cases hd),ST w hS,trivial,fun i h=>h,[],rfl,q2y4.off_refl 0 _⟩⟩)) ?_
 refine q2y4.pu rfl rfl (fun _=>trivial) (fun x w hm hS=>⟨rfl,rfl,rfl⟩) ?_
 exact q2y4.All.fin rfl
section
variable{a:Act}{w:World}{d:Option Tmp}{p:String}{af:Array Edge}{gd:Option (Nat×Bool)}{x y z:Tmp}{r:TypeId}
theorem q4oz{ts:Array TypeId}{u v:Value}(hx:a.eval (.tmp x)=u)(hy:a.eval (.tmp y)=v) :
 (execOp a.eval {dst:=d,op := .call {callee := .value (.func 17),args:=#[.tmp x,.tmp y],argTypes:=ts},type:=r,pos:=p,after:=af,guard:=gd}).run Tryz.prog w = .ok (.enter 17 #[u,v]) w:=by
 have hf:a.eval (.func 17) = .func (.func 17) #[] #[]:=rfl
 generalize a.eval=f at *
 go_simp
theorem qhhs{ts:Array TypeId}{u v u3:Value}(hx:a.eval (.tmp x)=u)(hy:a.eval (.tmp y)=v)(hz:a.eval (.tmp z)=u3) :
 (execOp a.eval {dst:=d,op := .call {callee := .value (.func 61),args:=#[.tmp x,.tmp y,.tmp z],argTypes:=ts},type:=r,pos:=p,after:=af,guard:=gd}).run Tryz.prog w = .ok (.enter 61 #[u,v,u3]) w:=by
 have hf:a.eval (.func 61) = .func (.func 61) #[] #[]:=rfl
 generalize a.eval=f at *
 go_simp
end
theorem q7kq{Q:Exit→Act→World→Prop}{S:Bool×Bool→World→Prop}{W:World}{B R cb:Nat}{v k z:Int}{C D:Array Value}{x1 x2 x3 x4 x5 x7 x10 x11 x12 x13 x14 x15 x16 x17 x18 x19 x20 x21 x22 x23 x24 x25 x26 x27 x28 x29 x30 x31 x32 x33 x34 x35 x36 x37 x38 x39 x40 x41 x42 x43 x44 x45 x46 x47 x48 x49 x50 x51 x52 x53 x54 x55:Value}
 (hS:S (false,false) W.drew) (hC:C.size=25) (hD1:D.size=25) (hD2:D.all (·.oneCell')=true) (KB:∀x w,S x w→w.heap[B]? = some (.cells C 28 (0,0))) (KR:∀x w,S x w→x.2=false→w.heap[R]? = some (.cells pkZ 28 (0,0)))
 (HV:∀(x:Bool×Bool) (w:World),S x w→Calls Tryz.prog 17 #[(.int .i64 v),(.agg C)] w fun e w'=>e = .returned (.int .i64 k)∧S x w')
 (HD:∀(x:Bool×Bool) (w:World),S x w→x.1=false→Calls Tryz.prog 61 #[(.pointer (some ⟨cb,0,none⟩)),(.agg C),(.int .i64 k)] w fun e w'=>e = .returned (.tuple #[(.agg D),(.int .i64 z)])∧S (true,x.2) w')
 (ST:∀x w,S x w→x.1=true→x.2=false→S (x.1,true) (w.setRow R D))
 (fin:∀w,S (true,true) w→Q .normal ⟨#[(.int .i64 v),x1,x2,x3,x4,x5,(.pointer (some ⟨R,0,none⟩)),(.int .i64 z),(.pointer (some ⟨cb,0,none⟩)),(.pointer (some ⟨B,0,none⟩)),x10,x11,x12,x13,x14,x15,x16,x17,x18,x19,x20,x21,x22,x23,x24,x25,x26,x27,x28,x29,x30,x31,x32,x33,x34,x35,x36,x37,x38,x39,x40,x41,x42,x43,x44,x45,x46,x47,(.pointer (some ⟨cb,0,none⟩)),(.agg C),(.int .i64 v),(.agg C),(.int .i64 k),(.tuple #[(.agg D),(.int .i64 z)]),(.agg D),(.int .i64 z)],[]⟩ w) :
 (Code.region 12 (qfhu.opsAt 12 Tryz.f14.body) true).wp Tryz.prog Q ⟨#[(.int .i64 v),x1,x2,x3,x4,x5,(.pointer (some ⟨R,0,none⟩)),x7,(.pointer (some ⟨cb,0,none⟩)),(.pointer (some ⟨B,0,none⟩)),x10,x11,x12,x13,x14,x15,x16,x17,x18,x19,x20,x21,x22,x23,x24,x25,x26,x27,x28,x29,x30,x31,x32,x33,x34,x35,x36,x37,x38,x39,x40,x41,x42,x43,x44,x45,x46,x47,x48,x49,x50,x51,x52,x53,x54,x55],[]⟩ W:=by
 refine qu7n.wp (fresh:=fun i x=>(i=5→x.1=false)∧(i=8→x.2=false)) (hf0:=fun i=>⟨fun _=>rfl,fun _=>rfl⟩) (x:=(false,false)) (S:=S) (made:=fun i x=>(i=5→x.1=true)∧(i=8→x.2=true)) (war:=[]) (ds:=[48,49,50,51,52,53,54,55,7]) (A:=[(.int .i64 v),x1,x2,x3,x4,x5,(.pointer (some ⟨R,0,none⟩)),x7,(.pointer (some ⟨cb,0,none⟩)),(.pointer (some ⟨B,0,none⟩)),x10,x11,x12,x13,x14,x15,x16,x17,x18,x19,x20,x21,x22,x23,x24,x25,x26,x27,x28,x29,x30,x31,x32,x33,x34,x35,x36,x37,x38,x39,x40,x41,x42,x43,x44,x45,x46,x47,x48,x49,x50,x51,x52,x53,x54,x55]) (B:=fun x=>[(.int .i64 v),x1,x2,x3,x4,x5,(.pointer (some ⟨R,0,none⟩)),(.int .i64 z),(.pointer (some ⟨cb,0,none⟩)),(.pointer (some ⟨B,0,none⟩)),x10,x11,x12,x13,x14,x15,x16,x17,x18,x19,x20,x21,x22,x23,x24,x25,x26,x27,x28,x29,x30,x31,x32,x33,x34,x35,x36,x37,x38,x39,x40,x41,x42,x43,x44,x45,x46,x47,(.pointer (some ⟨cb,0,none⟩)),(.agg C),(.int .i64 v),(.agg C),(.int .i64 k),(.tuple #[(.agg D),(.int .i64 z)]),(.agg D),(.int .i64 z)]) (D:=[]) (by kernel_rfl) (by kernel_rfl) (by kernel_rfl) ?_ hS ?_ (fun x w hm hS=>fin w (by have h:=(hm 5 (by decide)).1 rfl;have h2:=(hm 8 (by decide)).2 rfl;rw[show(true,true)=x from(Prod.ext h h2).symm];exact hS))
 ·exact fun x=>(by repeat (first | exact trivial | refine⟨.inr rfl,?_⟩ | refine⟨.inl rfl,?_⟩))
 refine q2y4.All.step rfl (qu7n.Does.pure (val:=fun x=>(.pointer (some ⟨cb,0,none⟩))) rfl (fun x=>⟨fun h=>absurd h (by decide),fun h=>absurd h (by decide)⟩) (fun x w hm hS=>⟨rfl,rfl,rfl⟩)) ?_
 refine q2y4.All.step rfl (qu7n.Does.pure (val:=fun x=>(.agg C)) rfl (fun x=>⟨fun h=>absurd h (by decide),fun h=>absurd h (by decide)⟩) (fun x w hm hS=>⟨rfl,rfl,q5g8 rfl hC (KB x w hS)⟩)) ?_
 refine q2y4.All.step rfl (qu7n.Does.pure (val:=fun x=>(.int .i64 v)) rfl (fun x=>⟨fun h=>absurd h (by decide),fun h=>absurd h (by decide)⟩) (fun x w hm hS=>⟨rfl,rfl,rfl⟩)) ?_
 refine q2y4.All.step rfl (qu7n.Does.pure (val:=fun x=>(.agg C)) rfl (fun x=>⟨fun h=>absurd h (by decide),fun h=>absurd h (by decide)⟩) (fun x w hm hS=>⟨rfl,rfl,q5g8 rfl hC (KB x w hS)⟩)) ?_
 refine q2y4.All.step rfl (qu7n.Does.call (args:=fun x=>#[(.int .i64 v),(.agg C)]) (val:=fun x=>(.int .i64 k)) rfl (fun x=>⟨fun h=>absurd h (by decide),fun h=>absurd h (by decide)⟩) (fun x w hm hS=>⟨rfl,rfl,q4oz rfl rfl,HV x w hS⟩)) ?_
 refine q2y4.All.step rfl (qu7n.Does.act (args:=fun x=>#[(.pointer (some ⟨cb,0,none⟩)),(.agg C),(.int .i64 k)]) (val:=fun x=>(.tuple #[(.agg D),(.int .i64 z)])) (nx:=fun x=>(true,x.2)) (fun y hy x=>by cases hy;rfl) (fun x=>rfl) (fun x=>⟨fun _=>rfl,fun h=>absurd h (by decide)⟩) (fun i x h=>⟨fun _=>rfl,h.2⟩) (fun i x hi h=>⟨fun e=>absurd e hi,h.2⟩) (fun x w hm hf hS=>⟨rfl,qhhs rfl rfl rfl,HD x w hS (hf.1 rfl)⟩)) ?_
 refine q2y4.All.step rfl (qu7n.Does.pure (val:=fun x=>(.agg D)) rfl (fun x=>⟨fun h=>absurd h (by decide),fun h=>absurd h (by decide)⟩) (fun x w hm hS=>⟨rfl,rfl,rfl⟩)) ?_
 refine q2y4.All.step rfl (qu7n.Does.pure (val:=fun x=>(.int .i64 z)) rfl (fun x=>⟨fun h=>absurd h (by decide),fun h=>absurd h (by decide)⟩) (fun x w hm hS=>⟨rfl,rfl,rfl⟩)) ?_
 refine q2y4.All.step rfl ((fun x w hm hf hS => .inl ⟨rfl,.skip (x.1,true) _ (q80d rfl rfl hD1 hD2 (KR x w hS (hf.2 rfl)) qbwp) ⟨fun d hd=>(by cases hd),ST x w hS ((hm 5 (by kernel_rfl) (by decide)).1 rfl) (hf.2 rfl),⟨fun h=>absurd h (by decide),fun _=>rfl⟩,fun i h=>⟨h.1,fun _=>rfl⟩,fun i hi h=>⟨h.1,fun e=>absurd e hi⟩,[],rfl,q2y4.off_refl 0 _⟩⟩)) ?_
 refine q2y4.All.step rfl (qu7n.Does.pure (val:=fun x=>(.int .i64 z)) rfl (fun x=>⟨fun h=>absurd h (by decide),fun h=>absurd h (by decide)⟩) (fun x w hm hS=>⟨rfl,rfl,rfl⟩)) ?_
 exact q2y4.All.fin rfl
section
variable{a:Act}{w:World}{d:Option Tmp}{p:String}{af:Array Edge}{gd:Option (Nat×Bool)}{x y z:Tmp}{r:TypeId}
theorem qele{ts:Array TypeId}{u v:Value}(hx:a.eval (.tmp x)=u)(hy:a.eval (.tmp y)=v) :
 (execOp a.eval {dst:=d,op := .call {callee := .value (.func 15),args:=#[.tmp x,.tmp y],argTypes:=ts},type:=r,pos:=p,after:=af,guard:=gd}).run Tryz.prog w = .ok (.enter 15 #[u,v]) w:=by
 have hf:a.eval (.func 15) = .func (.func 15) #[] #[]:=rfl
 generalize a.eval=f at *
 go_simp
theorem qr3j{ts:Array TypeId}{u v:Value}(hx:a.eval (.tmp x)=u)(hy:a.eval (.tmp y)=v) :
 (execOp a.eval {dst:=d,op := .call {callee := .value (.func 16),args:=#[.tmp x,.tmp y],argTypes:=ts},type:=r,pos:=p,after:=af,guard:=gd}).run Tryz.prog w = .ok (.enter 16 #[u,v]) w:=by
 have hf:a.eval (.func 16) = .func (.func 16) #[] #[]:=rfl
 generalize a.eval=f at *
 go_simp
theorem qlqu{ts:Array TypeId}{u:Value}(hx:a.eval (.tmp x)=u) :
 (execOp a.eval {dst:=d,op := .call {callee := .value (.func 18),args:=#[.tmp x],argTypes:=ts},type:=r,pos:=p,after:=af,guard:=gd}).run Tryz.prog w = .ok (.enter 18 #[u]) w:=by
 have hf:a.eval (.func 18) = .func (.func 18) #[] #[]:=rfl
 generalize a.eval=f at *
 go_simp
theorem q51l{ts:Array TypeId}{u:Value}(hx:a.eval (.tmp x)=u) :
 (execOp a.eval {dst:=d,op := .call {callee := .value (.func 19),args:=#[.tmp x],argTypes:=ts},type:=r,pos:=p,after:=af,guard:=gd}).run Tryz.prog w = .ok (.enter 19 #[u]) w:=by
 have hf:a.eval (.func 19) = .func (.func 19) #[] #[]:=rfl
 generalize a.eval=f at *
 go_simp
theorem qb7v{v:ByteArray}(hx:a.eval (.tmp x) = .string v)(hy:a.eval (.tmp y) = .string v) :
 (execOp a.eval {dst:=d,op := .binOp .eql 9 (.tmp x) (.tmp y) 9,type:=r,pos:=p,after:=af,guard:=gd}).run Tryz.prog w = .ok (.value (.bool true)) w:=by
 generalize a.eval=f at *
 go_simp
theorem q73w{v:Int}(hx:a.eval (.tmp x) = .int .i64 v)(hy:a.eval (.tmp y) = .int .i64 v) :
 (execOp a.eval {dst:=d,op := .binOp .eql 31 (.tmp x) (.tmp y) 31,type:=r,pos:=p,after:=af,guard:=gd}).run Tryz.prog w = .ok (.value (.bool true)) w:=by
 generalize a.eval=f at *
 go_simp
theorem qbhd{v:Int}(hx:a.eval (.tmp x) = .int .i64 v)(hy:a.eval (.tmp y) = .int .i64 v) :
 (execOp a.eval {dst:=d,op := .binOp .eql 3 (.tmp x) (.tmp y) 3,type:=r,pos:=p,after:=af,guard:=gd}).run Tryz.prog w = .ok (.value (.bool true)) w:=by
 generalize a.eval=f at *
 go_simp
end
theorem qqwz{Q:Exit→Act→World→Prop}{S:World→Prop}{W:World}{b b1 b2:Nat}{v x y z u:Int}{A:ByteArray}{C D E:Array Value}{x1 x2 x3 x4 x6 x7 x8 x17 x18 x19 x20 x21 x22 x23 x24 x25 x26 x27 x28 x29 x30 x31 x32 x33 x34 x35 x36 x37 x38 x39 x40 x41 x42 x43 x44 x45 x46 x47 x48 x49 x50 x51 x52 x53 x54 x55 x56 x57 x58 x59 x60 x61 x62 x63 x64 x65 x66 x67 x68 x69 x70 x71 x72 x73 x74 x75 x76 x77 x78 x79 x80 x81 x82 x83 x84 x85 x86 x87:Value}
 (hS:S W.drew) (hC:C.size=25) (hD:D.size=25) (hE:E.size=25) (KC:∀w,S w→w.heap[b1]? = some (.cells C 28 (0,0))) (KD:∀w,S w→w.heap[b2]? = some (.cells D 28 (0,0))) (KE:∀w,S w→w.heap[b]? = some (.cells E 28 (0,0)))
 (H0:∀w,S w→Calls Tryz.prog 15 #[(.agg C),(.agg D)] w fun e w'=>e = .returned (.bool true)∧S w')
 (H1:∀w,S w→Calls Tryz.prog 16 #[(.int .i64 v),(.agg E)] w fun e w'=>e = .returned (.int .i64 z)∧S w')
 (H2:∀w,S w→Calls Tryz.prog 17 #[(.int .i64 v),(.agg E)] w fun e w'=>e = .returned (.int .i64 z)∧S w')
 (H3:∀w,S w→Calls Tryz.prog 18 #[(.agg E)] w fun e w'=>e = .returned (.int .i64 u)∧S w')
 (H4:∀w,S w→Calls Tryz.prog 19 #[(.agg E)] w fun e w'=>e = .returned (.int .i64 u)∧S w')
 (fin:∀w,S w→Q .normal ⟨#[(.int .i64 v),x1,x2,x3,x4,(.pointer (some ⟨b,0,none⟩)),x6,x7,(.bool true),(.string A),(.int .i64 x),(.string A),(.int .i64 x),(.pointer (some ⟨b1,0,none⟩)),(.int .i64 y),(.pointer (some ⟨b2,0,none⟩)),(.int .i64 y),x17,x18,x19,x20,x21,x22,x23,x24,x25,x26,x27,x28,x29,x30,x31,x32,x33,x34,x35,x36,x37,x38,x39,x40,x41,x42,x43,x44,x45,x46,x47,x48,x49,x50,x51,x52,x53,(.string A),(.string A),(.bool true),(.bool true),(.int .i64 x),(.int .i64 x),(.bool true),(.bool true),(.bool true),(.agg C),(.agg D),(.bool true),(.bool true),(.bool true),(.int .i64 y),(.int .i64 y),(.bool true),(.bool true),(.bool true),(.int .i64 v),(.agg E),(.int .i64 z),(.int .i64 v),(.agg E),(.int .i64 z),(.bool true),(.bool true),(.bool true),(.agg E),(.int .i64 u),(.agg E),(.int .i64 u),(.bool true),(.bool true)],[]⟩ w) :
 (Code.region 9 (qfhu.opsAt 9 Tryz.f3.body) true).wp Tryz.prog Q ⟨#[(.int .i64 v),x1,x2,x3,x4,(.pointer (some ⟨b,0,none⟩)),x6,x7,x8,(.string A),(.int .i64 x),(.string A),(.int .i64 x),(.pointer (some ⟨b1,0,none⟩)),(.int .i64 y),(.pointer (some ⟨b2,0,none⟩)),(.int .i64 y),x17,x18,x19,x20,x21,x22,x23,x24,x25,x26,x27,x28,x29,x30,x31,x32,x33,x34,x35,x36,x37,x38,x39,x40,x41,x42,x43,x44,x45,x46,x47,x48,x49,x50,x51,x52,x53,x54,x55,x56,x57,x58,x59,x60,x61,x62,x63,x64,x65,x66,x67,x68,x69,x70,x71,x72,x73,x74,x75,x76,x77,x78,x79,x80,x81,x82,x83,x84,x85,x86,x87],[]⟩ W:=by
 refine qfhu.wp_in (ds:=[54,55,56,57,58,59,60,61,62,63,64,65,66,67,68,69,70,71,72,73,74,75,76,77,78,79,80,81,82,83,84,85,86,87,8]) (D:=[]) (by kernel_rfl) (by kernel_rfl) (by kernel_rfl) ?_ hS ?_ (fun w hS=>fin w hS)
 ·exact(by repeat (first | exact trivial | refine⟨.inr rfl,?_⟩ | refine⟨.inl rfl,?_⟩))
 refine qfhu.pu rfl rfl rfl rfl (fun w hS=>rfl) ?_
 refine qfhu.pu rfl rfl rfl rfl (fun w hS=>rfl) ?_
 refine qfhu.pu rfl rfl rfl rfl (fun w hS=>qb7v rfl rfl) ?_
 iterate 3 refine qfhu.pu rfl rfl rfl rfl (fun w hS=>rfl) ?_
 refine qfhu.pu rfl rfl rfl rfl (fun w hS=>q73w rfl rfl) ?_
 refine qfhu.pu rfl rfl rfl rfl (fun w hS=>rfl) ?_
 refine qfhu.pu rfl rfl rfl rfl (fun w hS=>rfl) ?_
 refine qfhu.pu rfl rfl rfl rfl (fun w hS=>q5g8 rfl hC (KC w hS)) ?_
 refine qfhu.pu rfl rfl rfl rfl (fun w hS=>q5g8 rfl hD (KD w hS)) ?_
 refine qfhu.ca rfl rfl rfl rfl (fun w=>qele rfl rfl) H0 ?_
 iterate 4 refine qfhu.pu rfl rfl rfl rfl (fun w hS=>rfl) ?_
 refine qfhu.pu rfl rfl rfl rfl (fun w hS=>q73w rfl rfl) ?_
 iterate 3 refine qfhu.pu rfl rfl rfl rfl (fun w hS=>rfl) ?_
 refine qfhu.pu rfl rfl rfl rfl (fun w hS=>q5g8 rfl hE (KE w hS)) ?_
 refine qfhu.ca rfl rfl rfl rfl (fun w=>qr3j rfl rfl) H1 ?_
 refine qfhu.pu rfl rfl rfl rfl (fun w hS=>rfl) ?_
 refine qfhu.pu rfl rfl rfl rfl (fun w hS=>q5g8 rfl hE (KE w hS)) ?_
 refine qfhu.ca rfl rfl rfl rfl (fun w=>q4oz rfl rfl) H2 ?_
 refine qfhu.pu rfl rfl rfl rfl (fun w hS=>q73w rfl rfl) ?_
 refine qfhu.pu rfl rfl rfl rfl (fun w hS=>rfl) ?_
 refine qfhu.pu rfl rfl rfl rfl (fun w hS=>rfl) ?_
 refine qfhu.pu rfl rfl rfl rfl (fun w hS=>q5g8 rfl hE (KE w hS)) ?_
 refine qfhu.ca rfl rfl rfl rfl (fun w=>qlqu rfl) H3 ?_
 refine qfhu.pu rfl rfl rfl rfl (fun w hS=>q5g8 rfl hE (KE w hS)) ?_
 refine qfhu.ca rfl rfl rfl rfl (fun w=>q51l rfl) H4 ?_
 refine qfhu.pu rfl rfl rfl rfl (fun w hS=>qbhd rfl rfl) ?_
 refine qfhu.pu rfl rfl rfl rfl (fun w hS=>rfl) ?_
 refine qfhu.pu rfl rfl rfl rfl (fun w hS=>rfl) ?_
 exact qfhu.All.fin rfl
section
variable{a:Act}{w:World}{d:Option Tmp}{p:String}{af:Array Edge}{gd:Option (Nat×Bool)}{x y z:Tmp}{r:TypeId}
theorem q390{g:Nat}{C:Array Value}(hx:a.eval (.tmp x) = .pointer (some ⟨g,0,none⟩))(hs:C.size=25)(hg:w.heap[g]? = some (.cells C 28 (0,0))) :
 (execOp a.eval {dst:=d,op := .load 28 (.tmp x),type:=28,pos:=p,after:=af,guard:=gd}).run Tryz.prog w = .ok (.value (.agg C)) w:=by
 unfold execOp
 simp only[hx,Instr.loadAt,Instr.sureAddr,Sem.run_bind,Sem.run_pure,Result.andThen_ok,run_loadVar_row w g 28 28 C (0,0) _ hg Tryz.underlying28 rfl (by rw[hs];exact q5nr)]
theorem q809{g:Nat}(hx:a.eval (.tmp x) = .pointer (some ⟨g,0,none⟩)) :
 (execOp a.eval {dst:=d,op := .fieldAddr 28 (.tmp x) 0,type:=r,pos:=p,after:=af,guard:=gd}).run Tryz.prog w = .ok (.value (.pointer (some ⟨g,0,none⟩))) w:=by
 generalize a.eval=f at *
 go_simp
theorem qta9{g:Nat}{k:Int}(hx:a.eval (.tmp x) = .pointer (some ⟨g,0,none⟩))(hc:w.cell? ⟨g,0,none⟩=some (.int .i64 k)) :
 (execOp a.eval {dst:=d,op := .load 3 (.tmp x),type:=3,pos:=p,after:=af,guard:=gd}).run Tryz.prog w = .ok (.value (.int .i64 k)) w:=by
 generalize a.eval=f at *
 go_simp
theorem qdfg{b c:Bool}(hx:a.eval (.tmp x) = .bool b)(hc:(!b)=c) :
 (execOp a.eval {dst:=d,op := .unOp .not 4 (.tmp x),type:=r,pos:=p,after:=af,guard:=gd}).run Tryz.prog w = .ok (.value (.bool c)) w:=by
 subst hc
 generalize a.eval=f at *
 go_simp
theorem qq11{ts:Array TypeId}{u v:Value}(hx:a.eval (.tmp x)=u)(hy:a.eval (.tmp y)=v) :
 (execOp a.eval {dst:=d,op := .call {callee := .value (.func 49),args:=#[.tmp x,.tmp y],argTypes:=ts},type:=r,pos:=p,after:=af,guard:=gd}).run Tryz.prog w = .ok (.enter 49 #[u,v]) w:=by
 have hf:a.eval (.func 49) = .func (.func 49) #[] #[]:=rfl
 generalize a.eval=f at *
 go_simp
theorem q3h2{ts:Array TypeId}{u v:Value}(hx:a.eval (.tmp x)=u)(hy:a.eval (.tmp y)=v) :
 (execOp a.eval {dst:=d,op := .call {callee := .value (.func 125),args:=#[.tmp x,.tmp y],argTypes:=ts},type:=r,pos:=p,after:=af,guard:=gd}).run Tryz.prog w = .ok (.enter 125 #[u,v]) w:=by
 have hf:a.eval (.func 125) = .func (.func 125) #[] #[]:=rfl
 generalize a.eval=f at *
 go_simp
theorem qdrq{ts:Array TypeId}{u v:Value}(hx:a.eval (.tmp x)=u)(hy:a.eval (.tmp y)=v) :
 (execOp a.eval {dst:=d,op := .call {callee := .value (.func 94),args:=#[.tmp x,.tmp y],argTypes:=ts},type:=r,pos:=p,after:=af,guard:=gd}).run Tryz.prog w = .ok (.enter 94 #[u,v]) w:=by
 have hf:a.eval (.func 94) = .func (.func 94) #[] #[]:=rfl
 generalize a.eval=f at *
 go_simp
end
theorem qyqy{Q:Exit→Act→World→Prop}{S:World→Prop}{W:World}{v k:Int}{C U:Array Value}{m:Bool}{B:Nat}{x5 x6 x7 x8 x9 x10 x11 x12 x13 x14 x15 x16 x17 x18 x19 x20 x21 x22 x23 x24 x25 x26 x27 x28 x29 x30 x31 x32 x33 x34 x35 x36 x37 x38 x39 x40 x41 x42 x43 x44 x45 x46 x47 x48 x49 x50 x51 x52 x53 x54 x55 x56 x57 x58 x59 x60 x61 x62:Value}
 (hS:S W.drew) (hC:C.size=25) (hS0:∀w,S w→w.cell? ⟨B,0,none⟩=some (.int .i64 k)) (hS1:∀w,S w→w.heap[B]? = some (.cells C 28 (0,0)))
 (KN:∀w,S w→Calls Tryz.prog 49 #[.int .i64 v,.int .i64 k] w fun e w'=>e = .returned (.bool true)∧S w')
 (US:∀w,S w→Calls Tryz.prog 125 #[.int .i64 v,.agg C] w fun e w'=>e = .returned (.agg U)∧S w')
 (SM:∀w,S w→Calls Tryz.prog 94 #[.agg C,.agg U] w fun e w'=>e = .returned (.bool m)∧S w')
 (fin:∀w,S w→Q .normal ⟨#[(.int .i64 v),(.agg C),undef,(.pointer (some ⟨B,0,none⟩)),(.bool false),x5,(.int .i64 v),(.pointer (some ⟨B,0,none⟩)),(.int .i64 k),(.bool true),(.bool false),(.bool false),(.agg C),(.int .i64 v),(.agg C),(.agg U),(.bool m),(.bool (!m)),(.bool (!m)),x19,x20,x21,x22,x23,x24,x25,x26,x27,x28,x29,x30,x31,x32,x33,x34,x35,x36,x37,x38,x39,x40,x41,x42,x43,x44,x45,x46,x47,x48,x49,x50,x51,x52,x53,x54,x55,x56,x57,x58,x59,x60,x61,x62],[]⟩ w) :
 (Code.region 1 (qfhu.opsAt 1 Tryz.f66.body) true).wp Tryz.prog Q ⟨#[(.int .i64 v),(.agg C),undef,(.pointer (some ⟨B,0,none⟩)),(.bool false),x5,x6,x7,x8,x9,x10,x11,x12,x13,x14,x15,x16,x17,x18,x19,x20,x21,x22,x23,x24,x25,x26,x27,x28,x29,x30,x31,x32,x33,x34,x35,x36,x37,x38,x39,x40,x41,x42,x43,x44,x45,x46,x47,x48,x49,x50,x51,x52,x53,x54,x55,x56,x57,x58,x59,x60,x61,x62],[]⟩ W:=by
 refine qfhu.wp_in (ds:=[6,7,8,9,10,11,12,13,14,15,16,17,18]) (D:=[]) (by kernel_rfl) (by kernel_rfl) (by kernel_rfl) ?_ hS ?_ fin
 ·exact(by repeat (first | exact trivial | refine⟨.inr rfl,?_⟩ | refine⟨.inl rfl,?_⟩))
 refine qfhu.pu rfl rfl rfl rfl (fun w hS=>rfl) ?_
 refine qfhu.pu rfl rfl rfl rfl (fun w hS=>q809 rfl) ?_
 refine qfhu.pu rfl rfl rfl rfl (fun w hS=>qta9 rfl (hS0 w hS)) ?_
 refine qfhu.ca rfl rfl rfl rfl (fun w=>qq11 rfl rfl) KN ?_
 refine qfhu.pu rfl rfl rfl rfl (fun w hS=>qdfg rfl rfl) ?_
 refine qfhu.pu rfl rfl rfl rfl (fun w hS=>rfl) ?_
 refine qfhu.pu rfl rfl rfl rfl (fun w hS=>q390 rfl hC (hS1 w hS)) ?_
 refine qfhu.pu rfl rfl rfl rfl (fun w hS=>rfl) ?_
 refine qfhu.pu rfl rfl rfl rfl (fun w hS=>q390 rfl hC (hS1 w hS)) ?_
 refine qfhu.ca rfl rfl rfl rfl (fun w=>q3h2 rfl rfl) US ?_
 refine qfhu.ca rfl rfl rfl rfl (fun w=>qdrq rfl rfl) SM ?_
 refine qfhu.pu rfl rfl rfl rfl (fun w hS=>qdfg rfl rfl) ?_
 refine qfhu.pu rfl rfl rfl rfl (fun w hS=>rfl) ?_
 exact qfhu.All.fin rfl
theorem q070{Q:Exit→Act→World→Prop}{S:World→Prop}{W:World}{v k:Int}{C:Array Value}{B:Nat}{x5 x6 x7 x8 x9 x10 x11 x12 x13 x14 x15 x16 x17 x18 x19 x20 x21 x22 x23 x24 x25 x26 x27 x28 x29 x30 x31 x32 x33 x34 x35 x36 x37 x38 x39 x40 x41 x42 x43 x44 x45 x46 x47 x48 x49 x50 x51 x52 x53 x54 x55 x56 x57 x58 x59 x60 x61 x62:Value}
 (hS:S W.drew) (hS0:∀w,S w→w.cell? ⟨B,0,none⟩=some (.int .i64 k))
 (KN:∀w,S w→Calls Tryz.prog 49 #[.int .i64 v,.int .i64 k] w fun e w'=>e = .returned (.bool false)∧S w')
 (fin:∀w,S w→Q .normal ⟨#[(.int .i64 v),(.agg C),undef,(.pointer (some ⟨B,0,none⟩)),(.bool false),x5,(.int .i64 v),(.pointer (some ⟨B,0,none⟩)),(.int .i64 k),(.bool false),(.bool true),(.bool true),undef,undef,undef,undef,undef,undef,(.bool true),x19,x20,x21,x22,x23,x24,x25,x26,x27,x28,x29,x30,x31,x32,x33,x34,x35,x36,x37,x38,x39,x40,x41,x42,x43,x44,x45,x46,x47,x48,x49,x50,x51,x52,x53,x54,x55,x56,x57,x58,x59,x60,x61,x62],[]⟩ w) :
 (Code.region 1 (qfhu.opsAt 1 Tryz.f66.body) true).wp Tryz.prog Q ⟨#[(.int .i64 v),(.agg C),undef,(.pointer (some ⟨B,0,none⟩)),(.bool false),x5,x6,x7,x8,x9,x10,x11,x12,x13,x14,x15,x16,x17,x18,x19,x20,x21,x22,x23,x24,x25,x26,x27,x28,x29,x30,x31,x32,x33,x34,x35,x36,x37,x38,x39,x40,x41,x42,x43,x44,x45,x46,x47,x48,x49,x50,x51,x52,x53,x54,x55,x56,x57,x58,x59,x60,x61,x62],[]⟩ W:=by
 refine qfhu.wp_in (ds:=[6,7,8,9,10,11,12,13,14,15,16,17,18]) (D:=[]) (by kernel_rfl) (by kernel_rfl) (by kernel_rfl) ?_ hS ?_ fin
 ·exact(by repeat (first | exact trivial | refine⟨.inr rfl,?_⟩ | refine⟨.inl rfl,?_⟩))
 refine qfhu.pu rfl rfl rfl rfl (fun w hS=>rfl) ?_
 refine qfhu.pu rfl rfl rfl rfl (fun w hS=>q809 rfl) ?_
 refine qfhu.pu rfl rfl rfl rfl (fun w hS=>qta9 rfl (hS0 w hS)) ?_
 refine qfhu.ca rfl rfl rfl rfl (fun w=>qq11 rfl rfl) KN ?_
 refine qfhu.pu rfl rfl rfl rfl (fun w hS=>qdfg rfl rfl) ?_
 iterate 8 (first | refine qfhu.sk rfl rfl rfl rfl ?_ | refine qfhu.pu rfl rfl rfl rfl (fun w hS=>rfl) ?_)
 exact qfhu.All.fin rfl
theorem qcax(p:Pk)(hk:p.kind=1∨p.kind=2):q8po 5 p=qm70 p:=by
 unfold q8po qm70
 rcases hk with hk | hk
 ·have h2:¬p.kind=2:=by omega
  rw[if_neg h2,if_neg h2]
  unfold us6 us5 us4 us3 us1
  cases p.hasWill<;>simp
 ·rw[if_pos hk,if_pos hk]
  unfold us2 us1
  simp
theorem qysa(p:Pk)(hk:p.kind=1∨p.kind=2):q8po 4 p={qm70 p with props:=[],wProps:=[]}:=by
 unfold q8po qm70
 rcases hk with hk | hk
 ·have h2:¬p.kind=2:=by omega
  rw[if_neg h2,if_neg h2]
  unfold us6 us5 us4 us3 us1
  cases p.hasWill<;>simp
 ·rw[if_pos hk,if_pos hk]
  unfold us2 us1
  simp[Pk.zero]
theorem q5bu(v:Int)(p:Pk)(hv:v=4∨v=5)(hk:p.kind=1∨p.kind=2):decide (p=q8po v p)=(decide (p=qm70 p)&&!(v==4&&!(p.props.isEmpty&&p.wProps.isEmpty))):=by
 rcases hv with rfl | rfl
 ·rw[qysa p hk,Bool.eq_iff_iff]
  simp only[decide_eq_true_eq,Bool.and_eq_true,beq_self_eq_true,Bool.true_and,Bool.not_not,List.isEmpty_iff]
  constructor
  ·intro h
   have h1:p.props=[]:=by rw[h]
   have h2:p.wProps=[]:=by rw[h]
   refine⟨?_,h1,h2⟩
   have h3:(qm70 p).props=[]:=by unfold qm70;split<;>simp[h1]
   have h4:(qm70 p).wProps=[]:=by unfold qm70;split<;>simp[h2,Pk.zero]
   conv=>lhs;rw[h]
   generalize qm70 p=q at h3 h4
   obtain⟨⟩:=q
   simp only at h3 h4
   subst h3 h4
   rfl
  ·rintro⟨h,h1,h2⟩
   have h3:(qm70 p).props=[]:=by rw[←h];exact h1
   have h4:(qm70 p).wProps=[]:=by rw[←h];exact h2
   conv=>lhs;rw[h]
   generalize qm70 p=q at h3 h4
   obtain⟨⟩:=q
   simp only at h3 h4
   subst h3 h4
   rfl
 ·rw[qcax p hk]
  simp
def qqa5(v:Int)(p:Pk):Bool:=
 if p.kind=2 then(if v=4 then qfn3 p.code else mayR 2 p.code)&&(!p.session || p.code==0)
 else !(v==4&&(p.client.isEmpty&&!p.clean || p.hasPass&&!p.hasUser))&&decide (0≤p.keep∧p.keep≤65535)&&decide (0≤p.wQos∧p.wQos≤2)
theorem qmc6(v:Int)(p:Pk):okC v p=(versC v&&(p.kind==1 || p.kind==2)&&(decide (p=qm70 p)&&!(v==4&&!(p.props.isEmpty&&p.wProps.isEmpty)))&&qqa5 v p):=by
 unfold okC qqa5
 simp only[Bool.and_assoc]
theorem qien{w:World}{v:Int}{p:Pk}{a:Ad}(h:PkAt w p a):PkAt w (q8po v p) (qyxc v p a):=by
 unfold q8po qyxc
 split
 ·refine⟨fun e=>absurd rfl e,fun e=>absurd rfl e,fun e=>absurd rfl e,?_⟩
  show PL w (if v=5 then a.ps else none) (if v=5 then p.props else [])
  split
  ·exact h.ps
  ·exact fun e=>absurd rfl e
 ·refine⟨?_,fun e=>absurd rfl e,fun e=>absurd rfl e,?_⟩
  ·show PL w (if p.hasWill then(if v=5 then a.w else none) else none) (if p.hasWill then(if v=5 then p.wProps else []) else [])
   split
   ·split
    ·exact h.w
    ·exact fun e=>absurd rfl e
   ·exact fun e=>absurd rfl e
  ·show PL w (if v=5 then a.ps else none) (if v=5 then p.props else [])
   split
   ·exact h.ps
   ·exact fun e=>absurd rfl e
theorem qyzo{v:Int}{p:Pk}(h:q21o p):q21o (q8po v p):=by
 obtain⟨_,_,h3,h4⟩:=h
 unfold q8po
 split
 ·refine⟨Nat.zero_le _,Nat.zero_le _,?_,Nat.zero_le _⟩
  show(if v=5 then p.props else []).length≤70000
  split
  ·exact h3
  ·exact Nat.zero_le _
 ·refine⟨Nat.zero_le _,Nat.zero_le _,?_,?_⟩
  ·show(if v=5 then p.props else []).length≤70000
   split
   ·exact h3
   ·exact Nat.zero_le _
  ·show(if p.hasWill then(if v=5 then p.wProps else []) else []).length≤70000
   split
   ·split
    ·exact h4
    ·exact Nat.zero_le _
   ·exact Nat.zero_le _
theorem qdnc(v:Int)(p:Pk)(a:Ad)(w:World)(hp:PkAt w p a)(sp:q21o p) :
 Calls Tryz.prog 66 #[.int .i64 v,pkV p a] w fun e w'=>e = .returned (.bool (okC v p))∧Below w.heap.size w w':=by
 have S0:=BxS.made w p a
 have KN:∀W,BxS w p a W→Calls Tryz.prog 49 #[.int .i64 v,.int .i64 p.kind] W fun e w'=>e = .returned (.bool (versC v&&(p.kind==1 || p.kind==2)))∧BxS w p a w':=fun W h=>(q564 v p.kind W).mono fun e w' ⟨he,hw⟩=>⟨he,hw▸h⟩
 have US:∀W,BxS w p a W→Calls Tryz.prog 125 #[.int .i64 v,.agg (pkC p a)] W fun e w'=>e = .returned (.agg (pkC (q8po v p) (qyxc v p a)))∧BxS w p a w':=fun W h=>(qhin v p a W).mono fun e w' ⟨he,hb⟩=>⟨he,h.call hb⟩
 have SM:∀W,BxS w p a W→Calls Tryz.prog 94 #[.agg (pkC p a),.agg (pkC (q8po v p) (qyxc v p a))] W fun e w'=>e = .returned (.bool (decide (p=q8po v p)))∧BxS w p a w':=fun W h=>(qyk8 p (q8po v p) a (qyxc v p a) W (hp.below h.low) (qien (hp.below h.low)) sp (qyzo sp)).mono fun e w' ⟨he,hb⟩=>⟨he,h.call hb⟩
 have C1:=qwmp p a
 have P0:∀W,BxS w p a W→W.cell? ⟨w.heap.size,0,none⟩=some (.int .i64 p.kind):=fun W h=>h.cell 0
 have P1:∀W,BxS w p a W→W.heap[w.heap.size]? = some (.cells (pkC p a) 28 (0,0)):=fun W h=>h.box
 have HS0:=Lib.hid S0.draw
 have hC1:=Lib.hid C1
 have hP0:=Lib.hid P0
 have hP1:=Lib.hid P1
 rw[qmc6]
 by_cases hkn:(versC v&&(p.kind==1 || p.kind==2))=true
 ·have hv:v=4∨v=5:=by simp only[versC,Bool.and_eq_true,Bool.or_eq_true,beq_iff_eq] at hkn;exact hkn.1
  have hk:p.kind=1∨p.kind=2:=by simp only[Bool.and_eq_true,Bool.or_eq_true,beq_iff_eq] at hkn;exact hkn.2
  rw[hkn] at KN ⊢
  rw[←q5bu v p hv hk,Bool.true_and]
  have hKN:=Lib.hid KN
  have hUS:=Lib.hid US
  by_cases he:p=q8po v p
  ·rw[decide_eq_true he] at SM ⊢
   have hSM:=Lib.hid SM
   rw[Bool.true_and]
   obtain⟨r,hr⟩:∃r,qqa5 v p=r:=⟨_,rfl⟩
   rw[hr]
   have HR:=Lib.hid hr
   have HV:=Lib.hid hv
   have HK:=Lib.hid hk
   have HE:=Lib.hid he
   unfold pkV
   clear S0 KN US SM C1 P0 P1 hkn hv hk he hr
   go_enter Tryz.func66,Tryz.ntmps66
   go_upto_region 1 with fail
   refine qyqy (S:=BxS w p a) (B:=w.heap.size) HS0.out hC1.out hP0.out hP1.out hKN.out hUS.out hSM.out ?_
   intro W hW
   have HW:=Lib.hid hW
   clear hW HS0
   have k0:=HW.out.cell 0
   change _=some (Value.int .i64 p.kind) at k0
   by_cases h2:p.kind=2
   ·rw[h2] at k0
    have hr:=HR.out
    rw[qqa5,if_pos h2] at hr
    have k17:W.cell? ⟨w.heap.size,21,none⟩=some (.int .i64 p.code):=HW.out.cell 21
    have CC:=qtz4 v p.code
    generalize (if v=4 then qfn3 p.code else mayR 2 p.code)=cf at hr CC
    have CC:=Lib.hid CC
    clear h2 HR HE HK
    cases cf with
    | false=>
     have HR:=Lib.hid hr
     clear hr
     go_wp2_with fail
     refine(CC.out _).mono ?_
     rintro e W2 ⟨rfl,hb⟩
     have B2:=Lib.hid (HW.out.call hb).low
     clear hb
     go_wp2_with fail
     go_ret
     exact⟨congrArg (fun b=>Ending.returned (Value.bool b)) HR.out,B2.out⟩
    | true=>
     by_cases hc:p.code=0
     ·have HR:=Lib.hid (show true=r by rw[←hr,hc];simp)
      have HC:=Lib.hid hc
      rw[hc] at k17 CC
      clear hr hc
      have CC:=Lib.hid CC.out
      go_wp2_with fail
      refine(CC.out _).mono ?_
      rintro e W2 ⟨rfl,hb⟩
      have B2:=Lib.hid (HW.out.call hb).low
      have k17:W2.cell? ⟨w.heap.size,21,none⟩=some (.int .i64 p.code):=(HW.out.call hb).cell 21
      rw[HC.out] at k17
      clear hb
      go_wp2_with fail
      go_ret
      exact⟨congrArg (fun b=>Ending.returned (Value.bool b)) HR.out,B2.out⟩
     ·have hc':(p.code==0)=false:=beq_eq_false_iff_ne.2 hc
      have HR:=Lib.hid (show(!p.session)=r by rw[←hr,hc'];simp)
      clear hr hc
      go_wp2_with fail
      refine(CC.out _).mono ?_
      rintro e W2 ⟨rfl,hb⟩
      have B2:=Lib.hid (HW.out.call hb).low
      have k17:W2.cell? ⟨w.heap.size,21,none⟩=some (.int .i64 p.code):=(HW.out.call hb).cell 21
      have k16:W2.cell? ⟨w.heap.size,20,none⟩=some (.bool p.session):=(HW.out.call hb).cell 20
      clear hb
      go_wp2_with fail
      go_ret
      exact⟨congrArg (fun b=>Ending.returned (Value.bool b)) HR.out,B2.out⟩
   ·have h2':(p.kind==2)=false:=beq_eq_false_iff_ne.2 h2
    obtain⟨nm,hnm⟩:∃x,(v != 4 || (!p.client.isEmpty || p.clean))=x:=⟨_,rfl⟩
    have hr:=HR.out
    have hf:(p.hasWill || (p.wQos==0&&!p.wRetain))=true:=by
     cases hw:p.hasWill with
     | true=>rfl
     | false=>
      have h:=HE.out
      rw[q8po,if_neg h2] at h
      have h1:p.wQos=0:=by rw[h];unfold us6 us5 us4;simp[hw]
      have h3:p.wRetain=false:=by rw[h];unfold us6 us5 us4;simp[hw]
      rw[h1,h3];rfl
    have hr2:r=(nm&&(decide (0≤p.keep)&&(decide (p.keep≤65535)&&fitC v p.hasWill p.hasPass p.hasUser p.wRetain p.wQos))):=by
     rw[←hr,qqa5,if_neg h2,fitC,hf,←hnm]
     have hq:decide (0≤p.wQos∧p.wQos≤2)=(decide (0≤p.wQos)&&decide (p.wQos≤2)):=by rw[Bool.decide_and]
     have hk:decide (0≤p.keep∧p.keep≤65535)=(decide (0≤p.keep)&&decide (p.keep≤65535)):=by rw[Bool.decide_and]
     rw[hq,hk,show(v != 4)=!(v==4) from rfl]
     generalize (v==4)=b1
     generalize p.client.isEmpty=b2
     generalize decide (0≤p.wQos)=b3
     generalize decide (p.wQos≤2)=b4
     generalize decide (0≤p.keep)=b5
     generalize decide (p.keep≤65535)=b6
     generalize p.clean=b7
     generalize p.hasPass=b8
     generalize p.hasUser=b9
     revert b1 b2 b3 b4 b5 b6 b7 b8 b9
     decide
    have FF:=Lib.hid (fun W=>qntu v (c:=pkC p a) W (show(pkC p a)[10]? = some (.bool p.hasUser) from rfl) (show(pkC p a)[12]? = some (.bool p.hasPass) from rfl) (show(pkC p a)[14]? = some (.bool p.hasWill) from rfl) (show(pkC p a)[17]? = some (.int .i64 p.wQos) from rfl) (show(pkC p a)[18]? = some (.bool p.wRetain) from rfl))
    generalize fitC v p.hasWill p.hasPass p.hasUser p.wRetain p.wQos=ft at hr2 FF
    have HR2:=Lib.hid hr2
    have k9:W.cell? ⟨w.heap.size,9,none⟩=some (.string (bs p.client)):=HW.out.cell 9
    have k7:W.cell? ⟨w.heap.size,7,none⟩=some (.bool p.clean):=HW.out.cell 7
    clear h2 hr hr2 hf HR HE HK
    go_upto_region 5 with fail
    go_cut [5] (fun s5 wx=>s5 = .bool nm∧wx=W)
    case first=>
     by_cases h4:v=4
     ·subst h4
      have hE:(bs p.client).toList.isEmpty=p.client.isEmpty:=by rw[q0c6]
      generalize bs p.client=C at k9 hE
      cases hc:p.client.isEmpty with
      | true=>
       rw[hc] at hE
       cases hcl:p.clean
       all_goals
        have HN:=Lib.hid hnm
        rw[hc,hcl] at HN
        rw[hcl] at k7
        clear hnm hc hcl
        go_wp2_with fail
        go_meet
        exact⟨congrArg Value.bool HN.out,rfl⟩
      | false=>
       rw[hc] at hE
       have HN:=Lib.hid hnm
       rw[hc] at HN
       clear hnm hc
       go_wp2_with fail
       go_meet
       exact⟨congrArg Value.bool HN.out,rfl⟩
     ·have h4':(v==4)=false:=beq_eq_false_iff_ne.2 h4
      have HN:=Lib.hid (show true=nm by rw[←hnm,show(v != 4)=!(v==4) from rfl,h4'];rfl)
      have h4n:(v != 4)=true:=by rw[show(v != 4)=!(v==4) from rfl,h4'];rfl
      clear h4 hnm h4'
      go_wp2_with fail
      go_meet
      exact⟨congrArg Value.bool HN.out,rfl⟩
    case rest=>
     obtain⟨rfl,rfl⟩:=hcut
     clear k9 k7 hnm h2' k0
     have k8:wc.cell? ⟨w.heap.size,8,none⟩=some (.int .i64 p.keep):=HW.out.cell 8
     cases nm with
     | false=>
      have HR:=Lib.hid HR2.out.symm
      clear HR2
      have LO:=Lib.hid HW.out.low
      go_wp2_with fail
      go_ret
      exact⟨congrArg (fun b=>Ending.returned (Value.bool b)) HR.out,LO.out⟩
     | true=>
      by_cases q0:p.keep < 0
      ·have HR:=Lib.hid (show false=r by rw[HR2.out,decide_eq_false (show ¬0≤p.keep by omega)];rfl)
       have LO:=Lib.hid HW.out.low
       clear HR2
       go_wp2_with fail
       go_ret
       exact⟨congrArg (fun b=>Ending.returned (Value.bool b)) HR.out,LO.out⟩
      by_cases q1:65535 < p.keep
      ·have HR:=Lib.hid (show false=r by rw[HR2.out,decide_eq_true (show 0≤p.keep by omega),decide_eq_false (show ¬p.keep≤65535 by omega)];rfl)
       have LO:=Lib.hid HW.out.low
       clear HR2
       go_wp2_with fail
       go_ret
       exact⟨congrArg (fun b=>Ending.returned (Value.bool b)) HR.out,LO.out⟩
      have HR:=Lib.hid (show ft=r by rw[HR2.out,decide_eq_true (show 0≤p.keep by omega),decide_eq_true (show p.keep≤65535 by omega)];rfl)
      clear HR2
      have GB:=Lib.hid HW.out.box
      go_wp2_with (refine q2a5 rfl _ _ rfl w.heap.size rfl 28 _ (0,0) _ GB.out Tryz.underlying28 rfl (by rw[hC1.out];exact q5nr) ?_)
      refine(FF.out _).mono ?_
      rintro e W2 ⟨rfl,hb⟩
      have LO:=Lib.hid (qxh2 HW.out.low hb)
      clear hb
      go_wp2_with fail
      go_ret
      exact⟨congrArg (fun b=>Ending.returned (Value.bool b)) HR.out,LO.out⟩
  ·rw[decide_eq_false he] at SM ⊢
   have hSM:=Lib.hid SM
   unfold pkV
   clear S0 KN US SM C1 P0 P1 hkn hv hk he
   go_enter Tryz.func66,Tryz.ntmps66
   go_upto_region 1 with fail
   refine qyqy (S:=BxS w p a) (B:=w.heap.size) HS0.out hC1.out hP0.out hP1.out hKN.out hUS.out hSM.out ?_
   intro W hW
   have HW:=Lib.hid hW.low
   clear hW HS0
   go_wp2_with fail
   go_ret
   exact⟨rfl,HW.out⟩
 ·have hkn:(versC v&&(p.kind==1 || p.kind==2))=false:=by simpa using hkn
  rw[hkn] at KN ⊢
  have hKN:=Lib.hid KN
  unfold pkV
  clear S0 KN US SM C1 P0 P1 hkn
  go_enter Tryz.func66,Tryz.ntmps66
  go_upto_region 1 with fail
  refine q070 (S:=BxS w p a) (B:=w.heap.size) HS0.out hP0.out hKN.out ?_
  intro W hW
  have HW:=Lib.hid hW.low
  clear hW HS0
  go_wp2_with fail
  go_ret
  exact⟨rfl,HW.out⟩
section
variable{a:Act}{w:World}{d:Option Tmp}{p:String}{af:Array Edge}{gd:Option (Nat×Bool)}{x y z:Tmp}{r:TypeId}
theorem q05t{z u:Int}{b:Bool}(hx:a.eval (.tmp x) = .int .i64 z)(hb:(z != u)=b) :
 (execOp a.eval {dst:=d,op := .binOp .neq 3 (.tmp x) (.const (.int .i64 u)) 3,type:=r,pos:=p,after:=af,guard:=gd}).run Tryz.prog w = .ok (.value (.bool b)) w:=by
 subst hb
 have hc:a.eval (.const (.int .i64 u)) = .int .i64 u:=rfl
 generalize a.eval=f at *
 go_simp
theorem qd48{ts:Array TypeId}{u:Value}(hx:a.eval (.tmp x)=u) :
 (execOp a.eval {dst:=d,op := .call {callee := .value (.func 55),args:=#[.tmp x],argTypes:=ts},type:=r,pos:=p,after:=af,guard:=gd}).run Tryz.prog w = .ok (.enter 55 #[u]) w:=by
 have hf:a.eval (.func 55) = .func (.func 55) #[] #[]:=rfl
 generalize a.eval=f at *
 go_simp
theorem qsf8{ts:Array TypeId}{u v:Value}(hx:a.eval (.tmp x)=u)(hy:a.eval (.tmp y)=v) :
 (execOp a.eval {dst:=d,op := .call {callee := .value (.func 133),args:=#[.tmp x,.tmp y],argTypes:=ts},type:=r,pos:=p,after:=af,guard:=gd}).run Tryz.prog w = .ok (.enter 133 #[u,v]) w:=by
 have hf:a.eval (.func 133) = .func (.func 133) #[] #[]:=rfl
 generalize a.eval=f at *
 go_simp
theorem q7ys{ts:Array TypeId}{u v:Value}(hx:a.eval (.tmp x)=u)(hy:a.eval (.tmp y)=v) :
 (execOp a.eval {dst:=d,op := .call {callee := .value (.func 106),args:=#[.tmp x,.tmp y],argTypes:=ts},type:=r,pos:=p,after:=af,guard:=gd}).run Tryz.prog w = .ok (.enter 106 #[u,v]) w:=by
 have hf:a.eval (.func 106) = .func (.func 106) #[] #[]:=rfl
 generalize a.eval=f at *
 go_simp
end
theorem qtjd{Q:Exit→Act→World→Prop}{S:World→Prop}{W:World}{v:Int}{B:Nat}{x1 x2 x4 x5 x6 x7 x8 x9 x10 x11 x12 x13 x14 x15 x16 x17 x18 x19 x20 x21 x22 x23 x24 x25 x26 x27 x28 x29 x30 x31 x32 x33 x34 x35 x36 x37 x38 x39 x40 x41 x42 x43 x44 x45 x46 x47 x48 x49 x50 x51 x52 x53 x54 x55 x56 x57 x58 x59 x60 x61 x62 x63 x64 x65 x66 x67 x68 x69 x70 x71 x72 x73 x74 x75 x76 x77 x78 x79 x80 x81 x82 x83 x84 x85 x86 x87 x88 x89 x90 x91 x92 x93 x94 x95 x96 x97 x98 x99 x100 x101 x102 x103 x104 x105 x106 x107 x108 x109 x110 x111 x112 x113 x114 x115:Value}
 (hS:S W.drew)
 (VE:∀w,S w→Calls Tryz.prog 55 #[.int .i64 v] w fun e w'=>e = .returned (.bool false)∧S w')
 (fin:∀w,S w→Q .normal ⟨#[(.int .i64 v),x1,x2,(.pointer (some ⟨B,0,none⟩)),x4,x5,(.int .i64 v),(.bool false),(.bool true),(.bool true),undef,undef,undef,undef,undef,undef,undef,undef,(.bool true),(.bool true),undef,undef,undef,undef,undef,undef,(.bool true),x27,x28,x29,x30,x31,x32,x33,x34,x35,x36,x37,x38,x39,x40,x41,x42,x43,x44,x45,x46,x47,x48,x49,x50,x51,x52,x53,x54,x55,x56,x57,x58,x59,x60,x61,x62,x63,x64,x65,x66,x67,x68,x69,x70,x71,x72,x73,x74,x75,x76,x77,x78,x79,x80,x81,x82,x83,x84,x85,x86,x87,x88,x89,x90,x91,x92,x93,x94,x95,x96,x97,x98,x99,x100,x101,x102,x103,x104,x105,x106,x107,x108,x109,x110,x111,x112,x113,x114,x115],[]⟩ w) :
 (Code.region 1 (qfhu.opsAt 1 Tryz.f70.body) true).wp Tryz.prog Q ⟨#[(.int .i64 v),x1,x2,(.pointer (some ⟨B,0,none⟩)),x4,x5,x6,x7,x8,x9,x10,x11,x12,x13,x14,x15,x16,x17,x18,x19,x20,x21,x22,x23,x24,x25,x26,x27,x28,x29,x30,x31,x32,x33,x34,x35,x36,x37,x38,x39,x40,x41,x42,x43,x44,x45,x46,x47,x48,x49,x50,x51,x52,x53,x54,x55,x56,x57,x58,x59,x60,x61,x62,x63,x64,x65,x66,x67,x68,x69,x70,x71,x72,x73,x74,x75,x76,x77,x78,x79,x80,x81,x82,x83,x84,x85,x86,x87,x88,x89,x90,x91,x92,x93,x94,x95,x96,x97,x98,x99,x100,x101,x102,x103,x104,x105,x106,x107,x108,x109,x110,x111,x112,x113,x114,x115],[]⟩ W:=by
 refine qfhu.wp_in (ds:=[6,7,8,9,10,11,12,13,14,15,16,17,18,19,20,21,22,23,24,25,26]) (D:=[]) (by kernel_rfl) (by kernel_rfl) (by kernel_rfl) ?_ hS ?_ fin
 ·exact(by repeat (first | exact trivial | refine⟨.inr rfl,?_⟩ | refine⟨.inl rfl,?_⟩))
 refine qfhu.pu rfl rfl rfl rfl (fun w hS=>rfl) ?_
 refine qfhu.ca rfl rfl rfl rfl (fun w=>qd48 rfl) VE ?_
 refine qfhu.pu rfl rfl rfl rfl (fun w hS=>qdfg rfl rfl) ?_
 iterate 18 (first | refine qfhu.sk rfl rfl rfl rfl ?_ | refine qfhu.pu rfl rfl rfl rfl (fun w hS=>rfl) ?_)
 exact qfhu.All.fin rfl
theorem qb6c{Q:Exit→Act→World→Prop}{S:World→Prop}{W:World}{v:Int}{k:Int}{B:Nat}{x1 x2 x4 x5 x6 x7 x8 x9 x10 x11 x12 x13 x14 x15 x16 x17 x18 x19 x20 x21 x22 x23 x24 x25 x26 x27 x28 x29 x30 x31 x32 x33 x34 x35 x36 x37 x38 x39 x40 x41 x42 x43 x44 x45 x46 x47 x48 x49 x50 x51 x52 x53 x54 x55 x56 x57 x58 x59 x60 x61 x62 x63 x64 x65 x66 x67 x68 x69 x70 x71 x72 x73 x74 x75 x76 x77 x78 x79 x80 x81 x82 x83 x84 x85 x86 x87 x88 x89 x90 x91 x92 x93 x94 x95 x96 x97 x98 x99 x100 x101 x102 x103 x104 x105 x106 x107 x108 x109 x110 x111 x112 x113 x114 x115:Value}
 (hS:S W.drew)
 (VE:∀w,S w→Calls Tryz.prog 55 #[.int .i64 v] w fun e w'=>e = .returned (.bool true)∧S w')
 (hS0:∀w,S w→w.cell? ⟨B,0,none⟩=some (.int .i64 k)) (h1:(k != 1)=true) (h2:(k != 2)=true)
 (fin:∀w,S w→Q .normal ⟨#[(.int .i64 v),x1,x2,(.pointer (some ⟨B,0,none⟩)),x4,x5,(.int .i64 v),(.bool true),(.bool false),(.bool false),(.pointer (some ⟨B,0,none⟩)),(.int .i64 k),(.bool true),(.bool true),(.pointer (some ⟨B,0,none⟩)),(.int .i64 k),(.bool true),(.bool true),(.bool true),(.bool true),undef,undef,undef,undef,undef,undef,(.bool true),x27,x28,x29,x30,x31,x32,x33,x34,x35,x36,x37,x38,x39,x40,x41,x42,x43,x44,x45,x46,x47,x48,x49,x50,x51,x52,x53,x54,x55,x56,x57,x58,x59,x60,x61,x62,x63,x64,x65,x66,x67,x68,x69,x70,x71,x72,x73,x74,x75,x76,x77,x78,x79,x80,x81,x82,x83,x84,x85,x86,x87,x88,x89,x90,x91,x92,x93,x94,x95,x96,x97,x98,x99,x100,x101,x102,x103,x104,x105,x106,x107,x108,x109,x110,x111,x112,x113,x114,x115],[]⟩ w) :
 (Code.region 1 (qfhu.opsAt 1 Tryz.f70.body) true).wp Tryz.prog Q ⟨#[(.int .i64 v),x1,x2,(.pointer (some ⟨B,0,none⟩)),x4,x5,x6,x7,x8,x9,x10,x11,x12,x13,x14,x15,x16,x17,x18,x19,x20,x21,x22,x23,x24,x25,x26,x27,x28,x29,x30,x31,x32,x33,x34,x35,x36,x37,x38,x39,x40,x41,x42,x43,x44,x45,x46,x47,x48,x49,x50,x51,x52,x53,x54,x55,x56,x57,x58,x59,x60,x61,x62,x63,x64,x65,x66,x67,x68,x69,x70,x71,x72,x73,x74,x75,x76,x77,x78,x79,x80,x81,x82,x83,x84,x85,x86,x87,x88,x89,x90,x91,x92,x93,x94,x95,x96,x97,x98,x99,x100,x101,x102,x103,x104,x105,x106,x107,x108,x109,x110,x111,x112,x113,x114,x115],[]⟩ W:=by
 refine qfhu.wp_in (ds:=[6,7,8,9,10,11,12,13,14,15,16,17,18,19,20,21,22,23,24,25,26]) (D:=[]) (by kernel_rfl) (by kernel_rfl) (by kernel_rfl) ?_ hS ?_ fin
 ·exact(by repeat (first | exact trivial | refine⟨.inr rfl,?_⟩ | refine⟨.inl rfl,?_⟩))
 refine qfhu.pu rfl rfl rfl rfl (fun w hS=>rfl) ?_
 refine qfhu.ca rfl rfl rfl rfl (fun w=>qd48 rfl) VE ?_
 refine qfhu.pu rfl rfl rfl rfl (fun w hS=>qdfg rfl rfl) ?_
 refine qfhu.pu rfl rfl rfl rfl (fun w hS=>rfl) ?_
 refine qfhu.pu rfl rfl rfl rfl (fun w hS=>q809 rfl) ?_
 refine qfhu.pu rfl rfl rfl rfl (fun w hS=>qta9 rfl (hS0 w hS)) ?_
 refine qfhu.pu rfl rfl rfl rfl (fun w hS=>q05t rfl h1) ?_
 refine qfhu.pu rfl rfl rfl rfl (fun w hS=>rfl) ?_
 refine qfhu.pu rfl rfl rfl rfl (fun w hS=>q809 rfl) ?_
 refine qfhu.pu rfl rfl rfl rfl (fun w hS=>qta9 rfl (hS0 w hS)) ?_
 refine qfhu.pu rfl rfl rfl rfl (fun w hS=>q05t rfl h2) ?_
 iterate 10 (first | refine qfhu.sk rfl rfl rfl rfl ?_ | refine qfhu.pu rfl rfl rfl rfl (fun w hS=>rfl) ?_)
 exact qfhu.All.fin rfl
theorem qtqq{Q:Exit→Act→World→Prop}{S:World→Prop}{W:World}{v:Int}{k:Int}{C U:Array Value}{m:Bool}{B:Nat}{x1 x2 x4 x5 x6 x7 x8 x9 x10 x11 x12 x13 x14 x15 x16 x17 x18 x19 x20 x21 x22 x23 x24 x25 x26 x27 x28 x29 x30 x31 x32 x33 x34 x35 x36 x37 x38 x39 x40 x41 x42 x43 x44 x45 x46 x47 x48 x49 x50 x51 x52 x53 x54 x55 x56 x57 x58 x59 x60 x61 x62 x63 x64 x65 x66 x67 x68 x69 x70 x71 x72 x73 x74 x75 x76 x77 x78 x79 x80 x81 x82 x83 x84 x85 x86 x87 x88 x89 x90 x91 x92 x93 x94 x95 x96 x97 x98 x99 x100 x101 x102 x103 x104 x105 x106 x107 x108 x109 x110 x111 x112 x113 x114 x115:Value}
 (hS:S W.drew)
 (VE:∀w,S w→Calls Tryz.prog 55 #[.int .i64 v] w fun e w'=>e = .returned (.bool true)∧S w')
 (hS0:∀w,S w→w.cell? ⟨B,0,none⟩=some (.int .i64 k)) (h1:(k != 1)=false)
 (hC:C.size=25) (hS1:∀w,S w→w.heap[B]? = some (.cells C 28 (0,0)))
 (US:∀w,S w→Calls Tryz.prog 133 #[.int .i64 v,.agg C] w fun e w'=>e = .returned (.agg U)∧S w')
 (SM:∀w,S w→Calls Tryz.prog 106 #[.agg C,.agg U] w fun e w'=>e = .returned (.bool m)∧S w')
 (fin:∀w,S w→Q .normal ⟨#[(.int .i64 v),x1,x2,(.pointer (some ⟨B,0,none⟩)),x4,x5,(.int .i64 v),(.bool true),(.bool false),(.bool false),(.pointer (some ⟨B,0,none⟩)),(.int .i64 k),(.bool false),(.bool false),undef,undef,undef,(.bool false),(.bool false),(.bool false),(.agg C),(.int .i64 v),(.agg C),(.agg U),(.bool m),(.bool (!m)),(.bool (!m)),x27,x28,x29,x30,x31,x32,x33,x34,x35,x36,x37,x38,x39,x40,x41,x42,x43,x44,x45,x46,x47,x48,x49,x50,x51,x52,x53,x54,x55,x56,x57,x58,x59,x60,x61,x62,x63,x64,x65,x66,x67,x68,x69,x70,x71,x72,x73,x74,x75,x76,x77,x78,x79,x80,x81,x82,x83,x84,x85,x86,x87,x88,x89,x90,x91,x92,x93,x94,x95,x96,x97,x98,x99,x100,x101,x102,x103,x104,x105,x106,x107,x108,x109,x110,x111,x112,x113,x114,x115],[]⟩ w) :
 (Code.region 1 (qfhu.opsAt 1 Tryz.f70.body) true).wp Tryz.prog Q ⟨#[(.int .i64 v),x1,x2,(.pointer (some ⟨B,0,none⟩)),x4,x5,x6,x7,x8,x9,x10,x11,x12,x13,x14,x15,x16,x17,x18,x19,x20,x21,x22,x23,x24,x25,x26,x27,x28,x29,x30,x31,x32,x33,x34,x35,x36,x37,x38,x39,x40,x41,x42,x43,x44,x45,x46,x47,x48,x49,x50,x51,x52,x53,x54,x55,x56,x57,x58,x59,x60,x61,x62,x63,x64,x65,x66,x67,x68,x69,x70,x71,x72,x73,x74,x75,x76,x77,x78,x79,x80,x81,x82,x83,x84,x85,x86,x87,x88,x89,x90,x91,x92,x93,x94,x95,x96,x97,x98,x99,x100,x101,x102,x103,x104,x105,x106,x107,x108,x109,x110,x111,x112,x113,x114,x115],[]⟩ W:=by
 refine qfhu.wp_in (ds:=[6,7,8,9,10,11,12,13,14,15,16,17,18,19,20,21,22,23,24,25,26]) (D:=[]) (by kernel_rfl) (by kernel_rfl) (by kernel_rfl) ?_ hS ?_ fin
 ·exact(by repeat (first | exact trivial | refine⟨.inr rfl,?_⟩ | refine⟨.inl rfl,?_⟩))
 refine qfhu.pu rfl rfl rfl rfl (fun w hS=>rfl) ?_
 refine qfhu.ca rfl rfl rfl rfl (fun w=>qd48 rfl) VE ?_
 refine qfhu.pu rfl rfl rfl rfl (fun w hS=>qdfg rfl rfl) ?_
 refine qfhu.pu rfl rfl rfl rfl (fun w hS=>rfl) ?_
 refine qfhu.pu rfl rfl rfl rfl (fun w hS=>q809 rfl) ?_
 refine qfhu.pu rfl rfl rfl rfl (fun w hS=>qta9 rfl (hS0 w hS)) ?_
 refine qfhu.pu rfl rfl rfl rfl (fun w hS=>q05t rfl h1) ?_
 iterate 7 (first | refine qfhu.sk rfl rfl rfl rfl ?_ | refine qfhu.pu rfl rfl rfl rfl (fun w hS=>rfl) ?_)
 refine qfhu.pu rfl rfl rfl rfl (fun w hS=>q390 rfl hC (hS1 w hS)) ?_
 refine qfhu.pu rfl rfl rfl rfl (fun w hS=>rfl) ?_
 refine qfhu.pu rfl rfl rfl rfl (fun w hS=>q390 rfl hC (hS1 w hS)) ?_
 refine qfhu.ca rfl rfl rfl rfl (fun w=>qsf8 rfl rfl) US ?_
 refine qfhu.ca rfl rfl rfl rfl (fun w=>q7ys rfl rfl) SM ?_
 refine qfhu.pu rfl rfl rfl rfl (fun w hS=>qdfg rfl rfl) ?_
 refine qfhu.pu rfl rfl rfl rfl (fun w hS=>rfl) ?_
 exact qfhu.All.fin rfl
theorem qj32{Q:Exit→Act→World→Prop}{S:World→Prop}{W:World}{v:Int}{k:Int}{C U:Array Value}{m:Bool}{B:Nat}{x1 x2 x4 x5 x6 x7 x8 x9 x10 x11 x12 x13 x14 x15 x16 x17 x18 x19 x20 x21 x22 x23 x24 x25 x26 x27 x28 x29 x30 x31 x32 x33 x34 x35 x36 x37 x38 x39 x40 x41 x42 x43 x44 x45 x46 x47 x48 x49 x50 x51 x52 x53 x54 x55 x56 x57 x58 x59 x60 x61 x62 x63 x64 x65 x66 x67 x68 x69 x70 x71 x72 x73 x74 x75 x76 x77 x78 x79 x80 x81 x82 x83 x84 x85 x86 x87 x88 x89 x90 x91 x92 x93 x94 x95 x96 x97 x98 x99 x100 x101 x102 x103 x104 x105 x106 x107 x108 x109 x110 x111 x112 x113 x114 x115:Value}
 (hS:S W.drew)
 (VE:∀w,S w→Calls Tryz.prog 55 #[.int .i64 v] w fun e w'=>e = .returned (.bool true)∧S w')
 (hS0:∀w,S w→w.cell? ⟨B,0,none⟩=some (.int .i64 k)) (h1:(k != 1)=true) (h2:(k != 2)=false)
 (hC:C.size=25) (hS1:∀w,S w→w.heap[B]? = some (.cells C 28 (0,0)))
 (US:∀w,S w→Calls Tryz.prog 133 #[.int .i64 v,.agg C] w fun e w'=>e = .returned (.agg U)∧S w')
 (SM:∀w,S w→Calls Tryz.prog 106 #[.agg C,.agg U] w fun e w'=>e = .returned (.bool m)∧S w')
 (fin:∀w,S w→Q .normal ⟨#[(.int .i64 v),x1,x2,(.pointer (some ⟨B,0,none⟩)),x4,x5,(.int .i64 v),(.bool true),(.bool false),(.bool false),(.pointer (some ⟨B,0,none⟩)),(.int .i64 k),(.bool true),(.bool true),(.pointer (some ⟨B,0,none⟩)),(.int .i64 k),(.bool false),(.bool false),(.bool false),(.bool false),(.agg C),(.int .i64 v),(.agg C),(.agg U),(.bool m),(.bool (!m)),(.bool (!m)),x27,x28,x29,x30,x31,x32,x33,x34,x35,x36,x37,x38,x39,x40,x41,x42,x43,x44,x45,x46,x47,x48,x49,x50,x51,x52,x53,x54,x55,x56,x57,x58,x59,x60,x61,x62,x63,x64,x65,x66,x67,x68,x69,x70,x71,x72,x73,x74,x75,x76,x77,x78,x79,x80,x81,x82,x83,x84,x85,x86,x87,x88,x89,x90,x91,x92,x93,x94,x95,x96,x97,x98,x99,x100,x101,x102,x103,x104,x105,x106,x107,x108,x109,x110,x111,x112,x113,x114,x115],[]⟩ w) :
 (Code.region 1 (qfhu.opsAt 1 Tryz.f70.body) true).wp Tryz.prog Q ⟨#[(.int .i64 v),x1,x2,(.pointer (some ⟨B,0,none⟩)),x4,x5,x6,x7,x8,x9,x10,x11,x12,x13,x14,x15,x16,x17,x18,x19,x20,x21,x22,x23,x24,x25,x26,x27,x28,x29,x30,x31,x32,x33,x34,x35,x36,x37,x38,x39,x40,x41,x42,x43,x44,x45,x46,x47,x48,x49,x50,x51,x52,x53,x54,x55,x56,x57,x58,x59,x60,x61,x62,x63,x64,x65,x66,x67,x68,x69,x70,x71,x72,x73,x74,x75,x76,x77,x78,x79,x80,x81,x82,x83,x84,x85,x86,x87,x88,x89,x90,x91,x92,x93,x94,x95,x96,x97,x98,x99,x100,x101,x102,x103,x104,x105,x106,x107,x108,x109,x110,x111,x112,x113,x114,x115],[]⟩ W:=by
 refine qfhu.wp_in (ds:=[6,7,8,9,10,11,12,13,14,15,16,17,18,19,20,21,22,23,24,25,26]) (D:=[]) (by kernel_rfl) (by kernel_rfl) (by kernel_rfl) ?_ hS ?_ fin
 ·exact(by repeat (first | exact trivial | refine⟨.inr rfl,?_⟩ | refine⟨.inl rfl,?_⟩))
 refine qfhu.pu rfl rfl rfl rfl (fun w hS=>rfl) ?_
 refine qfhu.ca rfl rfl rfl rfl (fun w=>qd48 rfl) VE ?_
 refine qfhu.pu rfl rfl rfl rfl (fun w hS=>qdfg rfl rfl) ?_
 refine qfhu.pu rfl rfl rfl rfl (fun w hS=>rfl) ?_
 refine qfhu.pu rfl rfl rfl rfl (fun w hS=>q809 rfl) ?_
 refine qfhu.pu rfl rfl rfl rfl (fun w hS=>qta9 rfl (hS0 w hS)) ?_
 refine qfhu.pu rfl rfl rfl rfl (fun w hS=>q05t rfl h1) ?_
 refine qfhu.pu rfl rfl rfl rfl (fun w hS=>rfl) ?_
 refine qfhu.pu rfl rfl rfl rfl (fun w hS=>q809 rfl) ?_
 refine qfhu.pu rfl rfl rfl rfl (fun w hS=>qta9 rfl (hS0 w hS)) ?_
 refine qfhu.pu rfl rfl rfl rfl (fun w hS=>q05t rfl h2) ?_
 iterate 3 refine qfhu.pu rfl rfl rfl rfl (fun w hS=>rfl) ?_
 refine qfhu.pu rfl rfl rfl rfl (fun w hS=>q390 rfl hC (hS1 w hS)) ?_
 refine qfhu.pu rfl rfl rfl rfl (fun w hS=>rfl) ?_
 refine qfhu.pu rfl rfl rfl rfl (fun w hS=>q390 rfl hC (hS1 w hS)) ?_
 refine qfhu.ca rfl rfl rfl rfl (fun w=>qsf8 rfl rfl) US ?_
 refine qfhu.ca rfl rfl rfl rfl (fun w=>q7ys rfl rfl) SM ?_
 refine qfhu.pu rfl rfl rfl rfl (fun w hS=>qdfg rfl rfl) ?_
 refine qfhu.pu rfl rfl rfl rfl (fun w hS=>rfl) ?_
 exact qfhu.All.fin rfl
end Go.Proofs.YtaahhbjnflimnaaGreat
