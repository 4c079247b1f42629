/- The region of subscribe.reader.props in which properties are read. No condition. -/
import Derived.Test.YtlhkgidoaggodaaGreatDoorK33
import Derived.Test.YtlhkgidoaggodaaGreatDoorK17
set_option maxRecDepth 100000
set_option maxHeartbeats 8000000
namespace Go.Proofs.YtlhkgidoaggodaaGreatDoor
open Lib(hid)
open Proofs.Tryz
open Go.RowKit
theorem qmrg:(prog.info? 153).map (·.size)=some 3:=by kernel_rfl
section
variable{a:Act}{w:World}{d:Option Tmp}{p:String}{af:Array Edge}{gd:Option (Nat×Bool)}{x y z:Tmp}{r:TypeId}
theorem qxjc{g:Nat}(hx:a.eval (.tmp x)=.pointer (some ⟨g,0,none⟩)) :
 (execOp a.eval {dst:=d,op := .fieldAddr 153 (.tmp x) 2,type:=r,pos:=p,after:=af,guard:=gd}).run prog w=.ok (.value (.pointer (some ⟨g,2,none⟩))) w:=by
 generalize a.eval=f at *;go_simp
theorem qtbf{g:Nat}{u0 u1 u2:Value}(hx:a.eval (.tmp x)=.pointer (some ⟨g,0,none⟩))(hg:w.heap[g]?=some (.cells #[u0,u1,u2] 153 (0,0))) :
 (execOp a.eval {dst:=d,op := .load 153 (.tmp x),type:=153,pos:=p,after:=af,guard:=gd}).run prog w=.ok (.value (.agg #[u0,u1,u2])) w:=by
 unfold execOp;simp only[hx,Instr.loadAt,Instr.sureAddr,Sem.run_bind,Sem.run_pure,Result.andThen_ok,run_loadVar_row w g 153 153 #[u0,u1,u2] (0,0) _ hg underlying153 rfl qmrg]
end
theorem qje9{Q:Exit->Act->World->Prop}{S:Option (Option Addr×Nat)->World->Prop}{W:World}{B cb n:Nat}{v kind k f:Int}{t:ByteArray}{x0 x2 x3 x4 x5 x6 x7 x8 x9 x10 x11 x12 x13 x14 x15 x16 x17 x18 x19 x20 x21 x22:Value}
 (hS:S none W.drew) (KR:∀x w,S x w->w.heap[B]?=some (.cells #[(.pointer (some ⟨cb,0,none⟩)),.int .i64 v,.int .i64 kind] 153 (0,0))) (K2:∀x w,S x w->w.cell? ⟨B,2,none⟩=some (.int .i64 kind))
 (H0:∀x w,S x w->Calls prog 201 #[(.agg #[(.pointer (some ⟨cb,0,none⟩)),.int .i64 v,.int .i64 kind])] w fun e w'=>e=.returned (.string t)/\S x w')
 (H1:∀x w,S x w->Calls prog 143 #[.int .i64 kind,.string t] w fun e w'=>∃A c,e=.returned (.tuple #[.slice A n c,.int .i64 k,.int .i64 f])/\S (some (A,c)) w')
 (fin:∀x w,x.isSome=true->S x w->Q .normal ⟨#[x0,(.pointer (some ⟨B,0,none⟩)),x2,(.slice (gA x) n (gC x)),(.int .i64 k),(.int .i64 f),x6,x7,x8,(.tuple #[(.slice (gA x) n (gC x)),(.int .i64 k),(.int .i64 f)]),(.pointer (some ⟨B,2,none⟩)),(.int .i64 kind),(.agg #[(.pointer (some ⟨cb,0,none⟩)),.int .i64 v,.int .i64 kind]),(.string t),(.tuple #[(.slice (gA x) n (gC x)),(.int .i64 k),(.int .i64 f)]),(.slice (gA x) n (gC x)),(.int .i64 k),(.int .i64 f),x18,x19,x20,x21,x22],[]⟩ w) :
 (Code.region 3 (qfhu.opsAt 3 Tryz.f155.body) true).wp prog Q ⟨#[x0,(.pointer (some ⟨B,0,none⟩)),x2,x3,x4,x5,x6,x7,x8,x9,x10,x11,x12,x13,x14,x15,x16,x17,x18,x19,x20,x21,x22],[]⟩ W:=by
 refine q2y4.wp (x:=none) (S:=S) (made:=fun i x=>i=4->x.isSome=true) (war:=[]) (ds:=[10,11,12,13,14,9,15,16,17,3,4,5]) (A:=[x0,(.pointer (some ⟨B,0,none⟩)),x2,x3,x4,x5,x6,x7,x8,x9,x10,x11,x12,x13,x14,x15,x16,x17,x18,x19,x20,x21,x22]) (B:=fun x=>[x0,(.pointer (some ⟨B,0,none⟩)),x2,(.slice (gA x) n (gC x)),(.int .i64 k),(.int .i64 f),x6,x7,x8,(.tuple #[(.slice (gA x) n (gC x)),(.int .i64 k),(.int .i64 f)]),(.pointer (some ⟨B,2,none⟩)),(.int .i64 kind),(.agg #[(.pointer (some ⟨cb,0,none⟩)),.int .i64 v,.int .i64 kind]),(.string t),(.tuple #[(.slice (gA x) n (gC x)),(.int .i64 k),(.int .i64 f)]),(.slice (gA x) n (gC x)),(.int .i64 k),(.int .i64 f),x18,x19,x20,x21,x22]) (D:=[]) (by kernel_rfl) (by kernel_rfl) (by kernel_rfl) ?_ hS ?_ (fun x w hm hS=>fin x w (hm 4 (by decide+kernel) rfl) hS)
 ·exact fun x=>(by repeat (first|exact trivial|refine⟨.inr rfl,?_⟩|refine⟨.inl rfl,?_⟩))
 refine q2y4.All.step rfl (q2y4.Does.pure (val:=fun x=>(.pointer (some ⟨B,2,none⟩))) rfl (fun x h=>absurd h (by decide)) (fun x w hm hS=>⟨rfl,rfl,qxjc rfl⟩)) ?_;refine q2y4.All.step rfl (q2y4.Does.pure (val:=fun x=>(.int .i64 kind)) rfl (fun x h=>absurd h (by decide)) (fun x w hm hS=>⟨rfl,rfl,qkcv rfl (K2 x w hS)⟩)) ?_;refine q2y4.All.step rfl (q2y4.Does.pure (val:=fun x=>(.agg #[(.pointer (some ⟨cb,0,none⟩)),.int .i64 v,.int .i64 kind])) rfl (fun x h=>absurd h (by decide)) (fun x w hm hS=>⟨rfl,rfl,qtbf rfl (KR x w hS)⟩)) ?_;refine q2y4.All.step rfl (q2y4.Does.call (val:=fun x=>(.string t)) rfl (fun x h=>absurd h (by decide)) (fun x w hm hS=>⟨rfl,rfl,qpjl.enter1 func201 rfl rfl,H0 x w hS⟩)) ?_;refine q2y4.All.step rfl (fun x w hm hS => .inl ⟨rfl,.call _ _ (qpjl.enter2 func143 rfl rfl rfl) ((H1 x w hS).mono fun e w' ⟨A,c,he,h1⟩=>⟨_,some (A,c),he,(fun d hd=>by cases hd;rfl),h1,(fun _=>rfl),(fun i _ _=>rfl),[14,9,15,3],by kernel_rfl,(by repeat (first|exact trivial|refine⟨.inr rfl,?_⟩|refine⟨.inl rfl,?_⟩))⟩)⟩) ?_;refine q2y4.All.step rfl (q2y4.Does.pure (val:=fun x=>(.tuple #[(.slice (gA x) n (gC x)),(.int .i64 k),(.int .i64 f)])) rfl (fun x h=>absurd h (by decide)) (fun x w hm hS=>⟨rfl,rfl,rfl⟩)) ?_;refine q2y4.All.step rfl (q2y4.Does.pure (val:=fun x=>(.slice (gA x) n (gC x))) rfl (fun x h=>absurd h (by decide)) (fun x w hm hS=>⟨rfl,rfl,rfl⟩)) ?_;refine q2y4.All.step rfl (q2y4.Does.pure (val:=fun x=>(.int .i64 k)) rfl (fun x h=>absurd h (by decide)) (fun x w hm hS=>⟨rfl,rfl,rfl⟩)) ?_;refine q2y4.All.step rfl (q2y4.Does.pure (val:=fun x=>(.int .i64 f)) rfl (fun x h=>absurd h (by decide)) (fun x w hm hS=>⟨rfl,rfl,rfl⟩)) ?_;refine q2y4.All.step rfl (q2y4.Does.pure (val:=fun x=>(.slice (gA x) n (gC x))) rfl (fun x h=>absurd h (by decide)) (fun x w hm hS=>⟨rfl,rfl,rfl⟩)) ?_;refine q2y4.All.step rfl (q2y4.Does.pure (val:=fun x=>(.int .i64 k)) rfl (fun x h=>absurd h (by decide)) (fun x w hm hS=>⟨rfl,rfl,rfl⟩)) ?_;refine q2y4.All.step rfl (q2y4.Does.pure (val:=fun x=>(.int .i64 f)) rfl (fun x h=>absurd h (by decide)) (fun x w hm hS=>⟨rfl,rfl,rfl⟩)) ?_;exact q2y4.All.fin rfl
section
variable{a:Act}{w:World}{d:Option Tmp}{p:String}{af:Array Edge}{gd:Option (Nat×Bool)}{x y z:Tmp}{r:TypeId}
theorem qxwk{g:Nat}(hx:a.eval (.tmp x)=.pointer (some ⟨g,0,none⟩)) :
 (execOp a.eval {dst:=d,op := .fieldAddr 153 (.tmp x) 0,type:=r,pos:=p,after:=af,guard:=gd}).run prog w=.ok (.value (.pointer (some ⟨g,0,none⟩))) w:=by
 generalize a.eval=f at *;go_simp
theorem qswu{g j:Nat}{q:Option Addr}(hx:a.eval (.tmp x)=.pointer (some ⟨g,j,none⟩))(hc:w.cell? ⟨g,j,none⟩=some (.pointer q)) :
 (execOp a.eval {dst:=d,op := .load 72 (.tmp x),type:=72,pos:=p,after:=af,guard:=gd}).run prog w=.ok (.value (.pointer q)) w:=by
 generalize a.eval=f at *;go_simp
end
theorem qf2v{Q:Exit->Act->World->Prop}{S:Nat->World->Prop}{W:World}{B cb:Nat}{n:Int}{t:ByteArray}{x0 x2 x3 x4 x5 x6 x7 x8 x9 x10 x11 x12 x13 x14 x15 x16 x17 x18 x19 x20 x21 x22 x23 x24 x25:Value}
 (hS:S 0 W.drew) (K0:∀x w,S x w->w.cell? ⟨B,0,none⟩=some (.pointer (some ⟨cb,0,none⟩)))
 (H0:∀w,S 0 w->Calls prog 51 #[(.pointer (some ⟨cb,0,none⟩))] w fun e w'=>e=.returned (.int .i64 n)/\S 1 w')
 (H1:∀w,S 1 w->Calls prog 43 #[(.pointer (some ⟨cb,0,none⟩)),.int .i64 n] w fun e w'=>e=.returned (.string t)/\S 2 w')
 (fin:∀w,S 2 w->Q .normal ⟨#[x0,(.pointer (some ⟨B,0,none⟩)),x2,x3,(.string t),x5,(.pointer (some ⟨B,0,none⟩)),(.pointer (some ⟨cb,0,none⟩)),(.pointer (some ⟨B,0,none⟩)),(.pointer (some ⟨cb,0,none⟩)),(.int .i64 n),(.string t),x12,x13,x14,x15,x16,x17,x18,x19,x20,x21,x22,x23,x24,x25],[]⟩ w) :
 (Code.region 2 (qfhu.opsAt 2 Tryz.f158.body) true).wp prog Q ⟨#[x0,(.pointer (some ⟨B,0,none⟩)),x2,x3,x4,x5,x6,x7,x8,x9,x10,x11,x12,x13,x14,x15,x16,x17,x18,x19,x20,x21,x22,x23,x24,x25],[]⟩ W:=by
 refine qu7n.wp (fresh:=fun i x=>(i=4->x=0)/\(i=5->x<=1)) (hf0:=fun i=>⟨fun _=>rfl,fun _=>Nat.zero_le _⟩) (x:=0) (S:=S) (made:=fun i x=>(i=4->1<=x)/\(i=5->x=2)) (war:=[]) (ds:=[6,7,8,9,10,11,4]) (A:=[x0,(.pointer (some ⟨B,0,none⟩)),x2,x3,x4,x5,x6,x7,x8,x9,x10,x11,x12,x13,x14,x15,x16,x17,x18,x19,x20,x21,x22,x23,x24,x25]) (B:=fun _=>[x0,(.pointer (some ⟨B,0,none⟩)),x2,x3,(.string t),x5,(.pointer (some ⟨B,0,none⟩)),(.pointer (some ⟨cb,0,none⟩)),(.pointer (some ⟨B,0,none⟩)),(.pointer (some ⟨cb,0,none⟩)),(.int .i64 n),(.string t),x12,x13,x14,x15,x16,x17,x18,x19,x20,x21,x22,x23,x24,x25]) (D:=[]) (by kernel_rfl) (by kernel_rfl) (by kernel_rfl) ?_ hS ?_ (fun x w hm hS=>fin w (by have h:=(hm 5 (by decide)).2 rfl;rw[<-h];exact hS))
 ·exact fun x=>(by repeat (first|exact trivial|refine⟨.inr rfl,?_⟩|refine⟨.inl rfl,?_⟩))
 refine q2y4.All.step rfl (qu7n.Does.pure (val:=fun x=>(.pointer (some ⟨B,0,none⟩))) rfl (fun x=>⟨fun h=>absurd h (by decide),fun h=>absurd h (by decide)⟩) (fun x w hm hS=>⟨rfl,rfl,qxwk rfl⟩)) ?_;refine q2y4.All.step rfl (qu7n.Does.pure (val:=fun x=>(.pointer (some ⟨cb,0,none⟩))) rfl (fun x=>⟨fun h=>absurd h (by decide),fun h=>absurd h (by decide)⟩) (fun x w hm hS=>⟨rfl,rfl,qswu rfl (K0 x w hS)⟩)) ?_;refine q2y4.All.step rfl (qu7n.Does.pure (val:=fun x=>(.pointer (some ⟨B,0,none⟩))) rfl (fun x=>⟨fun h=>absurd h (by decide),fun h=>absurd h (by decide)⟩) (fun x w hm hS=>⟨rfl,rfl,qxwk rfl⟩)) ?_;refine q2y4.All.step rfl (qu7n.Does.pure (val:=fun x=>(.pointer (some ⟨cb,0,none⟩))) rfl (fun x=>⟨fun h=>absurd h (by decide),fun h=>absurd h (by decide)⟩) (fun x w hm hS=>⟨rfl,rfl,qswu rfl (K0 x w hS)⟩)) ?_;refine q2y4.All.step rfl (fun x w hp hf hS => .inl ⟨rfl,.call _ _ (qpjl.enter1 func51 rfl rfl) (by obtain rfl:x=0:=hf.1 rfl;exact(H0 w hS).mono fun e w' ⟨he,h1⟩=>⟨_,1,he,(fun d hd=>by cases hd;rfl),h1,⟨fun _=>Nat.le_refl _,fun h=>absurd h (by decide)⟩,(fun i h=>⟨fun _=>Nat.le_refl _,fun e=>absurd (h.2 e) (by decide)⟩),(fun i hi _=>⟨fun e=>absurd e hi,fun _=>Nat.le_refl _⟩),[],rfl,q2y4.off_refl 0 _⟩)⟩) ?_
 refine q2y4.All.step rfl (fun x w hp hf hS => .inl ⟨rfl,.call _ _ (qpjl.enter2 func43 rfl rfl rfl) (by
  have h1:1<=x:=(hp 4 (by decide+kernel) (by decide)).1 rfl;have h2:x<=1:=hf.2 rfl;obtain rfl:x=1:=by omega
  exact(H1 w hS).mono fun e w' ⟨he,h1⟩=>⟨_,2,he,(fun d hd=>by cases hd;rfl),h1,⟨fun h=>absurd h (by decide),fun _=>rfl⟩,(fun i _=>⟨fun _=>by decide,fun _=>rfl⟩),(fun i hi h=>⟨fun e=>absurd (h.1 e) (by decide),fun e=>absurd e hi⟩),[],rfl,q2y4.off_refl 0 _⟩)⟩) ?_
 refine q2y4.All.step rfl (qu7n.Does.pure (val:=fun x=>(.string t)) rfl (fun x=>⟨fun h=>absurd h (by decide),fun h=>absurd h (by decide)⟩) (fun x w hm hS=>⟨rfl,rfl,rfl⟩)) ?_;exact q2y4.All.fin rfl
def XG:=Bool×Option Nat×Bool
def xn(x:XG):Bool:=x.1
def xa(x:XG):Option Nat:=x.2.1
def xg(x:XG):Nat:=x.2.1.getD 0
def xs(x:XG):Bool:=x.2.2
section
variable{a:Act}{w:World}{d:Option Tmp}{p:String}{af:Array Edge}{gd:Option (Nat×Bool)}{x y z:Tmp}{r:TypeId}
theorem q0mg:(execOp a.eval {dst:=d,op := .alloc 40,type:=r,pos:=p,after:=af,guard:=gd}).run prog w=.ok (.value (.pointer (some ⟨w.heap.size,0,none⟩))) (w.alloc (.cells pkZ 40)):=by have hzv:=qrai w;generalize a.eval=f at *;go_simp
theorem q654{n:Int}(hx:a.eval (.tmp x)=.int .u64 n)(h0:0<=n)(h1:n<65536) :
 (execOp a.eval {dst:=d,op := .convert 74 3 (.tmp x),type:=3,pos:=p,after:=af,guard:=gd}).run prog w=.ok (.value (.int .i64 n)) w:=by
 generalize a.eval=f at *;go_simp;rw[IntKind.wrap_i64];omega
theorem quib{D:Array Value}{k i:Int}(hx:a.eval (.tmp x)=.int .i64 k)(hy:a.eval (.tmp y)=.int .i64 i)(hD:pkC {Pk.zero with kind:=k,id:=i} adZ=D) :
 (execOp a.eval {dst:=d,op := .build 40 #[(0,.tmp x),(4,.tmp y)],type:=40,pos:=p,after:=af,guard:=gd}).run prog w=.ok (.value (.agg D)) w:=by
 generalize a.eval=f at *;go_simp;exact hD
theorem q2e0{g:Nat}{D old:Array Value}(hx:a.eval (.tmp x)=.pointer (some ⟨g,0,none⟩))(hy:a.eval (.tmp y)=.agg D)(hD:D.size=25)(h1:D.all (·.oneCell')=true)(hg:w.heap[g]?=some (.cells old 40 (0,0)))(ho:old.size=25) :
 (execOp a.eval {dst:=d,op := .store 40 (.tmp x) (.tmp y),type:=r,pos:=p,after:=af,guard:=gd}).run prog w=.ok .skip (w.setRow g D):=by
 unfold execOp;simp only[hx,hy,Instr.storeAt,Instr.sureAddr,Sem.run_bind,Sem.run_pure,Result.andThen_ok,run_storeVar_row w g 40 40 old D hg (by rw[hD];exact q5nr) (by rw[ho,hD]) h1]
end
theorem q3p3{Q:Exit->Act->World->Prop}{S:XG->World->Prop}{W:World}{B cb:Nat}{kind i:Int}{D:Array Value}{x0 x2 x3 x4 x5 x6 x7 x8 x9 x10 x11 x12 x13 x14 x15 x16 x17 x18 x19 x20 x21 x22 x23:Value}
 (hS:S (false,none,false) W.drew) (hD:D.size=25) (hD1:D.all (·.oneCell')=true) (hDb:pkC {Pk.zero with kind:=kind,id:=i} adZ=D) (i0:0<=i) (i1:i<65536)
 (K0:∀x w,S x w->w.cell? ⟨B,0,none⟩=some (.pointer (some ⟨cb,0,none⟩))) (K2:∀x w,S x w->w.cell? ⟨B,2,none⟩=some (.int .i64 kind))
 (H0:∀g w,S (false,g,false) w->Calls prog 35 #[(.pointer (some ⟨cb,0,none⟩)),.int .i64 2] w fun e w'=>e=.returned (.int .u64 i)/\S (true,g,false) w')
 (H1:∀n w,S (n,none,false) w->S (n,some w.heap.size,false) (w.alloc (.cells pkZ 40)))
 (H2:∀g w,S (true,some g,false) w->w.heap[g]?=some (.cells pkZ 40 (0,0))/\S (true,some g,true) (w.setRow g D))
 (fin:∀g w,S (true,some g,true) w->Q .normal ⟨#[x0,(.pointer (some ⟨B,0,none⟩)),x2,(.pointer (some ⟨g,0,none⟩)),(.pointer (some ⟨B,2,none⟩)),(.int .i64 kind),(.pointer (some ⟨B,0,none⟩)),(.pointer (some ⟨cb,0,none⟩)),(.int .u64 i),(.int .i64 i),(.agg D),x11,x12,x13,x14,x15,x16,x17,x18,x19,x20,x21,x22,x23],[]⟩ w) :
 (Code.region 1 (qfhu.opsAt 1 Tryz.f118.body) true).wp prog Q ⟨#[x0,(.pointer (some ⟨B,0,none⟩)),x2,x3,x4,x5,x6,x7,x8,x9,x10,x11,x12,x13,x14,x15,x16,x17,x18,x19,x20,x21,x22,x23],[]⟩ W:=by
 refine qu7n.wp (fresh:=fun i x=>(i=4->xn x=false)/\(i=7->xa x=none)/\(i<=8->i=4\/i=7\/i=8->xs x=false)) (hf0:=fun i=>⟨fun _=>rfl,fun _=>rfl,fun _ _=>rfl⟩) (x:=(false,none,false)) (S:=S) (made:=fun i x=>(i=4->xn x=true)/\(i=7->(xa x).isSome=true)/\(i=8->xs x=true)) (war:=[]) (ds:=[4,5,6,7,8,9,10,3]) (A:=[x0,(.pointer (some ⟨B,0,none⟩)),x2,x3,x4,x5,x6,x7,x8,x9,x10,x11,x12,x13,x14,x15,x16,x17,x18,x19,x20,x21,x22,x23]) (B:=fun x=>[x0,(.pointer (some ⟨B,0,none⟩)),x2,(.pointer (some ⟨xg x,0,none⟩)),(.pointer (some ⟨B,2,none⟩)),(.int .i64 kind),(.pointer (some ⟨B,0,none⟩)),(.pointer (some ⟨cb,0,none⟩)),(.int .u64 i),(.int .i64 i),(.agg D),x11,x12,x13,x14,x15,x16,x17,x18,x19,x20,x21,x22,x23]) (D:=[]) (by kernel_rfl) (by kernel_rfl) (by kernel_rfl) ?_ hS ?_ (fun x w hm hS=>by obtain⟨n,g,s⟩:=x;obtain rfl:n=true:=(hm 4 (by decide)).1 rfl;obtain⟨g,rfl⟩:=Option.isSome_iff_exists.1 ((hm 7 (by decide)).2.1 rfl:g.isSome=true);obtain rfl:s=true:=(hm 8 (by decide)).2.2 rfl;exact fin g w hS)
 ·exact fun x=>(by repeat (first|exact trivial|refine⟨.inr rfl,?_⟩|refine⟨.inl rfl,?_⟩))
 refine q2y4.All.step rfl (qu7n.Does.pure (val:=fun x=>(.pointer (some ⟨B,2,none⟩))) rfl (fun x=>⟨fun h=>absurd h (by decide),fun h=>absurd h (by decide),fun h=>absurd h (by decide)⟩) (fun x w hm hS=>⟨rfl,rfl,qxjc rfl⟩)) ?_;refine q2y4.All.step rfl (qu7n.Does.pure (val:=fun x=>(.int .i64 kind)) rfl (fun x=>⟨fun h=>absurd h (by decide),fun h=>absurd h (by decide),fun h=>absurd h (by decide)⟩) (fun x w hm hS=>⟨rfl,rfl,qkcv rfl (K2 x w hS)⟩)) ?_;refine q2y4.All.step rfl (qu7n.Does.pure (val:=fun x=>(.pointer (some ⟨B,0,none⟩))) rfl (fun x=>⟨fun h=>absurd h (by decide),fun h=>absurd h (by decide),fun h=>absurd h (by decide)⟩) (fun x w hm hS=>⟨rfl,rfl,qxwk rfl⟩)) ?_;refine q2y4.All.step rfl (qu7n.Does.pure (val:=fun x=>(.pointer (some ⟨cb,0,none⟩))) rfl (fun x=>⟨fun h=>absurd h (by decide),fun h=>absurd h (by decide),fun h=>absurd h (by decide)⟩) (fun x w hm hS=>⟨rfl,rfl,qswu rfl (K0 x w hS)⟩)) ?_;refine q2y4.All.step rfl (fun x w hp hf hS => .inl ⟨rfl,.call _ _ (qpjl.enter2 func35 rfl rfl rfl) (by obtain⟨n,g,s⟩:=x;obtain rfl:n=false:=hf.1 rfl;obtain rfl:s=false:=hf.2.2 (by decide) (by decide);exact(H0 g w hS).mono fun e w' ⟨he,h1⟩=>⟨_,(true,g,false),he,(fun d hd=>by cases hd;rfl),h1,⟨fun _=>rfl,fun h=>absurd h (by decide),fun h=>absurd h (by decide)⟩,(fun i h=>⟨fun _=>rfl,h.2.1,h.2.2⟩),(fun i hi h=>⟨fun e=>absurd e hi,h.2.1,h.2.2⟩),[],rfl,q2y4.off_refl 0 _⟩)⟩) ?_
 refine q2y4.All.step rfl (qu7n.Does.pure (val:=fun x=>(.int .i64 i)) rfl (fun x=>⟨fun h=>absurd h (by decide),fun h=>absurd h (by decide),fun h=>absurd h (by decide)⟩) (fun x w hm hS=>⟨rfl,rfl,q654 rfl i0 i1⟩)) ?_;refine q2y4.All.step rfl (qu7n.Does.pure (val:=fun x=>(.agg D)) rfl (fun x=>⟨fun h=>absurd h (by decide),fun h=>absurd h (by decide),fun h=>absurd h (by decide)⟩) (fun x w hm hS=>⟨rfl,rfl,quib rfl rfl hDb⟩)) ?_;refine q2y4.All.step rfl (fun x w hp hf hS => .inl ⟨rfl,.value _ (xn x,some w.heap.size,false) _ q0mg (by obtain⟨n,g,s⟩:=x;obtain rfl:g=none:=hf.2.1 rfl;obtain rfl:s=false:=hf.2.2 (by decide) (by decide);exact⟨(fun d hd=>by cases hd;rfl),H1 n w hS,⟨fun h=>absurd h (by decide),fun _=>rfl,fun h=>absurd h (by decide)⟩,(fun i h=>⟨h.1,fun _=>rfl,h.2.2⟩),(fun i hi h=>⟨h.1,fun e=>absurd e hi,h.2.2⟩),[3],by kernel_rfl,(by repeat (first|exact trivial|refine⟨.inr rfl,?_⟩|refine⟨.inl rfl,?_⟩))⟩)⟩) ?_
 refine q2y4.All.step rfl (fun x w hp hf hS=>by
  obtain⟨n,g,s⟩:=x;obtain rfl:n=true:=(hp 4 (by decide+kernel) (by decide)).1 rfl;obtain⟨g,rfl⟩:=Option.isSome_iff_exists.1 ((hp 7 (by decide+kernel) (by decide)).2.1 rfl:g.isSome=true);obtain rfl:s=false:=hf.2.2 (by decide) (by decide);obtain⟨h1,h2⟩:=H2 g w hS;exact .inl ⟨rfl,.skip (true,some g,true) _ (q2e0 rfl rfl hD hD1 h1 qbwp) ⟨(fun d hd=>by cases hd),h2,⟨fun _=>rfl,fun _=>rfl,fun _=>rfl⟩,(fun i h=>⟨fun _=>rfl,fun _=>rfl,fun _=>rfl⟩),(fun i hi h=>⟨h.1,h.2.1,fun _ e=>by
   rcases e with rfl|rfl|rfl
   ·exact absurd (h.1 rfl) (by simp[xn])
   ·exact absurd (h.2.1 rfl) (by simp[xa])
   ·exact absurd rfl hi⟩),[],rfl,q2y4.off_refl 0 _⟩⟩) ?_
 exact q2y4.All.fin rfl
section
variable{a:Act}{w:World}{d:Option Tmp}{p:String}{af:Array Edge}{gd:Option (Nat×Bool)}{x y z:Tmp}{r:TypeId}{ts:Array TypeId}
theorem qxyk{g:Nat}(hx:a.eval (.tmp x)=.pointer (some ⟨g,0,none⟩)) :
 (execOp a.eval {dst:=d,op := .fieldAddr 40 (.tmp x) 18,type:=r,pos:=p,after:=af,guard:=gd}).run prog w=.ok (.value (.pointer (some ⟨g,22,none⟩))) w:=by
 generalize a.eval=f at *;go_simp
theorem qvcr{g:Nat}(hx:a.eval (.tmp x)=.pointer (some ⟨g,0,none⟩)) :
 (execOp a.eval {dst:=d,op := .fieldAddr 40 (.tmp x) 19,type:=r,pos:=p,after:=af,guard:=gd}).run prog w=.ok (.value (.pointer (some ⟨g,23,none⟩))) w:=by
 generalize a.eval=f at *;go_simp
theorem qag2{g j n c:Nat}{A:Option Addr}(hx:a.eval (.tmp x)=.pointer (some ⟨g,j,none⟩))(hc:w.cell? ⟨g,j,none⟩=some (.slice A n c)) :
 (execOp a.eval {dst:=d,op := .load 37 (.tmp x),type:=37,pos:=p,after:=af,guard:=gd}).run prog w=.ok (.value (.slice A n c)) w:=by
 generalize a.eval=f at *;go_simp
theorem qdeq{g j n c:Nat}{A:Option Addr}(hx:a.eval (.tmp x)=.pointer (some ⟨g,j,none⟩))(hc:w.cell? ⟨g,j,none⟩=some (.slice A n c)) :
 (execOp a.eval {dst:=d,op := .load 38 (.tmp x),type:=38,pos:=p,after:=af,guard:=gd}).run prog w=.ok (.value (.slice A n c)) w:=by
 generalize a.eval=f at *;go_simp
theorem qki8{n c:Nat}{A:Option Addr}(hx:a.eval (.tmp x)=.slice A n c) :
 (execOp a.eval {dst:=d,op := .call {callee := .builtin .len,args:=#[.tmp x],argTypes:=#[37]},type:=r,pos:=p,after:=af,guard:=gd}).run prog w=.ok (.value (.int .i64 (n:Nat))) w:=by
 generalize a.eval=f at *;go_simp
theorem q73a{n c:Nat}{A:Option Addr}(hx:a.eval (.tmp x)=.slice A n c) :
 (execOp a.eval {dst:=d,op := .call {callee := .builtin .len,args:=#[.tmp x],argTypes:=#[38]},type:=r,pos:=p,after:=af,guard:=gd}).run prog w=.ok (.value (.int .i64 (n:Nat))) w:=by
 generalize a.eval=f at *;go_simp
theorem qvpr{n:Nat}{b:Bool}(h:decide (0<n)=b):decide ((0:Int)<(n:Int))=b:=by rw[<-h,decide_eq_decide];omega
end
theorem qhgg{Q:Exit->Act->World->Prop}{S:World->Prop}{W:World}{B nc nf cc fc:Nat}{v k i:Int}{C D:Array Value}{b s:Bool}{ac af:Option Addr}{x1 x2 x5 x6 x7 x8 x9 x10 x11 x12 x13 x14 x15 x16 x17 x18 x19 x20 x21 x22 x23 x24 x25 x26 x27 x28 x29 x30 x31 x32 x33 x34 x35 x36 x37 x38 x39 x40 x41 x42 x43:Value}
 (hS:S W.drew)
 (hC:C.size=25) (KC:∀w,S w->w.heap[B]?=some (.cells C 40 (0,0))) (K0:∀w,S w->w.cell? ⟨B,0,none⟩=some (.int .i64 k)) (K4:∀w,S w->w.cell? ⟨B,4,none⟩=some (.int .i64 i))
 (K22:∀w,S w->w.cell? ⟨B,22,none⟩=some (.slice ac nc cc)) (K23:∀w,S w->w.cell? ⟨B,23,none⟩=some (.slice af nf fc))
 (H0:∀w,S w->Calls prog 117 #[.int .i64 v,.int .i64 k] w fun e w'=>e=.returned (.bool (versC v&&qfws k))/\S w')
 (H1:∀w,S w->Calls prog 194 #[.int .i64 v,.int .i64 k] w fun e w'=>e=.returned (.bool b)/\S w')
 (H2:∀w,S w->Calls prog 195 #[.int .i64 v,.agg C] w fun e w'=>e=.returned (.agg D)/\S w')
 (H3:∀w,S w->Calls prog 137 #[.agg C,.agg D] w fun e w'=>e=.returned (.bool s)/\S w')
 (fin:∀(r:Bool) (w:World),((versC v&&qfws k)&&(decide (0<i))&&(decide (i<=65535))&&((decide (0<nf)) || (decide (0<nc)) || b)&&s)=r->S w->∀x5 x6 x7 x8 x9 x10 x11 x12 x13 x14 x15 x16 x17 x18 x19 x20 x21 x22 x23 x24 x25 x26 x27 x28 x29 x30 x31 x32 x33 x34 x35 x36 x37 x38 x39 x40 x41 x42 x43,Q .normal ⟨#[(.int .i64 v),x1,x2,(.pointer (some ⟨B,0,none⟩)),(.bool r),x5,x6,x7,x8,x9,x10,x11,x12,x13,x14,x15,x16,x17,x18,x19,x20,x21,x22,x23,x24,x25,x26,x27,x28,x29,x30,x31,x32,x33,x34,x35,x36,x37,x38,x39,x40,x41,x42,x43],[]⟩ w) :
 (Code.region 1 (qfhu.opsAt 1 Tryz.f150.body) true).wp prog Q ⟨#[(.int .i64 v),x1,x2,(.pointer (some ⟨B,0,none⟩)),(.bool false),x5,x6,x7,x8,x9,x10,x11,x12,x13,x14,x15,x16,x17,x18,x19,x20,x21,x22,x23,x24,x25,x26,x27,x28,x29,x30,x31,x32,x33,x34,x35,x36,x37,x38,x39,x40,x41,x42,x43],[]⟩ W:=by
 obtain⟨d0,ed0⟩:∃d,(versC v&&qfws k)=d:=⟨_,rfl⟩
 obtain⟨d1,ed1⟩:∃d,(decide (0<i))=d:=⟨_,rfl⟩
 obtain⟨d2,ed2⟩:∃d,(decide (i<=65535))=d:=⟨_,rfl⟩
 obtain⟨c0,ec0⟩:∃d,(decide (0<nf))=d:=⟨_,rfl⟩
 obtain⟨c1,ec1⟩:∃d,(decide (0<nc))=d:=⟨_,rfl⟩
 obtain⟨c2,ec2⟩:∃d,(b)=d:=⟨_,rfl⟩
 obtain⟨d4,ed4⟩:∃d,(s)=d:=⟨_,rfl⟩
 rw[ed0,ed1,ed2,ec0,ec1,ec2,ed4] at fin;rw[ed0] at H0;rw[ec2] at H1;rw[ed4] at H3;cases d0
 case' false=>refine qfhu.wp_in (ds:=[5,6,7,8,9,10,11,12,13,14,15,16,17,18,19,20,21,22,23,24,25,26,27,28,29,30,31,32,33,34,35,36,37,38,39,40,41,42,43,4]) (B:=[(.int .i64 v),x1,x2,(.pointer (some ⟨B,0,none⟩)),(.bool false),(.int .i64 v),(.pointer (some ⟨B,0,none⟩)),(.int .i64 k),(.bool false),(.bool false),undef,undef,undef,(.bool false),(.bool false),undef,undef,undef,(.bool false),(.bool false),undef,undef,undef,undef,undef,undef,undef,undef,undef,undef,undef,undef,undef,undef,undef,undef,(.bool false),(.bool false),undef,undef,undef,undef,undef,(.bool false)]) (D:=[]) (by kernel_rfl) (by kernel_rfl) (by kernel_rfl) ?_ hS ?_ (fun w hS=>fin false w rfl hS _ _ _ _ _ _ _ _ _ _ _ _ _ _ _ _ _ _ _ _ _ _ _ _ _ _ _ _ _ _ _ _ _ _ _ _ _ _ _)
 case' true=>
  cases d1
  case' false=>refine qfhu.wp_in (ds:=[5,6,7,8,9,10,11,12,13,14,15,16,17,18,19,20,21,22,23,24,25,26,27,28,29,30,31,32,33,34,35,36,37,38,39,40,41,42,43,4]) (B:=[(.int .i64 v),x1,x2,(.pointer (some ⟨B,0,none⟩)),(.bool false),(.int .i64 v),(.pointer (some ⟨B,0,none⟩)),(.int .i64 k),(.bool true),(.bool true),(.pointer (some ⟨B,4,none⟩)),(.int .i64 i),(.bool false),(.bool false),(.bool false),undef,undef,undef,(.bool false),(.bool false),undef,undef,undef,undef,undef,undef,undef,undef,undef,undef,undef,undef,undef,undef,undef,undef,(.bool false),(.bool false),undef,undef,undef,undef,undef,(.bool false)]) (D:=[]) (by kernel_rfl) (by kernel_rfl) (by kernel_rfl) ?_ hS ?_ (fun w hS=>fin false w rfl hS _ _ _ _ _ _ _ _ _ _ _ _ _ _ _ _ _ _ _ _ _ _ _ _ _ _ _ _ _ _ _ _ _ _ _ _ _ _ _)
  case' true=>
   cases d2
   case' false=>refine qfhu.wp_in (ds:=[5,6,7,8,9,10,11,12,13,14,15,16,17,18,19,20,21,22,23,24,25,26,27,28,29,30,31,32,33,34,35,36,37,38,39,40,41,42,43,4]) (B:=[(.int .i64 v),x1,x2,(.pointer (some ⟨B,0,none⟩)),(.bool false),(.int .i64 v),(.pointer (some ⟨B,0,none⟩)),(.int .i64 k),(.bool true),(.bool true),(.pointer (some ⟨B,4,none⟩)),(.int .i64 i),(.bool true),(.bool true),(.bool true),(.pointer (some ⟨B,4,none⟩)),(.int .i64 i),(.bool false),(.bool false),(.bool false),undef,undef,undef,undef,undef,undef,undef,undef,undef,undef,undef,undef,undef,undef,undef,undef,(.bool false),(.bool false),undef,undef,undef,undef,undef,(.bool false)]) (D:=[]) (by kernel_rfl) (by kernel_rfl) (by kernel_rfl) ?_ hS ?_ (fun w hS=>fin false w rfl hS _ _ _ _ _ _ _ _ _ _ _ _ _ _ _ _ _ _ _ _ _ _ _ _ _ _ _ _ _ _ _ _ _ _ _ _ _ _ _)
   case' true=>
    cases c0
    case' false=>
     cases c1
     case' false=>
      cases c2
      case' false=>refine qfhu.wp_in (ds:=[5,6,7,8,9,10,11,12,13,14,15,16,17,18,19,20,21,22,23,24,25,26,27,28,29,30,31,32,33,34,35,36,37,38,39,40,41,42,43,4]) (B:=[(.int .i64 v),x1,x2,(.pointer (some ⟨B,0,none⟩)),(.bool false),(.int .i64 v),(.pointer (some ⟨B,0,none⟩)),(.int .i64 k),(.bool true),(.bool true),(.pointer (some ⟨B,4,none⟩)),(.int .i64 i),(.bool true),(.bool true),(.bool true),(.pointer (some ⟨B,4,none⟩)),(.int .i64 i),(.bool true),(.bool true),(.bool true),(.pointer (some ⟨B,23,none⟩)),(.slice af nf fc),(.int .i64 (nf:Nat)),(.bool false),(.bool false),(.pointer (some ⟨B,22,none⟩)),(.slice ac nc cc),(.int .i64 (nc:Nat)),(.bool false),(.bool false),(.bool false),(.int .i64 v),(.pointer (some ⟨B,0,none⟩)),(.int .i64 k),(.bool false),(.bool false),(.bool false),(.bool false),undef,undef,undef,undef,undef,(.bool false)]) (D:=[]) (by kernel_rfl) (by kernel_rfl) (by kernel_rfl) ?_ hS ?_ (fun w hS=>fin false w rfl hS _ _ _ _ _ _ _ _ _ _ _ _ _ _ _ _ _ _ _ _ _ _ _ _ _ _ _ _ _ _ _ _ _ _ _ _ _ _ _)
      case' true=>
       cases d4
       case' false=>refine qfhu.wp_in (ds:=[5,6,7,8,9,10,11,12,13,14,15,16,17,18,19,20,21,22,23,24,25,26,27,28,29,30,31,32,33,34,35,36,37,38,39,40,41,42,43,4]) (B:=[(.int .i64 v),x1,x2,(.pointer (some ⟨B,0,none⟩)),(.bool false),(.int .i64 v),(.pointer (some ⟨B,0,none⟩)),(.int .i64 k),(.bool true),(.bool true),(.pointer (some ⟨B,4,none⟩)),(.int .i64 i),(.bool true),(.bool true),(.bool true),(.pointer (some ⟨B,4,none⟩)),(.int .i64 i),(.bool true),(.bool true),(.bool true),(.pointer (some ⟨B,23,none⟩)),(.slice af nf fc),(.int .i64 (nf:Nat)),(.bool false),(.bool false),(.pointer (some ⟨B,22,none⟩)),(.slice ac nc cc),(.int .i64 (nc:Nat)),(.bool false),(.bool false),(.bool false),(.int .i64 v),(.pointer (some ⟨B,0,none⟩)),(.int .i64 k),(.bool true),(.bool true),(.bool true),(.bool true),(.agg C),(.int .i64 v),(.agg C),(.agg D),(.bool false),(.bool false)]) (D:=[]) (by kernel_rfl) (by kernel_rfl) (by kernel_rfl) ?_ hS ?_ (fun w hS=>fin false w rfl hS _ _ _ _ _ _ _ _ _ _ _ _ _ _ _ _ _ _ _ _ _ _ _ _ _ _ _ _ _ _ _ _ _ _ _ _ _ _ _)
       case' true=>refine qfhu.wp_in (ds:=[5,6,7,8,9,10,11,12,13,14,15,16,17,18,19,20,21,22,23,24,25,26,27,28,29,30,31,32,33,34,35,36,37,38,39,40,41,42,43,4]) (B:=[(.int .i64 v),x1,x2,(.pointer (some ⟨B,0,none⟩)),(.bool true),(.int .i64 v),(.pointer (some ⟨B,0,none⟩)),(.int .i64 k),(.bool true),(.bool true),(.pointer (some ⟨B,4,none⟩)),(.int .i64 i),(.bool true),(.bool true),(.bool true),(.pointer (some ⟨B,4,none⟩)),(.int .i64 i),(.bool true),(.bool true),(.bool true),(.pointer (some ⟨B,23,none⟩)),(.slice af nf fc),(.int .i64 (nf:Nat)),(.bool false),(.bool false),(.pointer (some ⟨B,22,none⟩)),(.slice ac nc cc),(.int .i64 (nc:Nat)),(.bool false),(.bool false),(.bool false),(.int .i64 v),(.pointer (some ⟨B,0,none⟩)),(.int .i64 k),(.bool true),(.bool true),(.bool true),(.bool true),(.agg C),(.int .i64 v),(.agg C),(.agg D),(.bool true),(.bool true)]) (D:=[]) (by kernel_rfl) (by kernel_rfl) (by kernel_rfl) ?_ hS ?_ (fun w hS=>fin true w rfl hS _ _ _ _ _ _ _ _ _ _ _ _ _ _ _ _ _ _ _ _ _ _ _ _ _ _ _ _ _ _ _ _ _ _ _ _ _ _ _)
     case' true=>
      cases d4
      case' false=>refine qfhu.wp_in (ds:=[5,6,7,8,9,10,11,12,13,14,15,16,17,18,19,20,21,22,23,24,25,26,27,28,29,30,31,32,33,34,35,36,37,38,39,40,41,42,43,4]) (B:=[(.int .i64 v),x1,x2,(.pointer (some ⟨B,0,none⟩)),(.bool false),(.int .i64 v),(.pointer (some ⟨B,0,none⟩)),(.int .i64 k),(.bool true),(.bool true),(.pointer (some ⟨B,4,none⟩)),(.int .i64 i),(.bool true),(.bool true),(.bool true),(.pointer (some ⟨B,4,none⟩)),(.int .i64 i),(.bool true),(.bool true),(.bool true),(.pointer (some ⟨B,23,none⟩)),(.slice af nf fc),(.int .i64 (nf:Nat)),(.bool false),(.bool false),(.pointer (some ⟨B,22,none⟩)),(.slice ac nc cc),(.int .i64 (nc:Nat)),(.bool true),(.bool true),(.bool true),undef,undef,undef,undef,(.bool true),(.bool true),(.bool true),(.agg C),(.int .i64 v),(.agg C),(.agg D),(.bool false),(.bool false)]) (D:=[]) (by kernel_rfl) (by kernel_rfl) (by kernel_rfl) ?_ hS ?_ (fun w hS=>fin false w rfl hS _ _ _ _ _ _ _ _ _ _ _ _ _ _ _ _ _ _ _ _ _ _ _ _ _ _ _ _ _ _ _ _ _ _ _ _ _ _ _)
      case' true=>refine qfhu.wp_in (ds:=[5,6,7,8,9,10,11,12,13,14,15,16,17,18,19,20,21,22,23,24,25,26,27,28,29,30,31,32,33,34,35,36,37,38,39,40,41,42,43,4]) (B:=[(.int .i64 v),x1,x2,(.pointer (some ⟨B,0,none⟩)),(.bool true),(.int .i64 v),(.pointer (some ⟨B,0,none⟩)),(.int .i64 k),(.bool true),(.bool true),(.pointer (some ⟨B,4,none⟩)),(.int .i64 i),(.bool true),(.bool true),(.bool true),(.pointer (some ⟨B,4,none⟩)),(.int .i64 i),(.bool true),(.bool true),(.bool true),(.pointer (some ⟨B,23,none⟩)),(.slice af nf fc),(.int .i64 (nf:Nat)),(.bool false),(.bool false),(.pointer (some ⟨B,22,none⟩)),(.slice ac nc cc),(.int .i64 (nc:Nat)),(.bool true),(.bool true),(.bool true),undef,undef,undef,undef,(.bool true),(.bool true),(.bool true),(.agg C),(.int .i64 v),(.agg C),(.agg D),(.bool true),(.bool true)]) (D:=[]) (by kernel_rfl) (by kernel_rfl) (by kernel_rfl) ?_ hS ?_ (fun w hS=>fin true w rfl hS _ _ _ _ _ _ _ _ _ _ _ _ _ _ _ _ _ _ _ _ _ _ _ _ _ _ _ _ _ _ _ _ _ _ _ _ _ _ _)
    case' true=>
     cases d4
     case' false=>refine qfhu.wp_in (ds:=[5,6,7,8,9,10,11,12,13,14,15,16,17,18,19,20,21,22,23,24,25,26,27,28,29,30,31,32,33,34,35,36,37,38,39,40,41,42,43,4]) (B:=[(.int .i64 v),x1,x2,(.pointer (some ⟨B,0,none⟩)),(.bool false),(.int .i64 v),(.pointer (some ⟨B,0,none⟩)),(.int .i64 k),(.bool true),(.bool true),(.pointer (some ⟨B,4,none⟩)),(.int .i64 i),(.bool true),(.bool true),(.bool true),(.pointer (some ⟨B,4,none⟩)),(.int .i64 i),(.bool true),(.bool true),(.bool true),(.pointer (some ⟨B,23,none⟩)),(.slice af nf fc),(.int .i64 (nf:Nat)),(.bool true),(.bool true),undef,undef,undef,undef,(.bool true),(.bool true),undef,undef,undef,undef,(.bool true),(.bool true),(.bool true),(.agg C),(.int .i64 v),(.agg C),(.agg D),(.bool false),(.bool false)]) (D:=[]) (by kernel_rfl) (by kernel_rfl) (by kernel_rfl) ?_ hS ?_ (fun w hS=>fin false w rfl hS _ _ _ _ _ _ _ _ _ _ _ _ _ _ _ _ _ _ _ _ _ _ _ _ _ _ _ _ _ _ _ _ _ _ _ _ _ _ _)
     case' true=>refine qfhu.wp_in (ds:=[5,6,7,8,9,10,11,12,13,14,15,16,17,18,19,20,21,22,23,24,25,26,27,28,29,30,31,32,33,34,35,36,37,38,39,40,41,42,43,4]) (B:=[(.int .i64 v),x1,x2,(.pointer (some ⟨B,0,none⟩)),(.bool true),(.int .i64 v),(.pointer (some ⟨B,0,none⟩)),(.int .i64 k),(.bool true),(.bool true),(.pointer (some ⟨B,4,none⟩)),(.int .i64 i),(.bool true),(.bool true),(.bool true),(.pointer (some ⟨B,4,none⟩)),(.int .i64 i),(.bool true),(.bool true),(.bool true),(.pointer (some ⟨B,23,none⟩)),(.slice af nf fc),(.int .i64 (nf:Nat)),(.bool true),(.bool true),undef,undef,undef,undef,(.bool true),(.bool true),undef,undef,undef,undef,(.bool true),(.bool true),(.bool true),(.agg C),(.int .i64 v),(.agg C),(.agg D),(.bool true),(.bool true)]) (D:=[]) (by kernel_rfl) (by kernel_rfl) (by kernel_rfl) ?_ hS ?_ (fun w hS=>fin true w rfl hS _ _ _ _ _ _ _ _ _ _ _ _ _ _ _ _ _ _ _ _ _ _ _ _ _ _ _ _ _ _ _ _ _ _ _ _ _ _ _)
 all_goals first
  |(
   refine qfhu.pu rfl rfl rfl rfl (fun w hS=>rfl) ?_;refine qfhu.pu rfl rfl rfl rfl (fun w hS=>qd7q rfl) ?_;refine qfhu.pu rfl rfl rfl rfl (fun w hS=>qkcv rfl (K0 w hS)) ?_;refine qfhu.ca rfl rfl rfl rfl (fun w=>qpjl.enter2 func117 rfl rfl rfl) H0 ?_;refine qfhu.pu rfl rfl rfl rfl (fun w hS=>rfl) ?_
   first|refine qfhu.sk rfl rfl rfl rfl ?_|refine qfhu.pu rfl rfl rfl rfl (fun w hS=>q43k rfl) ?_
   first|refine qfhu.sk rfl rfl rfl rfl ?_|refine qfhu.pu rfl rfl rfl rfl (fun w hS=>qkcv rfl (K4 w hS)) ?_
   first|refine qfhu.sk rfl rfl rfl rfl ?_|refine qfhu.pu rfl rfl rfl rfl (fun w hS=>qyhu rfl ed1) ?_
   refine qfhu.pu rfl rfl rfl rfl (fun w hS=>rfl) ?_;refine qfhu.pu rfl rfl rfl rfl (fun w hS=>rfl) ?_
   first|refine qfhu.sk rfl rfl rfl rfl ?_|refine qfhu.pu rfl rfl rfl rfl (fun w hS=>q43k rfl) ?_
   first|refine qfhu.sk rfl rfl rfl rfl ?_|refine qfhu.pu rfl rfl rfl rfl (fun w hS=>qkcv rfl (K4 w hS)) ?_
   first|refine qfhu.sk rfl rfl rfl rfl ?_|refine qfhu.pu rfl rfl rfl rfl (fun w hS=>qbhz rfl ed2) ?_
   refine qfhu.pu rfl rfl rfl rfl (fun w hS=>rfl) ?_;refine qfhu.pu rfl rfl rfl rfl (fun w hS=>rfl) ?_
   first|refine qfhu.sk rfl rfl rfl rfl ?_|refine qfhu.pu rfl rfl rfl rfl (fun w hS=>qvcr rfl) ?_
   first|refine qfhu.sk rfl rfl rfl rfl ?_|refine qfhu.pu rfl rfl rfl rfl (fun w hS=>qdeq rfl (K23 w hS)) ?_
   first|refine qfhu.sk rfl rfl rfl rfl ?_|refine qfhu.pu rfl rfl rfl rfl (fun w hS=>q73a rfl) ?_
   first|refine qfhu.sk rfl rfl rfl rfl ?_|refine qfhu.pu rfl rfl rfl rfl (fun w hS=>qyhu rfl (qvpr ec0)) ?_
   first|refine qfhu.sk rfl rfl rfl rfl ?_|refine qfhu.pu rfl rfl rfl rfl (fun w hS=>rfl) ?_
   first|refine qfhu.sk rfl rfl rfl rfl ?_|refine qfhu.pu rfl rfl rfl rfl (fun w hS=>qxyk rfl) ?_
   first|refine qfhu.sk rfl rfl rfl rfl ?_|refine qfhu.pu rfl rfl rfl rfl (fun w hS=>qag2 rfl (K22 w hS)) ?_
   first|refine qfhu.sk rfl rfl rfl rfl ?_|refine qfhu.pu rfl rfl rfl rfl (fun w hS=>qki8 rfl) ?_
   first|refine qfhu.sk rfl rfl rfl rfl ?_|refine qfhu.pu rfl rfl rfl rfl (fun w hS=>qyhu rfl (qvpr ec1)) ?_
   first|refine qfhu.sk rfl rfl rfl rfl ?_|refine qfhu.pu rfl rfl rfl rfl (fun w hS=>rfl) ?_
   first|refine qfhu.sk rfl rfl rfl rfl ?_|refine qfhu.pu rfl rfl rfl rfl (fun w hS=>rfl) ?_
   first|refine qfhu.sk rfl rfl rfl rfl ?_|refine qfhu.pu rfl rfl rfl rfl (fun w hS=>rfl) ?_
   first|refine qfhu.sk rfl rfl rfl rfl ?_|refine qfhu.pu rfl rfl rfl rfl (fun w hS=>qd7q rfl) ?_
   first|refine qfhu.sk rfl rfl rfl rfl ?_|refine qfhu.pu rfl rfl rfl rfl (fun w hS=>qkcv rfl (K0 w hS)) ?_
   first|refine qfhu.sk rfl rfl rfl rfl ?_|refine qfhu.ca rfl rfl rfl rfl (fun w=>qpjl.enter2 func194 rfl rfl rfl) H1 ?_
   first|refine qfhu.sk rfl rfl rfl rfl ?_|refine qfhu.pu rfl rfl rfl rfl (fun w hS=>rfl) ?_
   refine qfhu.pu rfl rfl rfl rfl (fun w hS=>rfl) ?_;refine qfhu.pu rfl rfl rfl rfl (fun w hS=>rfl) ?_
   first|refine qfhu.sk rfl rfl rfl rfl ?_|refine qfhu.pu rfl rfl rfl rfl (fun w hS=>qjuh rfl hC (KC w hS)) ?_
   first|refine qfhu.sk rfl rfl rfl rfl ?_|refine qfhu.pu rfl rfl rfl rfl (fun w hS=>rfl) ?_
   first|refine qfhu.sk rfl rfl rfl rfl ?_|refine qfhu.pu rfl rfl rfl rfl (fun w hS=>qjuh rfl hC (KC w hS)) ?_
   first|refine qfhu.sk rfl rfl rfl rfl ?_|refine qfhu.ca rfl rfl rfl rfl (fun w=>qpjl.enter2 func195 rfl rfl rfl) H2 ?_
   first|refine qfhu.sk rfl rfl rfl rfl ?_|refine qfhu.ca rfl rfl rfl rfl (fun w=>qpjl.enter2 func137 rfl rfl rfl) H3 ?_
   refine qfhu.pu rfl rfl rfl rfl (fun w hS=>rfl) ?_;refine qfhu.pu rfl rfl rfl rfl (fun w hS=>rfl) ?_;exact qfhu.All.fin rfl)
  |exact(by repeat (first|exact trivial|refine⟨.inr rfl,?_⟩|refine⟨.inl rfl,?_⟩))
theorem qmri{Q:Exit->Act->World->Prop}{S:World->Prop}{W:World}{B:Nat}{q q1 q2 h h1 h2 y1 y2 o1 o2 o3:Int}{n a:Bool}{x0 x2 x3 x4 x5 x6 x7 x8 x9 x10 x11 x12 x13 x14 x15 x16 x17 x18 x19:Value}
 (hS:S W.drew)
 (K1:∀w,S w->w.cell? ⟨B,1,none⟩=some (.int .i64 q)) (K2:∀w,S w->w.cell? ⟨B,2,none⟩=some (.bool n)) (K3:∀w,S w->w.cell? ⟨B,3,none⟩=some (.bool a)) (K4:∀w,S w->w.cell? ⟨B,4,none⟩=some (.int .i64 h))
 (e1:IntKind.i64.wrap (q*1)=q1) (e2:bits .and .i64 q1 3=q2) (e3:IntKind.i64.wrap (h*16)=h1) (e4:bits .and .i64 h1 48=h2) (f1:bits .or .i64 q2 y1=o1) (f2:bits .or .i64 o1 y2=o2) (f3:bits .or .i64 o2 h2=o3)
 (H0:∀w,S w->Calls prog 200 #[.bool n,.int .i64 4] w fun e w'=>e=.returned (.int .i64 y1)/\S w')
 (H1:∀w,S w->Calls prog 200 #[.bool a,.int .i64 8] w fun e w'=>e=.returned (.int .i64 y2)/\S w')
 (fin:∀w:World,S w->Q .normal ⟨#[x0,(.pointer (some ⟨B,0,none⟩)),(.int .i64 o3),(.pointer (some ⟨B,1,none⟩)),(.int .i64 q),(.int .i64 q1),(.int .i64 q2),(.pointer (some ⟨B,2,none⟩)),(.bool n),(.int .i64 y1),(.int .i64 o1),(.pointer (some ⟨B,3,none⟩)),(.bool a),(.int .i64 y2),(.int .i64 o2),(.pointer (some ⟨B,4,none⟩)),(.int .i64 h),(.int .i64 h1),(.int .i64 h2),(.int .i64 o3)],[]⟩ w) :
 (Code.region 1 (qfhu.opsAt 1 Tryz.f154.body) true).wp prog Q ⟨#[x0,(.pointer (some ⟨B,0,none⟩)),x2,x3,x4,x5,x6,x7,x8,x9,x10,x11,x12,x13,x14,x15,x16,x17,x18,x19],[]⟩ W:=by
 refine qfhu.wp_in (ds:=[3,4,5,6,7,8,9,10,11,12,13,14,15,16,17,18,19,2]) (B:=[x0,(.pointer (some ⟨B,0,none⟩)),(.int .i64 o3),(.pointer (some ⟨B,1,none⟩)),(.int .i64 q),(.int .i64 q1),(.int .i64 q2),(.pointer (some ⟨B,2,none⟩)),(.bool n),(.int .i64 y1),(.int .i64 o1),(.pointer (some ⟨B,3,none⟩)),(.bool a),(.int .i64 y2),(.int .i64 o2),(.pointer (some ⟨B,4,none⟩)),(.int .i64 h),(.int .i64 h1),(.int .i64 h2),(.int .i64 o3)]) (D:=[]) (by kernel_rfl) (by kernel_rfl) (by kernel_rfl) ?_ hS ?_ fin
 ·exact(by repeat (first|exact trivial|refine⟨.inr rfl,?_⟩|refine⟨.inl rfl,?_⟩))
 refine qfhu.pu rfl rfl rfl rfl (fun w hS=>q0b3 rfl) ?_;refine qfhu.pu rfl rfl rfl rfl (fun w hS=>qnwy rfl (K1 w hS)) ?_;refine qfhu.pu rfl rfl rfl rfl (fun w hS=>qv14 rfl e1) ?_;refine qfhu.pu rfl rfl rfl rfl (fun w hS=>qzzw rfl e2) ?_;refine qfhu.pu rfl rfl rfl rfl (fun w hS=>qqv5 rfl) ?_;refine qfhu.pu rfl rfl rfl rfl (fun w hS=>q7eg rfl (K2 w hS)) ?_;refine qfhu.ca rfl rfl rfl rfl (fun w=>qpjl.enter2 func200 rfl rfl rfl) H0 ?_;refine qfhu.pu rfl rfl rfl rfl (fun w hS=>q0il rfl rfl f1) ?_;refine qfhu.pu rfl rfl rfl rfl (fun w hS=>qw8p rfl) ?_;refine qfhu.pu rfl rfl rfl rfl (fun w hS=>q7eg rfl (K3 w hS)) ?_;refine qfhu.ca rfl rfl rfl rfl (fun w=>qpjl.enter2 func200 rfl rfl rfl) H1 ?_;refine qfhu.pu rfl rfl rfl rfl (fun w hS=>q0il rfl rfl f2) ?_;refine qfhu.pu rfl rfl rfl rfl (fun w hS=>q7bm rfl) ?_;refine qfhu.pu rfl rfl rfl rfl (fun w hS=>qnwy rfl (K4 w hS)) ?_;refine qfhu.pu rfl rfl rfl rfl (fun w hS=>qv14 rfl e3) ?_;refine qfhu.pu rfl rfl rfl rfl (fun w hS=>qzzw rfl e4) ?_;refine qfhu.pu rfl rfl rfl rfl (fun w hS=>q0il rfl rfl f3) ?_;refine qfhu.pu rfl rfl rfl rfl (fun w hS=>rfl) ?_;exact qfhu.All.fin rfl
theorem q1zb(q:Int):bits .and .i64 (IntKind.i64.wrap (q*1)) 3=q%4:=by
 have h3:(BitVec.ofInt 64 3).toNat=2^2-1:=by decide
 have key:∀n:Int,(BitVec.ofInt 64 n &&& BitVec.ofInt 64 3).toNat=(n%((2^64:Nat):Int)).toNat%2^2:=fun n=>by rw[BitVec.toNat_and,BitVec.toNat_ofInt,h3,Nat.and_two_pow_sub_one_eq_mod]
 show IntKind.i64.wrap ((BitVec.ofInt 64 (IntKind.i64.wrap (q*1)) &&& BitVec.ofInt 64 3).toNat:Nat)=q%4;rw[key,IntKind.wrap_i64,IntKind.wrap_i64];omega
theorem qxbr(h:Int):bits .and .i64 (IntKind.i64.wrap (h*16)) 48=16*(h%4):=by
 have h3:(BitVec.ofInt 64 48).toNat=3 <<< 4:=by decide
 have key:∀n:Int,(BitVec.ofInt 64 n &&& BitVec.ofInt 64 48).toNat=(n%((2^64:Nat):Int)).toNat &&& 3 <<< 4:=fun n=>by rw[BitVec.toNat_and,BitVec.toNat_ofInt,h3]
 show IntKind.i64.wrap ((BitVec.ofInt 64 (IntKind.i64.wrap (h*16)) &&& BitVec.ofInt 64 48).toNat:Nat)=16*(h%4)
 rw[key,IntKind.wrap_i64,IntKind.wrap_i64];obtain⟨m,hm⟩:∃m:Nat,(((h*16+9223372036854775808)%18446744073709551616-9223372036854775808)%((2^64:Nat):Int)).toNat=m <<< 4/\(m:Int)%4=h%4:=by
  refine⟨(((h*16+9223372036854775808)%18446744073709551616-9223372036854775808)%((2^64:Nat):Int)).toNat / 16,?_,?_⟩
  ·rw[Nat.shiftLeft_eq];omega
  ·omega
 rw[hm.1,<-Nat.shiftLeft_and_distrib,show(3:Nat)=2^2-1 from rfl,Nat.and_two_pow_sub_one_eq_mod,Nat.shiftLeft_eq];omega
theorem q82s:∀(n a:Bool) (q h:Nat),q<4->h<4->bits .or .i64 (bits .or .i64 (bits .or .i64 (q:Int) ((bitC n 4:Nat):Int)) ((bitC a 8:Nat):Int)) (16*(h:Int))=((q+16*h+bitC n 4+bitC a 8:Nat):Int):=by
 intro n a q h hq hh;obtain rfl|rfl|rfl|rfl:q=0\/q=1\/q=2\/q=3:=by omega
 all_goals obtain rfl|rfl|rfl|rfl:h=0\/h=1\/h=2\/h=3:=by omega
 all_goals (revert n a;decide+kernel)
theorem q3gr(f:Fi)(w:World):Calls prog 154 #[.agg (fiC f)] w fun e w'=>e=.returned (.int .i64 (qang f:Nat))/\Below w.heap.size w w':=by
 have S0:=hid (BxF.made w f);have BI:=hid (fun b k W (h:BxF w f W)=>(q6cn b k W).mono fun e W' (hh:_/\W=W')=>(⟨hh.1,hh.2▸h⟩:_/\BxF w f W'));have hq:f.qos%4=((f.qos%4).toNat:Int):=by omega
 have hh:f.handling%4=((f.handling%4).toNat:Int):=by omega
 have E1:=q1zb f.qos;have E2:=qxbr f.handling;rw[hq] at E1;rw[hh] at E2;have E3:=q82s f.noLocal f.asPub (f.qos%4).toNat (f.handling%4).toNat (by omega) (by omega);have hb:qang f=(f.qos%4).toNat+16*(f.handling%4).toNat+bitC f.noLocal 4+bitC f.asPub 8:=rfl;rw[<-hb] at E3;generalize qang f=R at *;clear hb hq hh;replace E1:=hid E1;replace E2:=hid E2;replace E3:=hid E3;go_in
 go_upto_region 1 with fail
 refine qmri (S:=BxF w f) (B:=w.heap.size) S0.out.draw (fun W h=>h.cell 1) (fun W h=>h.cell 2) (fun W h=>h.cell 3) (fun W h=>h.cell 4) rfl E1.out rfl E2.out rfl rfl E3.out (BI.out f.noLocal 4) (BI.out f.asPub 8) ?_;intro W h;have LO:=hid h.low;clear h;go_wp2;go_ret;exact⟨rfl,LO.out⟩
section
variable{a:Act}{w:World}{d:Option Tmp}{p:String}{af:Array Edge}{gd:Option (Nat×Bool)}{x y z:Tmp}{r:TypeId}
theorem q45x{g:Nat}{z:Int}(hx:a.eval (.tmp x)=.pointer (some ⟨g,0,none⟩))(hc:w.cell? ⟨g,0,none⟩=some (.int .i64 z)) :
 (execOp a.eval {dst:=d,op := .load 3 (.tmp x),type:=3,pos:=p,after:=af,guard:=gd}).run prog w=.ok (.value (.int .i64 z)) w:=by
 generalize a.eval=f at *;go_simp
theorem q0s8{g:Nat}{C:Array Value}(hx:a.eval (.tmp x)=.pointer (some ⟨g,0,none⟩))(hs:C.size=25)(hg:w.heap[g]?=some (.cells C 40 (0,0))) :
 (execOp a.eval {dst:=d,op := .load 40 (.tmp x),type:=40,pos:=p,after:=af,guard:=gd}).run prog w=.ok (.value (.agg C)) w:=by
 unfold execOp;simp only[hx,Instr.loadAt,Instr.sureAddr,Sem.run_bind,Sem.run_pure,Result.andThen_ok,run_loadVar_row w g 40 40 C (0,0) _ hg underlying40 rfl (by rw[hs];exact q5nr)]
end
theorem qikm{Q:Exit->Act->World->Prop}{S:World->Prop}{W:World}{b1 b2:Nat}{v z:Int}{C D:Array Value}{b:Bool}{x2 x3 x4 x5 x6 x7 x8 x9 x10 x11 x12:Value}
 (hS:S W.drew) (hC:C.size=25) (KC:∀w,S w->w.heap[b2]?=some (.cells C 40 (0,0))) (KV:∀w,S w->w.cell? ⟨b1,0,none⟩=some (.int .i64 v))
 (H0:∀w,S w->Calls prog 136 #[(.agg C)] w fun e w'=>e=.returned (.bool true)/\S w')
 (H1:∀w,S w->Calls prog 138 #[(.int .i64 v),(.agg C)] w fun e w'=>e=.returned (.agg D)/\S w')
 (H2:∀w,S w->Calls prog 137 #[(.agg C),(.agg D)] w fun e w'=>e=.returned (.bool b)/\S w')
 (H3:∀w,S w->Calls prog 132 #[(.bool b),.int .i64 2] w fun e w'=>e=.returned (.int .i64 z)/\S w')
 (fin:∀w,S w->Q .normal ⟨#[(.pointer (some ⟨b2,0,none⟩)),(.pointer (some ⟨b1,0,none⟩)),(.int .i64 z),(.agg C),(.bool true),(.bool true),(.agg C),(.int .i64 v),(.agg C),(.agg D),(.bool b),(.bool b),(.int .i64 z)],[]⟩ w) :
 (Code.region 1 (qfhu.opsAt 1 Tryz.f135.body) true).wp prog Q ⟨#[(.pointer (some ⟨b2,0,none⟩)),(.pointer (some ⟨b1,0,none⟩)),x2,x3,x4,x5,x6,x7,x8,x9,x10,x11,x12],[]⟩ W:=by
 refine qfhu.wp_in (ds:=[3,4,5,6,7,8,9,10,11,12,2]) (D:=[]) (by kernel_rfl) (by kernel_rfl) (by kernel_rfl) ?_ hS ?_ (fun w hS=>fin w hS)
 ·exact(by repeat (first|exact trivial|refine⟨.inr rfl,?_⟩|refine⟨.inl rfl,?_⟩))
 refine qfhu.pu rfl rfl rfl rfl (fun w hS=>q0s8 rfl hC (KC w hS)) ?_;refine qfhu.ca rfl rfl rfl rfl (fun w=>qpjl.enter1 func136 rfl rfl) H0 ?_;refine qfhu.pu rfl rfl rfl rfl (fun w hS=>rfl) ?_;refine qfhu.pu rfl rfl rfl rfl (fun w hS=>q0s8 rfl hC (KC w hS)) ?_;refine qfhu.pu rfl rfl rfl rfl (fun w hS=>q45x rfl (KV w hS)) ?_;refine qfhu.pu rfl rfl rfl rfl (fun w hS=>q0s8 rfl hC (KC w hS)) ?_;refine qfhu.ca rfl rfl rfl rfl (fun w=>qpjl.enter2 func138 rfl rfl rfl) H1 ?_;refine qfhu.ca rfl rfl rfl rfl (fun w=>qpjl.enter2 func137 rfl rfl rfl) H2 ?_;refine qfhu.pu rfl rfl rfl rfl (fun w hS=>rfl) ?_;refine qfhu.ca rfl rfl rfl rfl (fun w=>qpjl.enter2 func132 rfl rfl rfl) H3 ?_;refine qfhu.pu rfl rfl rfl rfl (fun w hS=>rfl) ?_;exact qfhu.All.fin rfl
theorem qjt8{Q:Exit->Act->World->Prop}{S:World->Prop}{W:World}{b1 b2:Nat}{z:Int}{C:Array Value}{x2 x3 x4 x5 x6 x7 x8 x9 x10 x11 x12:Value}
 (hS:S W.drew) (hC:C.size=25) (KC:∀w,S w->w.heap[b2]?=some (.cells C 40 (0,0)))
 (H0:∀w,S w->Calls prog 136 #[(.agg C)] w fun e w'=>e=.returned (.bool false)/\S w')
 (H1:∀w,S w->Calls prog 132 #[(.bool false),.int .i64 2] w fun e w'=>e=.returned (.int .i64 z)/\S w')
 (fin:∀w,S w->Q .normal ⟨#[(.pointer (some ⟨b2,0,none⟩)),(.pointer (some ⟨b1,0,none⟩)),(.int .i64 z),(.agg C),(.bool false),(.bool false),undef,undef,undef,undef,undef,(.bool false),(.int .i64 z)],[]⟩ w) :
 (Code.region 1 (qfhu.opsAt 1 Tryz.f135.body) true).wp prog Q ⟨#[(.pointer (some ⟨b2,0,none⟩)),(.pointer (some ⟨b1,0,none⟩)),x2,x3,x4,x5,x6,x7,x8,x9,x10,x11,x12],[]⟩ W:=by
 refine qfhu.wp_in (ds:=[3,4,5,6,7,8,9,10,11,12,2]) (D:=[]) (by kernel_rfl) (by kernel_rfl) (by kernel_rfl) ?_ hS ?_ (fun w hS=>fin w hS)
 ·exact(by repeat (first|exact trivial|refine⟨.inr rfl,?_⟩|refine⟨.inl rfl,?_⟩))
 refine qfhu.pu rfl rfl rfl rfl (fun w hS=>q0s8 rfl hC (KC w hS)) ?_;refine qfhu.ca rfl rfl rfl rfl (fun w=>qpjl.enter1 func136 rfl rfl) H0 ?_
 iterate 7 (first|refine qfhu.sk rfl rfl rfl rfl ?_|refine qfhu.pu rfl rfl rfl rfl (fun w hS=>rfl) ?_)
 refine qfhu.ca rfl rfl rfl rfl (fun w=>qpjl.enter2 func132 rfl rfl rfl) H1 ?_;refine qfhu.pu rfl rfl rfl rfl (fun w hS=>rfl) ?_;exact qfhu.All.fin rfl
def Runs(f:Nat):Prop:=∃fn:Func,prog.funcs[f]?=some fn/\(fn.name=="runtime.NumGoroutine" || fn.body.isNone)=false
section
variable{a:Act}{w:World}{d:Option Tmp}{p:String}{af:Array Edge}{gd:Option (Nat×Bool)}{x y z:Tmp}{r:TypeId}
theorem qwfj{ts:Array TypeId}{F:Nat}{v:Value}(hF:Runs F)(hx:a.eval (.tmp x)=fnV F)(hy:a.eval (.tmp y)=v) :
 (execOp a.eval {dst:=d,op := .call {callee := .value (.tmp x),args:=#[.tmp y],argTypes:=ts},type:=r,pos:=p,after:=af,guard:=gd}).run prog w=.ok (.enter F #[v]) w:=by
 obtain⟨fn,h1,h2⟩:=hF;have h:=qpjl.calls_go h1 h2 (w:=w) #[v];subst hy;unfold execOp;simp only[resolve,hx];simpa [Deferred.ofValue,invoke] using h
theorem q0c2{b:Nat}{k:Int}{f g:Nat}(hx:a.eval (.tmp x)=.map (some b))(hy:a.eval (.tmp y)=.int .i64 k)(h:qvkg w b)(h0:1<=k)(h1:k<=15)(hl:q1n3 noW qtav k=wayV f g) :
 (execOp a.eval {dst:=d,op := .lookup 100 (.tmp x) (.tmp y) false,type:=r,pos:=p,after:=af,guard:=gd}).run prog w=.ok (.value (wayV f g)) w:=by
 unfold execOp;simp only[hx,hy,Sem.run_bind,h.look h0 h1,hl,Result.andThen_ok,Sem.run_pure]
theorem qmbw{f g:Nat}(hx:a.eval (.tmp x)=wayV f g) :
 (execOp a.eval {dst:=d,op := .field 99 (.tmp x) 1,type:=r,pos:=p,after:=af,guard:=gd}).run prog w=.ok (.value (fnV g)) w:=by
 have h:(Instr.field 99 (wayV f g) 1).run prog w=.ok (fnV g) w:=by kernel_rfl
 unfold execOp;simp only[hx,Sem.run_bind,h,Result.andThen_ok,Sem.run_pure]
end
end Go.Proofs.YtlhkgidoaggodaaGreatDoor
