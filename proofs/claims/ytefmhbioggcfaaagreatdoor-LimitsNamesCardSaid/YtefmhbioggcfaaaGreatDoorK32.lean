/- Operations of a region upon a packet in a box: its fields' addresses, loads, comparisons. No condition. -/
import Derived.Test.YtefmhbioggcfaaaGreatDoorK05
import Derived.Test.YtefmhbioggcfaaaGreatDoorK17
set_option maxRecDepth 100000
set_option maxHeartbeats 8000000
namespace Go.Proofs.YtefmhbioggcfaaaGreatDoor
open Lib(hid)
open Proofs.Tryz
open Go.RowKit
section
variable{a:Act}{w:World}{d:Option Tmp}{p:String}{af:Array Edge}{gd:Option (Nat×Bool)}{x y z:Tmp}{r:TypeId}
theorem qjuh{g:Nat}{C:Array Value}(hx:a.eval (.tmp x)=.pointer (some ⟨g,0,none⟩))(hs:C.size=25)(hg:w.heap[g]?=some (.cells C 38 (0,0))) :
 (execOp a.eval {dst:=d,op := .load 38 (.tmp x),type:=38,pos:=p,after:=af,guard:=gd}).run prog w=.ok (.value (.agg C)) w:=by
 unfold execOp;simp only[hx,Instr.loadAt,Instr.sureAddr,Sem.run_bind,Sem.run_pure,Result.andThen_ok,run_loadVar_row w g 38 38 C (0,0) _ hg underlying38 rfl (by rw[hs];exact q5nr)]
theorem qd7q{g:Nat}(hx:a.eval (.tmp x)=.pointer (some ⟨g,0,none⟩)) :
 (execOp a.eval {dst:=d,op := .fieldAddr 38 (.tmp x) 0,type:=r,pos:=p,after:=af,guard:=gd}).run prog w=.ok (.value (.pointer (some ⟨g,0,none⟩))) w:=by
 generalize a.eval=f at *;go_simp
theorem q43k{g:Nat}(hx:a.eval (.tmp x)=.pointer (some ⟨g,0,none⟩)) :
 (execOp a.eval {dst:=d,op := .fieldAddr 38 (.tmp x) 4,type:=r,pos:=p,after:=af,guard:=gd}).run prog w=.ok (.value (.pointer (some ⟨g,4,none⟩))) w:=by
 generalize a.eval=f at *;go_simp
theorem q0yj{g:Nat}(hx:a.eval (.tmp x)=.pointer (some ⟨g,0,none⟩)) :
 (execOp a.eval {dst:=d,op := .fieldAddr 38 (.tmp x) 17,type:=r,pos:=p,after:=af,guard:=gd}).run prog w=.ok (.value (.pointer (some ⟨g,21,none⟩))) w:=by
 generalize a.eval=f at *;go_simp
theorem qkcv{g j:Nat}{n:Int}(hx:a.eval (.tmp x)=.pointer (some ⟨g,j,none⟩))(hc:w.cell? ⟨g,j,none⟩=some (.int .i64 n)) :
 (execOp a.eval {dst:=d,op := .load 3 (.tmp x),type:=3,pos:=p,after:=af,guard:=gd}).run prog w=.ok (.value (.int .i64 n)) w:=by
 generalize a.eval=f at *;go_simp
theorem qyhu{n c:Int}{b:Bool}(hx:a.eval (.tmp x)=.int .i64 n)(hb:decide (c<n)=b) :
 (execOp a.eval {dst:=d,op := .binOp .gtr 3 (.tmp x) (.const (.int .i64 c)) 3,type:=r,pos:=p,after:=af,guard:=gd}).run prog w=.ok (.value (.bool b)) w:=by
 subst hb;have hc:a.eval (.const (.int .i64 c))=.int .i64 c:=rfl;generalize a.eval=f at *;go_simp
theorem qbhz{n c:Int}{b:Bool}(hx:a.eval (.tmp x)=.int .i64 n)(hb:decide (n<=c)=b) :
 (execOp a.eval {dst:=d,op := .binOp .leq 3 (.tmp x) (.const (.int .i64 c)) 3,type:=r,pos:=p,after:=af,guard:=gd}).run prog w=.ok (.value (.bool b)) w:=by
 subst hb;have hc:a.eval (.const (.int .i64 c))=.int .i64 c:=rfl;generalize a.eval=f at *;go_simp
end
section
variable{a:Act}{w:World}{d:Option Tmp}{p:String}{af:Array Edge}{gd:Option (Nat×Bool)}{x y z:Tmp}{r:TypeId}
theorem qkf4{g:Nat}(hx:a.eval (.tmp x)=.pointer (some ⟨g,0,none⟩)) :
 (execOp a.eval {dst:=d,op := .nilCheck (.tmp x),type:=r,pos:=p,after:=af,guard:=gd}).run prog w=.ok (.value (.pointer (some ⟨g,0,none⟩))) w:=by
 generalize a.eval=f at *;go_simp
end
theorem qv1p{Q:Exit->Act->World->Prop}{S:Option (Option Addr×Nat)->World->Prop}{W:World}{B cb n:Nat}{kind k f:Int}{t:ByteArray}{x2 x3 x4 x5 x6 x7 x8 x9 x10 x11 x12 x13 x14 x15 x16 x17 x18 x19 x20 x21 x22 x23 x24 x25 x26 x27 x28 x29 x30 x31 x32 x33 x34 x35 x36 x37 x38 x39 x40:Value}
 (hS:S none W.drew) (K0:∀x w,S x w->w.cell? ⟨B,0,none⟩=some (.int .i64 kind))
 (H0:∀x w,S x w->Calls prog 45 #[(.pointer (some ⟨cb,0,none⟩))] w fun e w'=>e=.returned (.string t)/\S x w')
 (H1:∀x w,S x w->Calls prog 168 #[.int .i64 kind,.string t] w fun e w'=>∃A c,e=.returned (.tuple #[.slice A n c,.int .i64 k,.int .i64 f])/\S (some (A,c)) w')
 (fin:∀x w,x.isSome=true->S x w->Q .normal ⟨#[(.pointer (some ⟨cb,0,none⟩)),(.pointer (some ⟨B,0,none⟩)),x2,x3,x4,(.slice (gA x) n (gC x)),(.int .i64 k),(.int .i64 f),x8,x9,x10,x11,x12,x13,x14,x15,x16,x17,x18,x19,(.tuple #[(.slice (gA x) n (gC x)),(.int .i64 k),(.int .i64 f)]),(.pointer (some ⟨B,0,none⟩)),(.pointer (some ⟨B,0,none⟩)),(.pointer (some ⟨B,0,none⟩)),(.int .i64 kind),(.pointer (some ⟨cb,0,none⟩)),(.string t),(.tuple #[(.slice (gA x) n (gC x)),(.int .i64 k),(.int .i64 f)]),(.slice (gA x) n (gC x)),(.int .i64 k),(.int .i64 f),x31,x32,x33,x34,x35,x36,x37,x38,x39,x40],[]⟩ w) :
 (Code.region 6 (qfhu.opsAt 6 Tryz.f173.body) true).wp prog Q ⟨#[(.pointer (some ⟨cb,0,none⟩)),(.pointer (some ⟨B,0,none⟩)),x2,x3,x4,x5,x6,x7,x8,x9,x10,x11,x12,x13,x14,x15,x16,x17,x18,x19,x20,x21,x22,x23,x24,x25,x26,x27,x28,x29,x30,x31,x32,x33,x34,x35,x36,x37,x38,x39,x40],[]⟩ W:=by
 refine q2y4.wp (x:=none) (S:=S) (made:=fun i x=>i=6->x.isSome=true) (war:=[]) (ds:=[21,22,23,24,25,26,27,20,28,29,30,5,6,7]) (A:=[(.pointer (some ⟨cb,0,none⟩)),(.pointer (some ⟨B,0,none⟩)),x2,x3,x4,x5,x6,x7,x8,x9,x10,x11,x12,x13,x14,x15,x16,x17,x18,x19,x20,x21,x22,x23,x24,x25,x26,x27,x28,x29,x30,x31,x32,x33,x34,x35,x36,x37,x38,x39,x40]) (B:=fun x=>[(.pointer (some ⟨cb,0,none⟩)),(.pointer (some ⟨B,0,none⟩)),x2,x3,x4,(.slice (gA x) n (gC x)),(.int .i64 k),(.int .i64 f),x8,x9,x10,x11,x12,x13,x14,x15,x16,x17,x18,x19,(.tuple #[(.slice (gA x) n (gC x)),(.int .i64 k),(.int .i64 f)]),(.pointer (some ⟨B,0,none⟩)),(.pointer (some ⟨B,0,none⟩)),(.pointer (some ⟨B,0,none⟩)),(.int .i64 kind),(.pointer (some ⟨cb,0,none⟩)),(.string t),(.tuple #[(.slice (gA x) n (gC x)),(.int .i64 k),(.int .i64 f)]),(.slice (gA x) n (gC x)),(.int .i64 k),(.int .i64 f),x31,x32,x33,x34,x35,x36,x37,x38,x39,x40]) (D:=[]) (by kernel_rfl) (by kernel_rfl) (by kernel_rfl) ?_ hS ?_ (fun x w hm hS=>fin x w (hm 6 (by decide+kernel) rfl) hS)
 ·exact fun x=>(by repeat (first|exact trivial|refine⟨.inr rfl,?_⟩|refine⟨.inl rfl,?_⟩))
 refine q2y4.All.step rfl (q2y4.Does.pure (val:=fun x=>(.pointer (some ⟨B,0,none⟩))) rfl (fun x h=>absurd h (by decide)) (fun x w hm hS=>⟨rfl,rfl,rfl⟩)) ?_;refine q2y4.All.step rfl (q2y4.Does.pure (val:=fun x=>(.pointer (some ⟨B,0,none⟩))) rfl (fun x h=>absurd h (by decide)) (fun x w hm hS=>⟨rfl,rfl,qkf4 rfl⟩)) ?_;refine q2y4.All.step rfl (q2y4.Does.pure (val:=fun x=>(.pointer (some ⟨B,0,none⟩))) rfl (fun x h=>absurd h (by decide)) (fun x w hm hS=>⟨rfl,rfl,qd7q rfl⟩)) ?_;refine q2y4.All.step rfl (q2y4.Does.pure (val:=fun x=>(.int .i64 kind)) rfl (fun x h=>absurd h (by decide)) (fun x w hm hS=>⟨rfl,rfl,qkcv rfl (K0 x w hS)⟩)) ?_;refine q2y4.All.step rfl (q2y4.Does.pure (val:=fun x=>(.pointer (some ⟨cb,0,none⟩))) rfl (fun x h=>absurd h (by decide)) (fun x w hm hS=>⟨rfl,rfl,rfl⟩)) ?_;refine q2y4.All.step rfl (q2y4.Does.call (val:=fun x=>(.string t)) rfl (fun x h=>absurd h (by decide)) (fun x w hm hS=>⟨rfl,rfl,qpjl.enter1 func45 rfl rfl,H0 x w hS⟩)) ?_;refine q2y4.All.step rfl (fun x w hm hS => .inl ⟨rfl,.call _ _ (qpjl.enter2 func168 rfl rfl rfl) ((H1 x w hS).mono fun e w' ⟨A,c,he,h1⟩=>⟨_,some (A,c),he,(fun d hd=>by cases hd;rfl),h1,(fun _=>rfl),(fun i _ _=>rfl),[27,20,28,5],by kernel_rfl,(by repeat (first|exact trivial|refine⟨.inr rfl,?_⟩|refine⟨.inl rfl,?_⟩))⟩)⟩) ?_;refine q2y4.All.step rfl (q2y4.Does.pure (val:=fun x=>(.tuple #[(.slice (gA x) n (gC x)),(.int .i64 k),(.int .i64 f)])) rfl (fun x h=>absurd h (by decide)) (fun x w hm hS=>⟨rfl,rfl,rfl⟩)) ?_;refine q2y4.All.step rfl (q2y4.Does.pure (val:=fun x=>(.slice (gA x) n (gC x))) rfl (fun x h=>absurd h (by decide)) (fun x w hm hS=>⟨rfl,rfl,rfl⟩)) ?_;refine q2y4.All.step rfl (q2y4.Does.pure (val:=fun x=>(.int .i64 k)) rfl (fun x h=>absurd h (by decide)) (fun x w hm hS=>⟨rfl,rfl,rfl⟩)) ?_;refine q2y4.All.step rfl (q2y4.Does.pure (val:=fun x=>(.int .i64 f)) rfl (fun x h=>absurd h (by decide)) (fun x w hm hS=>⟨rfl,rfl,rfl⟩)) ?_;refine q2y4.All.step rfl (q2y4.Does.pure (val:=fun x=>(.slice (gA x) n (gC x))) rfl (fun x h=>absurd h (by decide)) (fun x w hm hS=>⟨rfl,rfl,rfl⟩)) ?_;refine q2y4.All.step rfl (q2y4.Does.pure (val:=fun x=>(.int .i64 k)) rfl (fun x h=>absurd h (by decide)) (fun x w hm hS=>⟨rfl,rfl,rfl⟩)) ?_;refine q2y4.All.step rfl (q2y4.Does.pure (val:=fun x=>(.int .i64 f)) rfl (fun x h=>absurd h (by decide)) (fun x w hm hS=>⟨rfl,rfl,rfl⟩)) ?_;exact q2y4.All.fin rfl
section
variable{a:Act}{w:World}{d:Option Tmp}{p:String}{af:Array Edge}{gd:Option (Nat×Bool)}{x y z:Tmp}{r:TypeId}
theorem qn4o{g:Nat}{D old:Array Value}(hx:a.eval (.tmp x)=.pointer (some ⟨g,0,none⟩))(hy:a.eval (.tmp y)=.agg D)(hD:D.size=25)(h1:D.all (·.oneCell')=true)(hg:w.heap[g]?=some (.cells old 38 (0,0)))(ho:old.size=25) :
 (execOp a.eval {dst:=d,op := .store 38 (.tmp x) (.tmp y),type:=r,pos:=p,after:=af,guard:=gd}).run prog w=.ok .skip (w.setRow g D):=by
 unfold execOp;simp only[hx,hy,Instr.storeAt,Instr.sureAddr,Sem.run_bind,Sem.run_pure,Result.andThen_ok,run_storeVar_row w g 38 38 old D hg (by rw[hD];exact q5nr) (by rw[ho,hD]) h1]
end
theorem q55m{Q:Exit->Act->World->Prop}{S:World->Prop}{W:World}{b B cb:Nat}{f:Int}{C:Array Value}{x0 x1 x3 x4 x5 x7 x9 x10 x11 x12 x13 x14 x15 x16 x17 x18 x19 x20 x21 x22 x23 x24 x25 x26 x27 x28 x29 x30 x31 x32 x33 x34 x35 x36 x37:Value}
 (hS:S W.drew) (hC:C.size=25) (h1:C.all (·.oneCell')=true) (hb:B≠b) (KB:∀w,S w->w.heap[B]?=some (.cells C 38 (0,0))) (KR:∀w,S w->∃old,w.heap[b]?=some (.cells old 38 (0,0))/\old.size=25)
 (H0:∀w,S w->Calls prog 42 #[(.pointer (some ⟨cb,0,none⟩))] w fun e w'=>e=.returned (.int .i64 f)/\w=w')
 (H1:∀w,S w->Calls prog 42 #[(.pointer (some ⟨cb,0,none⟩))] (w.setRow b C) fun e w'=>e=.returned (.int .i64 f)/\w.setRow b C=w')
 (fin:∀w,S w->Q .normal ⟨#[x0,x1,(.pointer (some ⟨cb,0,none⟩)),x3,x4,x5,(.pointer (some ⟨b,0,none⟩)),(.int .i64 f),(.pointer (some ⟨B,0,none⟩)),x9,x10,x11,x12,x13,x14,x15,x16,x17,x18,x19,x20,x21,x22,x23,x24,x25,x26,x27,x28,x29,x30,x31,x32,x33,x34,(.agg C),(.pointer (some ⟨cb,0,none⟩)),(.int .i64 f)],[]⟩ (w.setRow b C)) :
 (Code.region 7 (qfhu.opsAt 7 Tryz.f135.body) true).wp prog Q ⟨#[x0,x1,(.pointer (some ⟨cb,0,none⟩)),x3,x4,x5,(.pointer (some ⟨b,0,none⟩)),x7,(.pointer (some ⟨B,0,none⟩)),x9,x10,x11,x12,x13,x14,x15,x16,x17,x18,x19,x20,x21,x22,x23,x24,x25,x26,x27,x28,x29,x30,x31,x32,x33,x34,x35,x36,x37],[]⟩ W:=by
 refine q2y4.wp (x:=false) (S:=fun x W=>∃V,S V/\W=if x=true then V.setRow b C else V) (made:=fun i x=>i=3->x=true) (war:=[]) (ds:=[35,36,37,7]) (A:=[x0,x1,(.pointer (some ⟨cb,0,none⟩)),x3,x4,x5,(.pointer (some ⟨b,0,none⟩)),x7,(.pointer (some ⟨B,0,none⟩)),x9,x10,x11,x12,x13,x14,x15,x16,x17,x18,x19,x20,x21,x22,x23,x24,x25,x26,x27,x28,x29,x30,x31,x32,x33,x34,x35,x36,x37]) (B:=fun x=>[x0,x1,(.pointer (some ⟨cb,0,none⟩)),x3,x4,x5,(.pointer (some ⟨b,0,none⟩)),(.int .i64 f),(.pointer (some ⟨B,0,none⟩)),x9,x10,x11,x12,x13,x14,x15,x16,x17,x18,x19,x20,x21,x22,x23,x24,x25,x26,x27,x28,x29,x30,x31,x32,x33,x34,(.agg C),(.pointer (some ⟨cb,0,none⟩)),(.int .i64 f)]) (D:=[]) (by kernel_rfl) (by kernel_rfl) (by kernel_rfl) ?_ ⟨_,hS,rfl⟩ ?_ (fun x w hm hS=>by obtain⟨V,hV,hw⟩:=hS;obtain rfl:=hm 3 (by decide+kernel) rfl;subst hw;exact fin V hV)
 ·exact fun x=>(by repeat (first|exact trivial|refine⟨.inr rfl,?_⟩|refine⟨.inl rfl,?_⟩))
 refine q2y4.All.step rfl (q2y4.Does.pure (val:=fun x=>(.agg C)) rfl (fun x h=>absurd h (by decide)) (fun x w hm hS=>⟨rfl,rfl,qjuh rfl hC (by
  obtain⟨V,hV,hw⟩:=hS;subst hw;cases x
  ·exact KB V hV
  ·exact(setRow_other V b B C hb).trans (KB V hV))⟩)) ?_
 refine q2y4.All.step rfl (q2y4.Does.pure (val:=fun x=>(.pointer (some ⟨cb,0,none⟩))) rfl (fun x h=>absurd h (by decide)) (fun x w hm hS=>⟨rfl,rfl,rfl⟩)) ?_;refine q2y4.All.step rfl (q2y4.Does.call (val:=fun x=>(.int .i64 f)) rfl (fun x h=>absurd h (by decide)) (fun x w hm hS=>⟨rfl,rfl,qpjl.enter1 func42 rfl rfl,by
  obtain⟨V,hV,hw⟩:=hS;subst hw;cases x
  ·exact(H0 V hV).mono fun e w' ⟨he,hk⟩=>⟨he,V,hV,hk.symm⟩
  ·exact(H1 V hV).mono fun e w' ⟨he,hk⟩=>⟨he,V,hV,hk.symm⟩⟩)) ?_
 refine q2y4.All.step rfl (fun x w hm hS=>by
  obtain⟨V,hV,hw⟩:=hS;obtain⟨old,ho,hs⟩:=KR V hV;refine .inl ⟨rfl,.skip true (V.setRow b C) ?_ ⟨fun d hd=>(by cases hd),⟨V,hV,rfl⟩,fun _=>rfl,fun i h e=>rfl,[],rfl,q2y4.off_refl 0 _⟩⟩;subst hw;cases x
  ·exact qn4o rfl rfl hC h1 ho hs
  ·exact(qn4o rfl rfl hC h1 (setRow_heap V b old C _ _ ho) hC).trans (by rw[setRow_setRow])) ?_
 refine q2y4.All.step rfl (q2y4.Does.pure (val:=fun x=>(.int .i64 f)) rfl (fun x h=>absurd h (by decide)) (fun x w hm hS=>⟨rfl,rfl,rfl⟩)) ?_;exact q2y4.All.fin rfl
theorem qm47{Q:Exit->Act->World->Prop}{S:World->Prop}{W:World}{B:Nat}{v k i c:Int}{C D:Array Value}{m s:Bool}{x1 x2 x5 x6 x7 x8 x9 x10 x11 x12 x13 x14 x15 x16 x17 x18 x19 x20 x21 x22 x23 x24 x25 x26 x27 x28 x29 x30 x31 x32:Value}
 (hS:S W.drew)
 (hC:C.size=25) (KC:∀w,S w->w.heap[B]?=some (.cells C 38 (0,0))) (K0:∀w,S w->w.cell? ⟨B,0,none⟩=some (.int .i64 k)) (K4:∀w,S w->w.cell? ⟨B,4,none⟩=some (.int .i64 i)) (K21:∀w,S w->w.cell? ⟨B,21,none⟩=some (.int .i64 c))
 (H0:∀w,S w->Calls prog 134 #[.int .i64 v,.int .i64 k] w fun e w'=>e=.returned (.bool (versC v&&qvya k))/\S w')
 (H1:∀w,S w->Calls prog 209 #[.int .i64 k,.int .i64 c] w fun e w'=>e=.returned (.bool m)/\S w')
 (H2:∀w,S w->Calls prog 210 #[.int .i64 v,.agg C] w fun e w'=>e=.returned (.agg D)/\S w')
 (H3:∀w,S w->Calls prog 162 #[.agg C,.agg D] w fun e w'=>e=.returned (.bool s)/\S w')
 (fin:∀(r:Bool) (w:World),(versC v&&qvya k&&decide (0<i)&&decide (i<=65535)&&m&&s)=r->S w->∀x5 x6 x7 x8 x9 x10 x11 x12 x13 x14 x15 x16 x17 x18 x19 x20 x21 x22 x23 x24 x25 x26 x27 x28 x29 x30 x31 x32,Q .normal ⟨#[(.int .i64 v),x1,x2,(.pointer (some ⟨B,0,none⟩)),(.bool r),x5,x6,x7,x8,x9,x10,x11,x12,x13,x14,x15,x16,x17,x18,x19,x20,x21,x22,x23,x24,x25,x26,x27,x28,x29,x30,x31,x32],[]⟩ w) :
 (Code.region 1 (qfhu.opsAt 1 Tryz.f169.body) true).wp prog Q ⟨#[(.int .i64 v),x1,x2,(.pointer (some ⟨B,0,none⟩)),(.bool false),x5,x6,x7,x8,x9,x10,x11,x12,x13,x14,x15,x16,x17,x18,x19,x20,x21,x22,x23,x24,x25,x26,x27,x28,x29,x30,x31,x32],[]⟩ W:=by
 obtain⟨d0,ed0⟩:∃d,(versC v&&qvya k)=d:=⟨_,rfl⟩
 obtain⟨d1,ed1⟩:∃d,(decide (0<i))=d:=⟨_,rfl⟩
 obtain⟨d2,ed2⟩:∃d,(decide (i<=65535))=d:=⟨_,rfl⟩
 obtain⟨d3,ed3⟩:∃d,(m)=d:=⟨_,rfl⟩
 obtain⟨d4,ed4⟩:∃d,(s)=d:=⟨_,rfl⟩
 rw[ed0,ed1,ed2,ed3,ed4] at fin;rw[ed0] at H0;rw[ed3] at H1;rw[ed4] at H3;cases d0
 case' false=>refine qfhu.wp_in (ds:=[5,6,7,8,9,10,11,12,13,14,15,16,17,18,19,20,21,22,23,24,25,26,27,28,29,30,31,32,4]) (B:=[(.int .i64 v),x1,x2,(.pointer (some ⟨B,0,none⟩)),(.bool false),(.int .i64 v),(.pointer (some ⟨B,0,none⟩)),(.int .i64 k),(.bool false),(.bool false),undef,undef,undef,(.bool false),(.bool false),undef,undef,undef,(.bool false),(.bool false),undef,undef,undef,undef,undef,(.bool false),(.bool false),undef,undef,undef,undef,undef,(.bool false)]) (D:=[]) (by kernel_rfl) (by kernel_rfl) (by kernel_rfl) ?_ hS ?_ (fun w hS=>fin false w rfl hS _ _ _ _ _ _ _ _ _ _ _ _ _ _ _ _ _ _ _ _ _ _ _ _ _ _ _ _)
 case' true=>
  cases d1
  case' false=>refine qfhu.wp_in (ds:=[5,6,7,8,9,10,11,12,13,14,15,16,17,18,19,20,21,22,23,24,25,26,27,28,29,30,31,32,4]) (B:=[(.int .i64 v),x1,x2,(.pointer (some ⟨B,0,none⟩)),(.bool false),(.int .i64 v),(.pointer (some ⟨B,0,none⟩)),(.int .i64 k),(.bool true),(.bool true),(.pointer (some ⟨B,4,none⟩)),(.int .i64 i),(.bool false),(.bool false),(.bool false),undef,undef,undef,(.bool false),(.bool false),undef,undef,undef,undef,undef,(.bool false),(.bool false),undef,undef,undef,undef,undef,(.bool false)]) (D:=[]) (by kernel_rfl) (by kernel_rfl) (by kernel_rfl) ?_ hS ?_ (fun w hS=>fin false w rfl hS _ _ _ _ _ _ _ _ _ _ _ _ _ _ _ _ _ _ _ _ _ _ _ _ _ _ _ _)
  case' true=>
   cases d2
   case' false=>refine qfhu.wp_in (ds:=[5,6,7,8,9,10,11,12,13,14,15,16,17,18,19,20,21,22,23,24,25,26,27,28,29,30,31,32,4]) (B:=[(.int .i64 v),x1,x2,(.pointer (some ⟨B,0,none⟩)),(.bool false),(.int .i64 v),(.pointer (some ⟨B,0,none⟩)),(.int .i64 k),(.bool true),(.bool true),(.pointer (some ⟨B,4,none⟩)),(.int .i64 i),(.bool true),(.bool true),(.bool true),(.pointer (some ⟨B,4,none⟩)),(.int .i64 i),(.bool false),(.bool false),(.bool false),undef,undef,undef,undef,undef,(.bool false),(.bool false),undef,undef,undef,undef,undef,(.bool false)]) (D:=[]) (by kernel_rfl) (by kernel_rfl) (by kernel_rfl) ?_ hS ?_ (fun w hS=>fin false w rfl hS _ _ _ _ _ _ _ _ _ _ _ _ _ _ _ _ _ _ _ _ _ _ _ _ _ _ _ _)
   case' true=>
    cases d3
    case' false=>refine qfhu.wp_in (ds:=[5,6,7,8,9,10,11,12,13,14,15,16,17,18,19,20,21,22,23,24,25,26,27,28,29,30,31,32,4]) (B:=[(.int .i64 v),x1,x2,(.pointer (some ⟨B,0,none⟩)),(.bool false),(.int .i64 v),(.pointer (some ⟨B,0,none⟩)),(.int .i64 k),(.bool true),(.bool true),(.pointer (some ⟨B,4,none⟩)),(.int .i64 i),(.bool true),(.bool true),(.bool true),(.pointer (some ⟨B,4,none⟩)),(.int .i64 i),(.bool true),(.bool true),(.bool true),(.pointer (some ⟨B,0,none⟩)),(.int .i64 k),(.pointer (some ⟨B,21,none⟩)),(.int .i64 c),(.bool false),(.bool false),(.bool false),undef,undef,undef,undef,undef,(.bool false)]) (D:=[]) (by kernel_rfl) (by kernel_rfl) (by kernel_rfl) ?_ hS ?_ (fun w hS=>fin false w rfl hS _ _ _ _ _ _ _ _ _ _ _ _ _ _ _ _ _ _ _ _ _ _ _ _ _ _ _ _)
    case' true=>
     cases d4
     case' false=>refine qfhu.wp_in (ds:=[5,6,7,8,9,10,11,12,13,14,15,16,17,18,19,20,21,22,23,24,25,26,27,28,29,30,31,32,4]) (B:=[(.int .i64 v),x1,x2,(.pointer (some ⟨B,0,none⟩)),(.bool false),(.int .i64 v),(.pointer (some ⟨B,0,none⟩)),(.int .i64 k),(.bool true),(.bool true),(.pointer (some ⟨B,4,none⟩)),(.int .i64 i),(.bool true),(.bool true),(.bool true),(.pointer (some ⟨B,4,none⟩)),(.int .i64 i),(.bool true),(.bool true),(.bool true),(.pointer (some ⟨B,0,none⟩)),(.int .i64 k),(.pointer (some ⟨B,21,none⟩)),(.int .i64 c),(.bool true),(.bool true),(.bool true),(.agg C),(.int .i64 v),(.agg C),(.agg D),(.bool false),(.bool false)]) (D:=[]) (by kernel_rfl) (by kernel_rfl) (by kernel_rfl) ?_ hS ?_ (fun w hS=>fin false w rfl hS _ _ _ _ _ _ _ _ _ _ _ _ _ _ _ _ _ _ _ _ _ _ _ _ _ _ _ _)
     case' true=>refine qfhu.wp_in (ds:=[5,6,7,8,9,10,11,12,13,14,15,16,17,18,19,20,21,22,23,24,25,26,27,28,29,30,31,32,4]) (B:=[(.int .i64 v),x1,x2,(.pointer (some ⟨B,0,none⟩)),(.bool true),(.int .i64 v),(.pointer (some ⟨B,0,none⟩)),(.int .i64 k),(.bool true),(.bool true),(.pointer (some ⟨B,4,none⟩)),(.int .i64 i),(.bool true),(.bool true),(.bool true),(.pointer (some ⟨B,4,none⟩)),(.int .i64 i),(.bool true),(.bool true),(.bool true),(.pointer (some ⟨B,0,none⟩)),(.int .i64 k),(.pointer (some ⟨B,21,none⟩)),(.int .i64 c),(.bool true),(.bool true),(.bool true),(.agg C),(.int .i64 v),(.agg C),(.agg D),(.bool true),(.bool true)]) (D:=[]) (by kernel_rfl) (by kernel_rfl) (by kernel_rfl) ?_ hS ?_ (fun w hS=>fin true w rfl hS _ _ _ _ _ _ _ _ _ _ _ _ _ _ _ _ _ _ _ _ _ _ _ _ _ _ _ _)
 all_goals first
  |(
   refine qfhu.pu rfl rfl rfl rfl (fun w hS=>rfl) ?_;refine qfhu.pu rfl rfl rfl rfl (fun w hS=>qd7q rfl) ?_;refine qfhu.pu rfl rfl rfl rfl (fun w hS=>qkcv rfl (K0 w hS)) ?_;refine qfhu.ca rfl rfl rfl rfl (fun w=>qpjl.enter2 func134 rfl rfl rfl) H0 ?_;refine qfhu.pu rfl rfl rfl rfl (fun w hS=>rfl) ?_
   first|refine qfhu.sk rfl rfl rfl rfl ?_|refine qfhu.pu rfl rfl rfl rfl (fun w hS=>q43k rfl) ?_
   first|refine qfhu.sk rfl rfl rfl rfl ?_|refine qfhu.pu rfl rfl rfl rfl (fun w hS=>qkcv rfl (K4 w hS)) ?_
   first|refine qfhu.sk rfl rfl rfl rfl ?_|refine qfhu.pu rfl rfl rfl rfl (fun w hS=>qyhu rfl ed1) ?_
   refine qfhu.pu rfl rfl rfl rfl (fun w hS=>rfl) ?_;refine qfhu.pu rfl rfl rfl rfl (fun w hS=>rfl) ?_
   first|refine qfhu.sk rfl rfl rfl rfl ?_|refine qfhu.pu rfl rfl rfl rfl (fun w hS=>q43k rfl) ?_
   first|refine qfhu.sk rfl rfl rfl rfl ?_|refine qfhu.pu rfl rfl rfl rfl (fun w hS=>qkcv rfl (K4 w hS)) ?_
   first|refine qfhu.sk rfl rfl rfl rfl ?_|refine qfhu.pu rfl rfl rfl rfl (fun w hS=>qbhz rfl ed2) ?_
   refine qfhu.pu rfl rfl rfl rfl (fun w hS=>rfl) ?_;refine qfhu.pu rfl rfl rfl rfl (fun w hS=>rfl) ?_
   first|refine qfhu.sk rfl rfl rfl rfl ?_|refine qfhu.pu rfl rfl rfl rfl (fun w hS=>qd7q rfl) ?_
   first|refine qfhu.sk rfl rfl rfl rfl ?_|refine qfhu.pu rfl rfl rfl rfl (fun w hS=>qkcv rfl (K0 w hS)) ?_
   first|refine qfhu.sk rfl rfl rfl rfl ?_|refine qfhu.pu rfl rfl rfl rfl (fun w hS=>q0yj rfl) ?_
   first|refine qfhu.sk rfl rfl rfl rfl ?_|refine qfhu.pu rfl rfl rfl rfl (fun w hS=>qkcv rfl (K21 w hS)) ?_
   first|refine qfhu.sk rfl rfl rfl rfl ?_|refine qfhu.ca rfl rfl rfl rfl (fun w=>qpjl.enter2 func209 rfl rfl rfl) H1 ?_
   refine qfhu.pu rfl rfl rfl rfl (fun w hS=>rfl) ?_;refine qfhu.pu rfl rfl rfl rfl (fun w hS=>rfl) ?_
   first|refine qfhu.sk rfl rfl rfl rfl ?_|refine qfhu.pu rfl rfl rfl rfl (fun w hS=>qjuh rfl hC (KC w hS)) ?_
   first|refine qfhu.sk rfl rfl rfl rfl ?_|refine qfhu.pu rfl rfl rfl rfl (fun w hS=>rfl) ?_
   first|refine qfhu.sk rfl rfl rfl rfl ?_|refine qfhu.pu rfl rfl rfl rfl (fun w hS=>qjuh rfl hC (KC w hS)) ?_
   first|refine qfhu.sk rfl rfl rfl rfl ?_|refine qfhu.ca rfl rfl rfl rfl (fun w=>qpjl.enter2 func210 rfl rfl rfl) H2 ?_
   first|refine qfhu.sk rfl rfl rfl rfl ?_|refine qfhu.ca rfl rfl rfl rfl (fun w=>qpjl.enter2 func162 rfl rfl rfl) H3 ?_
   refine qfhu.pu rfl rfl rfl rfl (fun w hS=>rfl) ?_;refine qfhu.pu rfl rfl rfl rfl (fun w hS=>rfl) ?_;exact qfhu.All.fin rfl)
  |exact(by repeat (first|exact trivial|refine⟨.inr rfl,?_⟩|refine⟨.inl rfl,?_⟩))
section
variable{a:Act}{w:World}{d:Option Tmp}{p:String}{af:Array Edge}{gd:Option (Nat×Bool)}{x y z:Tmp}{r:TypeId}
theorem qtsc{g:Nat}{C:Array Value}(hx:a.eval (.tmp x)=.pointer (some ⟨g,0,none⟩))(hs:C.size=25)(hg:w.heap[g]?=some (.cells C 38 (0,0))) :
 (execOp a.eval {dst:=d,op := .load 38 (.tmp x),type:=38,pos:=p,after:=af,guard:=gd}).run prog w=.ok (.value (.agg C)) w:=by
 unfold execOp;simp only[hx,Instr.loadAt,Instr.sureAddr,Sem.run_bind,Sem.run_pure,Result.andThen_ok,run_loadVar_row w g 38 38 C (0,0) _ hg underlying38 rfl (by rw[hs];exact q5nr)]
theorem qb5w{g:Nat}(hx:a.eval (.tmp x)=.pointer (some ⟨g,0,none⟩)) :
 (execOp a.eval {dst:=d,op := .fieldAddr 38 (.tmp x) 18,type:=r,pos:=p,after:=af,guard:=gd}).run prog w=.ok (.value (.pointer (some ⟨g,22,none⟩))) w:=by
 generalize a.eval=f at *;go_simp
theorem qdvg{g:Nat}(hx:a.eval (.tmp x)=.pointer (some ⟨g,0,none⟩)) :
 (execOp a.eval {dst:=d,op := .fieldAddr 38 (.tmp x) 19,type:=r,pos:=p,after:=af,guard:=gd}).run prog w=.ok (.value (.pointer (some ⟨g,23,none⟩))) w:=by
 generalize a.eval=f at *;go_simp
theorem qmir{g:Nat}(hx:a.eval (.tmp x)=.pointer (some ⟨g,0,none⟩)) :
 (execOp a.eval {dst:=d,op := .fieldAddr 38 (.tmp x) 20,type:=r,pos:=p,after:=af,guard:=gd}).run prog w=.ok (.value (.pointer (some ⟨g,24,none⟩))) w:=by
 generalize a.eval=f at *;go_simp
theorem qa2v{g:Nat}(hx:a.eval (.tmp x)=.pointer (some ⟨g,0,none⟩)) :
 (execOp a.eval {dst:=d,op := .fieldAddr 38 (.tmp x) 15,type:=r,pos:=p,after:=af,guard:=gd}).run prog w=.ok (.value (.pointer (some ⟨g,15,none⟩))) w:=by
 generalize a.eval=f at *;go_simp
theorem q4lz{g:Nat}(hx:a.eval (.tmp x)=.pointer (some ⟨g,15,none⟩)) :
 (execOp a.eval {dst:=d,op := .fieldAddr 34 (.tmp x) 4,type:=r,pos:=p,after:=af,guard:=gd}).run prog w=.ok (.value (.pointer (some ⟨g,19,none⟩))) w:=by
 generalize a.eval=f at *;go_simp
theorem qajx{g j n c:Nat}{A:Option Addr}(hx:a.eval (.tmp x)=.pointer (some ⟨g,j,none⟩))(hc:w.cell? ⟨g,j,none⟩=some (.slice A n c)) :
 (execOp a.eval {dst:=d,op := .load 35 (.tmp x),type:=35,pos:=p,after:=af,guard:=gd}).run prog w=.ok (.value (.slice A n c)) w:=by
 generalize a.eval=f at *;go_simp
theorem q352{g j n c:Nat}{A:Option Addr}(hx:a.eval (.tmp x)=.pointer (some ⟨g,j,none⟩))(hc:w.cell? ⟨g,j,none⟩=some (.slice A n c)) :
 (execOp a.eval {dst:=d,op := .load 36 (.tmp x),type:=36,pos:=p,after:=af,guard:=gd}).run prog w=.ok (.value (.slice A n c)) w:=by
 generalize a.eval=f at *;go_simp
theorem qms8{g j n c:Nat}{A:Option Addr}(hx:a.eval (.tmp x)=.pointer (some ⟨g,j,none⟩))(hc:w.cell? ⟨g,j,none⟩=some (.slice A n c)) :
 (execOp a.eval {dst:=d,op := .load 32 (.tmp x),type:=32,pos:=p,after:=af,guard:=gd}).run prog w=.ok (.value (.slice A n c)) w:=by
 generalize a.eval=f at *;go_simp
theorem q3lh{p' q':Pk}{b:Bool}(hx:a.eval (.tmp x)=.agg (q3zb p'))(hy:a.eval (.tmp y)=.agg (q3zb q'))(hb:decide (p'.nums=q'.nums)=b) :
 (execOp a.eval {dst:=d,op := .binOp .eql 222 (.tmp x) (.tmp y) 222,type:=r,pos:=p,after:=af,guard:=gd}).run prog w=.ok (.value (.bool b)) w:=by
 subst hb;unfold execOp;simp only[hx,hy,Sem.run_bind,run_eqGuard_agg w .eql 222 (.tmp x) (.tmp y) _ _ (show prog.eqGuardType prog.depth 222=false by kernel_rfl),Result.andThen_ok,qh1o p' q' w,Sem.run_pure]
theorem qtwp{p' q':Pk}{b:Bool}(hx:a.eval (.tmp x)=.agg (qjjk p'))(hy:a.eval (.tmp y)=.agg (qjjk q'))(hb:decide (p'.marks=q'.marks)=b) :
 (execOp a.eval {dst:=d,op := .binOp .eql 224 (.tmp x) (.tmp y) 224,type:=r,pos:=p,after:=af,guard:=gd}).run prog w=.ok (.value (.bool b)) w:=by
 subst hb;unfold execOp;simp only[hx,hy,Sem.run_bind,run_eqGuard_agg w .eql 224 (.tmp x) (.tmp y) _ _ (show prog.eqGuardType prog.depth 224=false by kernel_rfl),Result.andThen_ok,quaf p' q' w,Sem.run_pure]
theorem qpii{p' q':Pk}{b:Bool}(hx:a.eval (.tmp x)=.agg (q5cx p'))(hy:a.eval (.tmp y)=.agg (q5cx q'))(hb:decide (p'.texts=q'.texts)=b) :
 (execOp a.eval {dst:=d,op := .binOp .eql 226 (.tmp x) (.tmp y) 226,type:=r,pos:=p,after:=af,guard:=gd}).run prog w=.ok (.value (.bool b)) w:=by
 subst hb;unfold execOp;simp only[hx,hy,Sem.run_bind,run_eqGuard_agg w .eql 226 (.tmp x) (.tmp y) _ _ (show prog.eqGuardType prog.depth 226=false by kernel_rfl),Result.andThen_ok,q6p1 p' q' w,Sem.run_pure]
end
theorem qw00{Q:Exit->Act->World->Prop}{S:World->Prop}{W:World}{p q:Pk}{a b:Ad}{C E:Array Value}{B:Nat}{x5 x6 x7 x8 x9 x10 x11 x12 x13 x14 x15 x16 x17 x18 x19 x20 x21 x22 x23 x24 x25 x26 x27 x28 x29 x30 x31 x32 x33 x34 x35 x36 x37 x38 x39 x40 x41 x42 x43 x44 x45 x46 x47 x48 x49 x50 x51 x52 x53:Value}
 (hS:S W.drew) (hC:C.size=25) (hE:E.size=25) (hS1:∀w,S w->w.heap[B]?=some (.cells C 38 (0,0))) (hS2:∀w,S w->w.heap[B+1]?=some (.cells E 38 (0,0)))
 (N0p:∀w,S w->Calls prog 197 #[.agg C] w fun e w'=>e=.returned (.agg (q3zb p))/\S w')
 (N0q:∀w,S w->Calls prog 197 #[.agg E] w fun e w'=>e=.returned (.agg (q3zb q))/\S w')
 (N1p:∀w,S w->Calls prog 198 #[.agg C] w fun e w'=>e=.returned (.agg (qjjk p))/\S w')
 (N1q:∀w,S w->Calls prog 198 #[.agg E] w fun e w'=>e=.returned (.agg (qjjk q))/\S w')
 (N2p:∀w,S w->Calls prog 199 #[.agg C] w fun e w'=>e=.returned (.agg (q5cx p))/\S w')
 (N2q:∀w,S w->Calls prog 199 #[.agg E] w fun e w'=>e=.returned (.agg (q5cx q))/\S w')
 (hp22:∀w,S w->w.cell? ⟨B,22,none⟩=some (.slice a.cs p.codes.length a.cc))
 (hq22:∀w,S w->w.cell? ⟨B+1,22,none⟩=some (.slice b.cs q.codes.length b.cc))
 (F3:∀w,S w->Calls prog 200 #[(.slice a.cs p.codes.length a.cc),(.slice b.cs q.codes.length b.cc),.func (.func 201) #[] #[]] w fun e w'=>e=.returned (.bool (decide (p.codes=q.codes)))/\S w')
 (hp23:∀w,S w->w.cell? ⟨B,23,none⟩=some (.slice a.fs p.filters.length a.fc))
 (hq23:∀w,S w->w.cell? ⟨B+1,23,none⟩=some (.slice b.fs q.filters.length b.fc))
 (F4:∀w,S w->Calls prog 202 #[(.slice a.fs p.filters.length a.fc),(.slice b.fs q.filters.length b.fc),.func (.func 203) #[] #[]] w fun e w'=>e=.returned (.bool (decide (p.filters=q.filters)))/\S w')
 (hp24:∀w,S w->w.cell? ⟨B,24,none⟩=some (.slice a.ps p.props.length a.pc))
 (hq24:∀w,S w->w.cell? ⟨B+1,24,none⟩=some (.slice b.ps q.props.length b.pc))
 (F5:∀w,S w->Calls prog 204 #[(.slice a.ps p.props.length a.pc),(.slice b.ps q.props.length b.pc),.func (.func 205) #[] #[]] w fun e w'=>e=.returned (.bool (decide (p.props=q.props)))/\S w')
 (hp19:∀w,S w->w.cell? ⟨B,19,none⟩=some (.slice a.w p.wProps.length a.wc))
 (hq19:∀w,S w->w.cell? ⟨B+1,19,none⟩=some (.slice b.w q.wProps.length b.wc))
 (F6:∀w,S w->Calls prog 204 #[(.slice a.w p.wProps.length a.wc),(.slice b.w q.wProps.length b.wc),.func (.func 205) #[] #[]] w fun e w'=>e=.returned (.bool (decide (p.wProps=q.wProps)))/\S w')
 (fin:∀(r:Bool) (w:World),(decide (p.nums=q.nums)&&decide (p.marks=q.marks)&&decide (p.texts=q.texts)&&decide (p.codes=q.codes)&&decide (p.filters=q.filters)&&decide (p.props=q.props)&&decide (p.wProps=q.wProps))=r->S w->∀x5 x6 x7 x8 x9 x10 x11 x12 x13 x14 x15 x16 x17 x18 x19 x20 x21 x22 x23 x24 x25 x26 x27 x28 x29 x30 x31 x32 x33 x34 x35 x36 x37 x38 x39 x40 x41 x42 x43 x44 x45 x46 x47 x48 x49 x50 x51 x52 x53,Q .normal ⟨#[(.agg C),(.agg E),(.pointer (some ⟨B,0,none⟩)),(.pointer (some ⟨B+1,0,none⟩)),(.bool r),x5,x6,x7,x8,x9,x10,x11,x12,x13,x14,x15,x16,x17,x18,x19,x20,x21,x22,x23,x24,x25,x26,x27,x28,x29,x30,x31,x32,x33,x34,x35,x36,x37,x38,x39,x40,x41,x42,x43,x44,x45,x46,x47,x48,x49,x50,x51,x52,x53],[]⟩ w) :
 (Code.region 1 (qfhu.opsAt 1 Tryz.f162.body) true).wp prog Q ⟨#[(.agg C),(.agg E),(.pointer (some ⟨B,0,none⟩)),(.pointer (some ⟨B+1,0,none⟩)),(.bool false),x5,x6,x7,x8,x9,x10,x11,x12,x13,x14,x15,x16,x17,x18,x19,x20,x21,x22,x23,x24,x25,x26,x27,x28,x29,x30,x31,x32,x33,x34,x35,x36,x37,x38,x39,x40,x41,x42,x43,x44,x45,x46,x47,x48,x49,x50,x51,x52,x53],[]⟩ W:=by
 obtain⟨d0,h0⟩:∃d,decide (p.nums=q.nums)=d:=⟨_,rfl⟩
 obtain⟨d1,h1⟩:∃d,decide (p.marks=q.marks)=d:=⟨_,rfl⟩
 obtain⟨d2,h2⟩:∃d,decide (p.texts=q.texts)=d:=⟨_,rfl⟩
 obtain⟨d3,h3⟩:∃d,decide (p.codes=q.codes)=d:=⟨_,rfl⟩
 obtain⟨d4,h4⟩:∃d,decide (p.filters=q.filters)=d:=⟨_,rfl⟩
 obtain⟨d5,h5⟩:∃d,decide (p.props=q.props)=d:=⟨_,rfl⟩
 obtain⟨d6,h6⟩:∃d,decide (p.wProps=q.wProps)=d:=⟨_,rfl⟩
 rw[h0,h1,h2,h3,h4,h5,h6] at fin;rw[h3] at F3;rw[h4] at F4;rw[h5] at F5;rw[h6] at F6;cases d0
 case' false=>refine qfhu.wp_in (ds:=[5,6,7,8,9,10,11,12,13,14,15,16,17,18,19,20,21,22,23,24,25,26,27,28,29,30,31,32,33,34,35,36,37,38,39,40,41,42,43,44,45,46,47,48,49,50,51,52,53,4]) (B:=[(.agg C),(.agg E),(.pointer (some ⟨B,0,none⟩)),(.pointer (some ⟨B+1,0,none⟩)),(.bool false),(.agg C),(.agg (q3zb p)),(.agg E),(.agg (q3zb q)),(.bool false),(.bool false),undef,undef,undef,undef,undef,(.bool false),(.bool false),undef,undef,undef,undef,undef,(.bool false),(.bool false),undef,undef,undef,undef,undef,(.bool false),(.bool false),undef,undef,undef,undef,undef,(.bool false),(.bool false),undef,undef,undef,undef,undef,(.bool false),(.bool false),undef,undef,undef,undef,undef,undef,undef,(.bool false)]) (D:=[]) (by kernel_rfl) (by kernel_rfl) (by kernel_rfl) ?_ hS ?_ (fun w h=>by apply fin<;>first|rfl|exact h)
 case' true=>
  cases d1
  case' false=>refine qfhu.wp_in (ds:=[5,6,7,8,9,10,11,12,13,14,15,16,17,18,19,20,21,22,23,24,25,26,27,28,29,30,31,32,33,34,35,36,37,38,39,40,41,42,43,44,45,46,47,48,49,50,51,52,53,4]) (B:=[(.agg C),(.agg E),(.pointer (some ⟨B,0,none⟩)),(.pointer (some ⟨B+1,0,none⟩)),(.bool false),(.agg C),(.agg (q3zb p)),(.agg E),(.agg (q3zb q)),(.bool true),(.bool true),(.agg C),(.agg (qjjk p)),(.agg E),(.agg (qjjk q)),(.bool false),(.bool false),(.bool false),undef,undef,undef,undef,undef,(.bool false),(.bool false),undef,undef,undef,undef,undef,(.bool false),(.bool false),undef,undef,undef,undef,undef,(.bool false),(.bool false),undef,undef,undef,undef,undef,(.bool false),(.bool false),undef,undef,undef,undef,undef,undef,undef,(.bool false)]) (D:=[]) (by kernel_rfl) (by kernel_rfl) (by kernel_rfl) ?_ hS ?_ (fun w h=>by apply fin<;>first|rfl|exact h)
  case' true=>
   cases d2
   case' false=>refine qfhu.wp_in (ds:=[5,6,7,8,9,10,11,12,13,14,15,16,17,18,19,20,21,22,23,24,25,26,27,28,29,30,31,32,33,34,35,36,37,38,39,40,41,42,43,44,45,46,47,48,49,50,51,52,53,4]) (B:=[(.agg C),(.agg E),(.pointer (some ⟨B,0,none⟩)),(.pointer (some ⟨B+1,0,none⟩)),(.bool false),(.agg C),(.agg (q3zb p)),(.agg E),(.agg (q3zb q)),(.bool true),(.bool true),(.agg C),(.agg (qjjk p)),(.agg E),(.agg (qjjk q)),(.bool true),(.bool true),(.bool true),(.agg C),(.agg (q5cx p)),(.agg E),(.agg (q5cx q)),(.bool false),(.bool false),(.bool false),undef,undef,undef,undef,undef,(.bool false),(.bool false),undef,undef,undef,undef,undef,(.bool false),(.bool false),undef,undef,undef,undef,undef,(.bool false),(.bool false),undef,undef,undef,undef,undef,undef,undef,(.bool false)]) (D:=[]) (by kernel_rfl) (by kernel_rfl) (by kernel_rfl) ?_ hS ?_ (fun w h=>by apply fin<;>first|rfl|exact h)
   case' true=>
    cases d3
    case' false=>refine qfhu.wp_in (ds:=[5,6,7,8,9,10,11,12,13,14,15,16,17,18,19,20,21,22,23,24,25,26,27,28,29,30,31,32,33,34,35,36,37,38,39,40,41,42,43,44,45,46,47,48,49,50,51,52,53,4]) (B:=[(.agg C),(.agg E),(.pointer (some ⟨B,0,none⟩)),(.pointer (some ⟨B+1,0,none⟩)),(.bool false),(.agg C),(.agg (q3zb p)),(.agg E),(.agg (q3zb q)),(.bool true),(.bool true),(.agg C),(.agg (qjjk p)),(.agg E),(.agg (qjjk q)),(.bool true),(.bool true),(.bool true),(.agg C),(.agg (q5cx p)),(.agg E),(.agg (q5cx q)),(.bool true),(.bool true),(.bool true),(.pointer (some ⟨B,22,none⟩)),(.slice a.cs p.codes.length a.cc),(.pointer (some ⟨B+1,22,none⟩)),(.slice b.cs q.codes.length b.cc),(.bool false),(.bool false),(.bool false),undef,undef,undef,undef,undef,(.bool false),(.bool false),undef,undef,undef,undef,undef,(.bool false),(.bool false),undef,undef,undef,undef,undef,undef,undef,(.bool false)]) (D:=[]) (by kernel_rfl) (by kernel_rfl) (by kernel_rfl) ?_ hS ?_ (fun w h=>by apply fin<;>first|rfl|exact h)
    case' true=>
     cases d4
     case' false=>refine qfhu.wp_in (ds:=[5,6,7,8,9,10,11,12,13,14,15,16,17,18,19,20,21,22,23,24,25,26,27,28,29,30,31,32,33,34,35,36,37,38,39,40,41,42,43,44,45,46,47,48,49,50,51,52,53,4]) (B:=[(.agg C),(.agg E),(.pointer (some ⟨B,0,none⟩)),(.pointer (some ⟨B+1,0,none⟩)),(.bool false),(.agg C),(.agg (q3zb p)),(.agg E),(.agg (q3zb q)),(.bool true),(.bool true),(.agg C),(.agg (qjjk p)),(.agg E),(.agg (qjjk q)),(.bool true),(.bool true),(.bool true),(.agg C),(.agg (q5cx p)),(.agg E),(.agg (q5cx q)),(.bool true),(.bool true),(.bool true),(.pointer (some ⟨B,22,none⟩)),(.slice a.cs p.codes.length a.cc),(.pointer (some ⟨B+1,22,none⟩)),(.slice b.cs q.codes.length b.cc),(.bool true),(.bool true),(.bool true),(.pointer (some ⟨B,23,none⟩)),(.slice a.fs p.filters.length a.fc),(.pointer (some ⟨B+1,23,none⟩)),(.slice b.fs q.filters.length b.fc),(.bool false),(.bool false),(.bool false),undef,undef,undef,undef,undef,(.bool false),(.bool false),undef,undef,undef,undef,undef,undef,undef,(.bool false)]) (D:=[]) (by kernel_rfl) (by kernel_rfl) (by kernel_rfl) ?_ hS ?_ (fun w h=>by apply fin<;>first|rfl|exact h)
     case' true=>
      cases d5
      case' false=>refine qfhu.wp_in (ds:=[5,6,7,8,9,10,11,12,13,14,15,16,17,18,19,20,21,22,23,24,25,26,27,28,29,30,31,32,33,34,35,36,37,38,39,40,41,42,43,44,45,46,47,48,49,50,51,52,53,4]) (B:=[(.agg C),(.agg E),(.pointer (some ⟨B,0,none⟩)),(.pointer (some ⟨B+1,0,none⟩)),(.bool false),(.agg C),(.agg (q3zb p)),(.agg E),(.agg (q3zb q)),(.bool true),(.bool true),(.agg C),(.agg (qjjk p)),(.agg E),(.agg (qjjk q)),(.bool true),(.bool true),(.bool true),(.agg C),(.agg (q5cx p)),(.agg E),(.agg (q5cx q)),(.bool true),(.bool true),(.bool true),(.pointer (some ⟨B,22,none⟩)),(.slice a.cs p.codes.length a.cc),(.pointer (some ⟨B+1,22,none⟩)),(.slice b.cs q.codes.length b.cc),(.bool true),(.bool true),(.bool true),(.pointer (some ⟨B,23,none⟩)),(.slice a.fs p.filters.length a.fc),(.pointer (some ⟨B+1,23,none⟩)),(.slice b.fs q.filters.length b.fc),(.bool true),(.bool true),(.bool true),(.pointer (some ⟨B,24,none⟩)),(.slice a.ps p.props.length a.pc),(.pointer (some ⟨B+1,24,none⟩)),(.slice b.ps q.props.length b.pc),(.bool false),(.bool false),(.bool false),undef,undef,undef,undef,undef,undef,undef,(.bool false)]) (D:=[]) (by kernel_rfl) (by kernel_rfl) (by kernel_rfl) ?_ hS ?_ (fun w h=>by apply fin<;>first|rfl|exact h)
      case' true=>
       cases d6
       case' false=>refine qfhu.wp_in (ds:=[5,6,7,8,9,10,11,12,13,14,15,16,17,18,19,20,21,22,23,24,25,26,27,28,29,30,31,32,33,34,35,36,37,38,39,40,41,42,43,44,45,46,47,48,49,50,51,52,53,4]) (B:=[(.agg C),(.agg E),(.pointer (some ⟨B,0,none⟩)),(.pointer (some ⟨B+1,0,none⟩)),(.bool false),(.agg C),(.agg (q3zb p)),(.agg E),(.agg (q3zb q)),(.bool true),(.bool true),(.agg C),(.agg (qjjk p)),(.agg E),(.agg (qjjk q)),(.bool true),(.bool true),(.bool true),(.agg C),(.agg (q5cx p)),(.agg E),(.agg (q5cx q)),(.bool true),(.bool true),(.bool true),(.pointer (some ⟨B,22,none⟩)),(.slice a.cs p.codes.length a.cc),(.pointer (some ⟨B+1,22,none⟩)),(.slice b.cs q.codes.length b.cc),(.bool true),(.bool true),(.bool true),(.pointer (some ⟨B,23,none⟩)),(.slice a.fs p.filters.length a.fc),(.pointer (some ⟨B+1,23,none⟩)),(.slice b.fs q.filters.length b.fc),(.bool true),(.bool true),(.bool true),(.pointer (some ⟨B,24,none⟩)),(.slice a.ps p.props.length a.pc),(.pointer (some ⟨B+1,24,none⟩)),(.slice b.ps q.props.length b.pc),(.bool true),(.bool true),(.bool true),(.pointer (some ⟨B,15,none⟩)),(.pointer (some ⟨B,19,none⟩)),(.slice a.w p.wProps.length a.wc),(.pointer (some ⟨B+1,15,none⟩)),(.pointer (some ⟨B+1,19,none⟩)),(.slice b.w q.wProps.length b.wc),(.bool false),(.bool false)]) (D:=[]) (by kernel_rfl) (by kernel_rfl) (by kernel_rfl) ?_ hS ?_ (fun w h=>by apply fin<;>first|rfl|exact h)
       case' true=>refine qfhu.wp_in (ds:=[5,6,7,8,9,10,11,12,13,14,15,16,17,18,19,20,21,22,23,24,25,26,27,28,29,30,31,32,33,34,35,36,37,38,39,40,41,42,43,44,45,46,47,48,49,50,51,52,53,4]) (B:=[(.agg C),(.agg E),(.pointer (some ⟨B,0,none⟩)),(.pointer (some ⟨B+1,0,none⟩)),(.bool true),(.agg C),(.agg (q3zb p)),(.agg E),(.agg (q3zb q)),(.bool true),(.bool true),(.agg C),(.agg (qjjk p)),(.agg E),(.agg (qjjk q)),(.bool true),(.bool true),(.bool true),(.agg C),(.agg (q5cx p)),(.agg E),(.agg (q5cx q)),(.bool true),(.bool true),(.bool true),(.pointer (some ⟨B,22,none⟩)),(.slice a.cs p.codes.length a.cc),(.pointer (some ⟨B+1,22,none⟩)),(.slice b.cs q.codes.length b.cc),(.bool true),(.bool true),(.bool true),(.pointer (some ⟨B,23,none⟩)),(.slice a.fs p.filters.length a.fc),(.pointer (some ⟨B+1,23,none⟩)),(.slice b.fs q.filters.length b.fc),(.bool true),(.bool true),(.bool true),(.pointer (some ⟨B,24,none⟩)),(.slice a.ps p.props.length a.pc),(.pointer (some ⟨B+1,24,none⟩)),(.slice b.ps q.props.length b.pc),(.bool true),(.bool true),(.bool true),(.pointer (some ⟨B,15,none⟩)),(.pointer (some ⟨B,19,none⟩)),(.slice a.w p.wProps.length a.wc),(.pointer (some ⟨B+1,15,none⟩)),(.pointer (some ⟨B+1,19,none⟩)),(.slice b.w q.wProps.length b.wc),(.bool true),(.bool true)]) (D:=[]) (by kernel_rfl) (by kernel_rfl) (by kernel_rfl) ?_ hS ?_ (fun w h=>by apply fin<;>first|rfl|exact h)
 all_goals first
  |(
   first|refine qfhu.sk rfl rfl rfl rfl ?_|refine qfhu.pu rfl rfl rfl rfl (fun w hS=>qtsc rfl hC (hS1 w hS)) ?_
   first|refine qfhu.sk rfl rfl rfl rfl ?_|refine qfhu.ca rfl rfl rfl rfl (fun w=>qpjl.enter1 func197 rfl rfl) N0p ?_
   first|refine qfhu.sk rfl rfl rfl rfl ?_|refine qfhu.pu rfl rfl rfl rfl (fun w hS=>qtsc rfl hE (hS2 w hS)) ?_
   first|refine qfhu.sk rfl rfl rfl rfl ?_|refine qfhu.ca rfl rfl rfl rfl (fun w=>qpjl.enter1 func197 rfl rfl) N0q ?_
   first|refine qfhu.sk rfl rfl rfl rfl ?_|refine qfhu.pu rfl rfl rfl rfl (fun w hS=>q3lh rfl rfl h0) ?_
   first|refine qfhu.sk rfl rfl rfl rfl ?_|refine qfhu.pu rfl rfl rfl rfl (fun w hS=>rfl) ?_
   first|refine qfhu.sk rfl rfl rfl rfl ?_|refine qfhu.pu rfl rfl rfl rfl (fun w hS=>qtsc rfl hC (hS1 w hS)) ?_
   first|refine qfhu.sk rfl rfl rfl rfl ?_|refine qfhu.ca rfl rfl rfl rfl (fun w=>qpjl.enter1 func198 rfl rfl) N1p ?_
   first|refine qfhu.sk rfl rfl rfl rfl ?_|refine qfhu.pu rfl rfl rfl rfl (fun w hS=>qtsc rfl hE (hS2 w hS)) ?_
   first|refine qfhu.sk rfl rfl rfl rfl ?_|refine qfhu.ca rfl rfl rfl rfl (fun w=>qpjl.enter1 func198 rfl rfl) N1q ?_
   first|refine qfhu.sk rfl rfl rfl rfl ?_|refine qfhu.pu rfl rfl rfl rfl (fun w hS=>qtwp rfl rfl h1) ?_
   first|refine qfhu.sk rfl rfl rfl rfl ?_|refine qfhu.pu rfl rfl rfl rfl (fun w hS=>rfl) ?_
   first|refine qfhu.sk rfl rfl rfl rfl ?_|refine qfhu.pu rfl rfl rfl rfl (fun w hS=>rfl) ?_
   first|refine qfhu.sk rfl rfl rfl rfl ?_|refine qfhu.pu rfl rfl rfl rfl (fun w hS=>qtsc rfl hC (hS1 w hS)) ?_
   first|refine qfhu.sk rfl rfl rfl rfl ?_|refine qfhu.ca rfl rfl rfl rfl (fun w=>qpjl.enter1 func199 rfl rfl) N2p ?_
   first|refine qfhu.sk rfl rfl rfl rfl ?_|refine qfhu.pu rfl rfl rfl rfl (fun w hS=>qtsc rfl hE (hS2 w hS)) ?_
   first|refine qfhu.sk rfl rfl rfl rfl ?_|refine qfhu.ca rfl rfl rfl rfl (fun w=>qpjl.enter1 func199 rfl rfl) N2q ?_
   first|refine qfhu.sk rfl rfl rfl rfl ?_|refine qfhu.pu rfl rfl rfl rfl (fun w hS=>qpii rfl rfl h2) ?_
   first|refine qfhu.sk rfl rfl rfl rfl ?_|refine qfhu.pu rfl rfl rfl rfl (fun w hS=>rfl) ?_
   first|refine qfhu.sk rfl rfl rfl rfl ?_|refine qfhu.pu rfl rfl rfl rfl (fun w hS=>rfl) ?_
   first|refine qfhu.sk rfl rfl rfl rfl ?_|refine qfhu.pu rfl rfl rfl rfl (fun w hS=>qb5w rfl) ?_
   first|refine qfhu.sk rfl rfl rfl rfl ?_|refine qfhu.pu rfl rfl rfl rfl (fun w hS=>qajx rfl (hp22 w hS)) ?_
   first|refine qfhu.sk rfl rfl rfl rfl ?_|refine qfhu.pu rfl rfl rfl rfl (fun w hS=>qb5w rfl) ?_
   first|refine qfhu.sk rfl rfl rfl rfl ?_|refine qfhu.pu rfl rfl rfl rfl (fun w hS=>qajx rfl (hq22 w hS)) ?_
   first|refine qfhu.sk rfl rfl rfl rfl ?_|refine qfhu.ca rfl rfl rfl rfl (fun w=>qpjl.enter3 func200 rfl rfl rfl rfl) F3 ?_
   first|refine qfhu.sk rfl rfl rfl rfl ?_|refine qfhu.pu rfl rfl rfl rfl (fun w hS=>rfl) ?_
   first|refine qfhu.sk rfl rfl rfl rfl ?_|refine qfhu.pu rfl rfl rfl rfl (fun w hS=>rfl) ?_
   first|refine qfhu.sk rfl rfl rfl rfl ?_|refine qfhu.pu rfl rfl rfl rfl (fun w hS=>qdvg rfl) ?_
   first|refine qfhu.sk rfl rfl rfl rfl ?_|refine qfhu.pu rfl rfl rfl rfl (fun w hS=>q352 rfl (hp23 w hS)) ?_
   first|refine qfhu.sk rfl rfl rfl rfl ?_|refine qfhu.pu rfl rfl rfl rfl (fun w hS=>qdvg rfl) ?_
   first|refine qfhu.sk rfl rfl rfl rfl ?_|refine qfhu.pu rfl rfl rfl rfl (fun w hS=>q352 rfl (hq23 w hS)) ?_
   first|refine qfhu.sk rfl rfl rfl rfl ?_|refine qfhu.ca rfl rfl rfl rfl (fun w=>qpjl.enter3 func202 rfl rfl rfl rfl) F4 ?_
   first|refine qfhu.sk rfl rfl rfl rfl ?_|refine qfhu.pu rfl rfl rfl rfl (fun w hS=>rfl) ?_
   first|refine qfhu.sk rfl rfl rfl rfl ?_|refine qfhu.pu rfl rfl rfl rfl (fun w hS=>rfl) ?_
   first|refine qfhu.sk rfl rfl rfl rfl ?_|refine qfhu.pu rfl rfl rfl rfl (fun w hS=>qmir rfl) ?_
   first|refine qfhu.sk rfl rfl rfl rfl ?_|refine qfhu.pu rfl rfl rfl rfl (fun w hS=>qms8 rfl (hp24 w hS)) ?_
   first|refine qfhu.sk rfl rfl rfl rfl ?_|refine qfhu.pu rfl rfl rfl rfl (fun w hS=>qmir rfl) ?_
   first|refine qfhu.sk rfl rfl rfl rfl ?_|refine qfhu.pu rfl rfl rfl rfl (fun w hS=>qms8 rfl (hq24 w hS)) ?_
   first|refine qfhu.sk rfl rfl rfl rfl ?_|refine qfhu.ca rfl rfl rfl rfl (fun w=>qpjl.enter3 func204 rfl rfl rfl rfl) F5 ?_
   first|refine qfhu.sk rfl rfl rfl rfl ?_|refine qfhu.pu rfl rfl rfl rfl (fun w hS=>rfl) ?_
   first|refine qfhu.sk rfl rfl rfl rfl ?_|refine qfhu.pu rfl rfl rfl rfl (fun w hS=>rfl) ?_
   first|refine qfhu.sk rfl rfl rfl rfl ?_|refine qfhu.pu rfl rfl rfl rfl (fun w hS=>qa2v rfl) ?_
   first|refine qfhu.sk rfl rfl rfl rfl ?_|refine qfhu.pu rfl rfl rfl rfl (fun w hS=>q4lz rfl) ?_
   first|refine qfhu.sk rfl rfl rfl rfl ?_|refine qfhu.pu rfl rfl rfl rfl (fun w hS=>qms8 rfl (hp19 w hS)) ?_
   first|refine qfhu.sk rfl rfl rfl rfl ?_|refine qfhu.pu rfl rfl rfl rfl (fun w hS=>qa2v rfl) ?_
   first|refine qfhu.sk rfl rfl rfl rfl ?_|refine qfhu.pu rfl rfl rfl rfl (fun w hS=>q4lz rfl) ?_
   first|refine qfhu.sk rfl rfl rfl rfl ?_|refine qfhu.pu rfl rfl rfl rfl (fun w hS=>qms8 rfl (hq19 w hS)) ?_
   first|refine qfhu.sk rfl rfl rfl rfl ?_|refine qfhu.ca rfl rfl rfl rfl (fun w=>qpjl.enter3 func204 rfl rfl rfl rfl) F6 ?_
   first|refine qfhu.sk rfl rfl rfl rfl ?_|refine qfhu.pu rfl rfl rfl rfl (fun w hS=>rfl) ?_
   first|refine qfhu.sk rfl rfl rfl rfl ?_|refine qfhu.pu rfl rfl rfl rfl (fun w hS=>rfl) ?_
   exact qfhu.All.fin rfl)
  |exact(by repeat (first|exact trivial|refine⟨.inr rfl,?_⟩|refine⟨.inl rfl,?_⟩))
structure SmS(w:World)(p:Pk)(a:Ad)(q:Pk)(b:Ad)(W:World):Prop where
 low:Below w.heap.size w W
 p:W.heap[w.heap.size]?=some (.cells (pkC p a) 38 (0,0))
 q:W.heap[w.heap.size+1]?=some (.cells (pkC q b) 38 (0,0))
theorem SmS.call{w W W':World}{p q:Pk}{a b:Ad}(h:SmS w p a q b W)(hb:Below W.heap.size W W'):SmS w p a q b W':=
 ⟨qxh2 h.low hb,(hb.block _ (lt_of_block h.p)).trans h.p,(hb.block _ (lt_of_block h.q)).trans h.q⟩
theorem qyk8(p q:Pk)(a b:Ad)(w:World)(hp:PkAt w p a)(hq:PkAt w q b)(sp:q21o p)(sq:q21o q) :
 Calls prog 162 #[pkV p a,pkV q b] w fun e w'=>e=.returned (.bool (decide (p=q)))/\Below w.heap.size w w':=by
 have S0:SmS w p a q b ((w.alloc (.cells (pkC p a) 38)).alloc (.cells (pkC q b) 38)):=⟨qxh2 (qybm _) (qybm _),heap_alloc2_old _ _ _,heap_alloc2_new _ _ _⟩
 have S0:SmS w p a q b (((w.alloc (.cells (pkC p a) 38)).alloc (.cells (pkC q b) 38))).drew:=⟨S0.low.drew,S0.p,S0.q⟩
 have CE:∀(x:Pk) (c:Ad),(∀(B j:Nat) (u:Value) (W:World),W.heap[B]?=some (.cells (pkC x c) 38 (0,0))->(pkC x c)[j]?=some u->W.cell? ⟨B,j,none⟩=some u):=fun x c B j u W h hu=>(cell_of_row _ _ j _ _ _ h).trans hu;have N1:∀(x:Pk) (c:Ad) W,SmS w p a q b W->Calls prog 197 #[.agg (pkC x c)] W fun e w'=>e=.returned (.agg (q3zb x))/\SmS w p a q b w':=fun x c W h=>(qi7b x c W).mono fun e w' ⟨he,hb⟩=>⟨he,h.call hb⟩
 have N2:∀(x:Pk) (c:Ad) W,SmS w p a q b W->Calls prog 198 #[.agg (pkC x c)] W fun e w'=>e=.returned (.agg (qjjk x))/\SmS w p a q b w':=fun x c W h=>(qu0d x c W).mono fun e w' ⟨he,hb⟩=>⟨he,h.call hb⟩
 have N3:∀(x:Pk) (c:Ad) W,SmS w p a q b W->Calls prog 199 #[.agg (pkC x c)] W fun e w'=>e=.returned (.agg (q5cx x))/\SmS w p a q b w':=fun x c W h=>(quge x c W).mono fun e w' ⟨he,hb⟩=>⟨he,h.call hb⟩
 have F3:∀W,SmS w p a q b W->Calls prog 200 #[(.slice a.cs p.codes.length a.cc),(.slice b.cs q.codes.length b.cc),.func (.func 201) #[] #[]] W fun e w'=>e=.returned (.bool (decide (p.codes=q.codes)))/\SmS w p a q b w':=fun W h=>(q5se _ _ _ _ _ _ p.codes q.codes W (hp.cs.below (h.low)) (hq.cs.below (h.low)) rfl rfl (by have:=sp;unfold q21o at this;omega) (by have:=sq;unfold q21o at this;omega)).mono fun e w' ⟨he,hb⟩=>⟨he,h.call hb⟩
 have F4:∀W,SmS w p a q b W->Calls prog 202 #[(.slice a.fs p.filters.length a.fc),(.slice b.fs q.filters.length b.fc),.func (.func 203) #[] #[]] W fun e w'=>e=.returned (.bool (decide (p.filters=q.filters)))/\SmS w p a q b w':=fun W h=>(qm9z _ _ _ _ _ _ p.filters q.filters W (hp.fs.below (h.low)) (hq.fs.below (h.low)) rfl rfl (by have:=sp;unfold q21o at this;omega) (by have:=sq;unfold q21o at this;omega)).mono fun e w' ⟨he,hb⟩=>⟨he,h.call hb⟩
 have F5:∀W,SmS w p a q b W->Calls prog 204 #[(.slice a.ps p.props.length a.pc),(.slice b.ps q.props.length b.pc),.func (.func 205) #[] #[]] W fun e w'=>e=.returned (.bool (decide (p.props=q.props)))/\SmS w p a q b w':=fun W h=>(qk57 _ _ _ _ _ _ p.props q.props W (hp.ps.below (h.low)) (hq.ps.below (h.low)) rfl rfl (by have:=sp;unfold q21o at this;omega) (by have:=sq;unfold q21o at this;omega)).mono fun e w' ⟨he,hb⟩=>⟨he,h.call hb⟩
 have F6:∀W,SmS w p a q b W->Calls prog 204 #[(.slice a.w p.wProps.length a.wc),(.slice b.w q.wProps.length b.wc),.func (.func 205) #[] #[]] W fun e w'=>e=.returned (.bool (decide (p.wProps=q.wProps)))/\SmS w p a q b w':=fun W h=>(qk57 _ _ _ _ _ _ p.wProps q.wProps W (hp.w.below (h.low)) (hq.w.below (h.low)) rfl rfl (by have:=sp;unfold q21o at this;omega) (by have:=sq;unfold q21o at this;omega)).mono fun e w' ⟨he,hb⟩=>⟨he,h.call hb⟩
 have C1:=qwmp p a;have C2:=qwmp q b;have cp22:∀W,SmS w p a q b W->W.cell? ⟨w.heap.size,22,none⟩=some (.slice a.cs p.codes.length a.cc):=fun W h=>CE p a _ 22 _ W h.p rfl;have cp23:∀W,SmS w p a q b W->W.cell? ⟨w.heap.size,23,none⟩=some (.slice a.fs p.filters.length a.fc):=fun W h=>CE p a _ 23 _ W h.p rfl;have cp24:∀W,SmS w p a q b W->W.cell? ⟨w.heap.size,24,none⟩=some (.slice a.ps p.props.length a.pc):=fun W h=>CE p a _ 24 _ W h.p rfl;have cp19:∀W,SmS w p a q b W->W.cell? ⟨w.heap.size,19,none⟩=some (.slice a.w p.wProps.length a.wc):=fun W h=>CE p a _ 19 _ W h.p rfl;have cq22:∀W,SmS w p a q b W->W.cell? ⟨w.heap.size+1,22,none⟩=some (.slice b.cs q.codes.length b.cc):=fun W h=>CE q b _ 22 _ W h.q rfl;have cq23:∀W,SmS w p a q b W->W.cell? ⟨w.heap.size+1,23,none⟩=some (.slice b.fs q.filters.length b.fc):=fun W h=>CE q b _ 23 _ W h.q rfl;have cq24:∀W,SmS w p a q b W->W.cell? ⟨w.heap.size+1,24,none⟩=some (.slice b.ps q.props.length b.pc):=fun W h=>CE q b _ 24 _ W h.q rfl;have cq19:∀W,SmS w p a q b W->W.cell? ⟨w.heap.size+1,19,none⟩=some (.slice b.w q.wProps.length b.wc):=fun W h=>CE q b _ 19 _ W h.q rfl;have K1:=N1 p a;have K2:=N1 q b;have K3:=N2 p a;have K4:=N2 q b;have K5:=N3 p a;have K6:=N3 q b;have P1:∀W,SmS w p a q b W->W.heap[w.heap.size]?=some (.cells (pkC p a) 38 (0,0)):=fun W h=>h.p;have P2:∀W,SmS w p a q b W->W.heap[w.heap.size+1]?=some (.cells (pkC q b) 38 (0,0)):=fun W h=>h.q;have LO:∀W,SmS w p a q b W->Below w.heap.size w W:=fun W h=>h.low;have I162:=qpgn p q;unfold pkV;clear CE N1 N2 N3 hp hq sp sq;generalize pkC p a=C at *;generalize pkC q b=E at *;generalize hSS:SmS w p a q b=S at *;have HS:=hid hSS;clear hSS;have hS0:=hid S0;have hC1:=hid C1;have hC2:=hid C2;have hP1:=hid P1;have hP2:=hid P2;have hLO:=hid LO;have hK1:=hid K1;have hK2:=hid K2;have hK3:=hid K3;have hK4:=hid K4;have hK5:=hid K5;have hK6:=hid K6;have hF3:=hid F3;have hF4:=hid F4;have hF5:=hid F5;have hF6:=hid F6;have hcp22:=hid cp22;have hcp23:=hid cp23;have hcp24:=hid cp24;have hcp19:=hid cp19;have hcq22:=hid cq22;have hcq23:=hid cq23;have hcq24:=hid cq24;have hcq19:=hid cq19;have HI:=hid I162;clear I162 S0 C1 C2 P1 P2 LO K1 K2 K3 K4 K5 K6 F3 F4 F5 F6 cp22 cp23 cp24 cp19 cq22 cq23 cq24 cq19;obtain⟨R,hR⟩:∃R,decide (p=q)=R:=⟨_,rfl⟩
 rw[hR];have HR:=hid hR;clear hR;go_in;go_wp2_with fail;refine qw00 (S:=S) (p:=p) (q:=q) (a:=a) (b:=b) (C:=C) (E:=E) (B:=w.heap.size) hS0.out hC1.out hC2.out hP1.out hP2.out hK1.out hK2.out hK3.out hK4.out hK5.out hK6.out hcp22.out hcq22.out hF3.out hcp23.out hcq23.out hF4.out hcp24.out hcq24.out hF5.out hcp19.out hcq19.out hF6.out ?_;intro r W hr hW;have BW:=hid (hLO.out W hW);obtain rfl:R=r:=by rw[<-hr,<-HR.out,Bool.eq_iff_iff];simp only[Bool.and_eq_true,decide_eq_true_eq,HI.out,and_assoc]
 clear hW hr
 intros
 go_wp2;go_ret;exact⟨rfl,BW.out⟩
section
variable{a:Act}{w:World}{d:Option Tmp}{p:String}{af:Array Edge}{gd:Option (Nat×Bool)}{x y z:Tmp}{r:TypeId}
theorem qfsz{g cb:Nat}{v:Int}(hx:a.eval (.tmp x)=.pointer (some ⟨g,0,none⟩))(h0:w.cell? ⟨g,0,none⟩=some (.pointer (some ⟨cb,0,none⟩)))(h1:w.cell? ⟨g,1,none⟩=some (.int .i64 v)) :
 (execOp a.eval {dst:=d,op := .load 155 (.tmp x),type:=155,pos:=p,after:=af,guard:=gd}).run prog w=.ok (.value (.agg #[.pointer (some ⟨cb,0,none⟩),.int .i64 v])) w:=by
 generalize a.eval=f at *;go_simp
theorem q5g8{g:Nat}{C:Array Value}(hx:a.eval (.tmp x)=.pointer (some ⟨g,0,none⟩))(hs:C.size=25)(hg:w.heap[g]?=some (.cells C 38 (0,0))) :
 (execOp a.eval {dst:=d,op := .load 38 (.tmp x),type:=38,pos:=p,after:=af,guard:=gd}).run prog w=.ok (.value (.agg C)) w:=by
 unfold execOp;simp only[hx,Instr.loadAt,Instr.sureAddr,Sem.run_bind,Sem.run_pure,Result.andThen_ok,run_loadVar_row w g 38 38 C (0,0) _ hg underlying38 rfl (by rw[hs];exact q5nr)]
theorem q8i8{g:Nat}(hx:a.eval (.tmp x)=.pointer (some ⟨g,0,none⟩)) :
 (execOp a.eval {dst:=d,op := .fieldAddr 155 (.tmp x) 0,type:=r,pos:=p,after:=af,guard:=gd}).run prog w=.ok (.value (.pointer (some ⟨g,0,none⟩))) w:=by
 generalize a.eval=f at *;go_simp
theorem qil8{g:Nat}(hx:a.eval (.tmp x)=.pointer (some ⟨g,0,none⟩)) :
 (execOp a.eval {dst:=d,op := .fieldAddr 155 (.tmp x) 1,type:=r,pos:=p,after:=af,guard:=gd}).run prog w=.ok (.value (.pointer (some ⟨g,1,none⟩))) w:=by
 generalize a.eval=f at *;go_simp
theorem qpti{g cb:Nat}(hx:a.eval (.tmp x)=.pointer (some ⟨g,0,none⟩))(h0:w.cell? ⟨g,0,none⟩=some (.pointer (some ⟨cb,0,none⟩))) :
 (execOp a.eval {dst:=d,op := .load 84 (.tmp x),type:=84,pos:=p,after:=af,guard:=gd}).run prog w=.ok (.value (.pointer (some ⟨cb,0,none⟩))) w:=by
 generalize a.eval=f at *;go_simp
theorem qd8q{g:Nat}{v:Int}(hx:a.eval (.tmp x)=.pointer (some ⟨g,1,none⟩))(h1:w.cell? ⟨g,1,none⟩=some (.int .i64 v)) :
 (execOp a.eval {dst:=d,op := .load 3 (.tmp x),type:=3,pos:=p,after:=af,guard:=gd}).run prog w=.ok (.value (.int .i64 v)) w:=by
 generalize a.eval=f at *;go_simp
theorem q3gv{n m:Int}(hx:a.eval (.tmp x)=.int .i64 n)(hm:bits .and .i64 n 1=m) :
 (execOp a.eval {dst:=d,op := .binOp .and 3 (.tmp x) (.const (.int .i64 1)) 3,type:=r,pos:=p,after:=af,guard:=gd}).run prog w=.ok (.value (.int .i64 m)) w:=by
 subst hm;have hk:a.eval (.const (.int .i64 1))=.int .i64 1:=rfl;generalize a.eval=f at *;go_simp
theorem qqiz{n:Int}{b:Bool}(hx:a.eval (.tmp x)=.int .i64 n)(hb:(n==0)=b) :
 (execOp a.eval {dst:=d,op := .binOp .eql 3 (.tmp x) (.const (.int .i64 0)) 3,type:=r,pos:=p,after:=af,guard:=gd}).run prog w=.ok (.value (.bool b)) w:=by
 subst hb;have hk:a.eval (.const (.int .i64 0))=.int .i64 0:=rfl;generalize a.eval=f at *;go_simp
theorem q424{n m:Int}{b:Bool}(hx:a.eval (.tmp x)=.int .i64 n)(hy:a.eval (.tmp y)=.int .i64 m)(hb:(n==m)=b) :
 (execOp a.eval {dst:=d,op := .binOp .eql 3 (.tmp x) (.tmp y) 3,type:=r,pos:=p,after:=af,guard:=gd}).run prog w=.ok (.value (.bool b)) w:=by
 subst hb;generalize a.eval=f at *;go_simp
theorem qmwm{t:ByteArray}{b:Bool}(hx:a.eval (.tmp x)=.string t)(hb:(t.toList==[0,4,77,81,84,84])=b) :
 (execOp a.eval {dst:=d,op := .binOp .eql 9 (.tmp x) (.const (.string {data:=#[0,4,77,81,84,84]})) 9,type:=r,pos:=p,after:=af,guard:=gd}).run prog w=.ok (.value (.bool b)) w:=by
 subst hb;have hk:a.eval (.const (.string {data:=#[0,4,77,81,84,84]}))=.string {data:=#[0,4,77,81,84,84]}:=rfl;generalize a.eval=f at *;go_simp
end
theorem q58n{Q:Exit->Act->World->Prop}{S:Bool->World->Prop}{W:World}{B P cb:Nat}{v n m:Int}{b:Bool}{D:Array Value}{x0 x2 x5 x6 x7 x8 x9 x10 x11 x12 x13 x14 x15 x16 x17 x18 x19 x20:Value}
 (hS:S false W.drew) (K0:∀x w,S x w->w.cell? ⟨B,0,none⟩=some (.pointer (some ⟨cb,0,none⟩))) (K1:∀x w,S x w->w.cell? ⟨B,1,none⟩=some (.int .i64 v)) (hm1:bits .and .i64 n 1=m) (hz:(m==0)=true) (hD:D.size=25) (KD:∀x w,S x w->w.heap[P]?=some (.cells D 38 (0,0)))
 (H17:∀(x:Bool) (w:World),S x w->Calls prog 187 #[.int .i64 v,.agg D] w fun e w'=>e=.returned (.bool b)/\S x w')
 (H19:∀(x:Bool) (w:World),S x w->x=false->Calls prog 116 #[.agg #[.pointer (some ⟨cb,0,none⟩),.int .i64 v],.bool b,.int .i64 7] w fun e w'=>e=.returned (.tuple #[])/\S ((fun _=>true) x) w')
 (fin:∀w,S true w->Q .normal ⟨#[x0,(.pointer (some ⟨B,0,none⟩)),x2,(.int .i64 n),(.pointer (some ⟨P,0,none⟩)),x5,x6,x7,x8,(.agg #[.pointer (some ⟨cb,0,none⟩),.int .i64 v]),(.int .i64 n),(.int .i64 m),(.bool true),(.bool true),(.pointer (some ⟨B,1,none⟩)),(.int .i64 v),(.agg D),(.bool b),(.bool b),(.tuple #[]),x20],[]⟩ w) :
 (Code.region 3 (qfhu.opsAt 3 Tryz.f194.body) true).wp prog Q ⟨#[x0,(.pointer (some ⟨B,0,none⟩)),x2,(.int .i64 n),(.pointer (some ⟨P,0,none⟩)),x5,x6,x7,x8,x9,x10,x11,x12,x13,x14,x15,x16,x17,x18,x19,x20],[]⟩ W:=by
 refine qu7n.wp (fresh:=fun i x=>(i=10->x=false)) (hf0:=fun i=>fun _=>rfl) (x:=false) (S:=S) (made:=fun i x=>(i=10->x=true)) (war:=[]) (ds:=[9,10,11,12,13,14,15,16,17,18,19]) (A:=[x0,(.pointer (some ⟨B,0,none⟩)),x2,(.int .i64 n),(.pointer (some ⟨P,0,none⟩)),x5,x6,x7,x8,x9,x10,x11,x12,x13,x14,x15,x16,x17,x18,x19,x20]) (B:=fun x=>[x0,(.pointer (some ⟨B,0,none⟩)),x2,(.int .i64 n),(.pointer (some ⟨P,0,none⟩)),x5,x6,x7,x8,(.agg #[.pointer (some ⟨cb,0,none⟩),.int .i64 v]),(.int .i64 n),(.int .i64 m),(.bool true),(.bool true),(.pointer (some ⟨B,1,none⟩)),(.int .i64 v),(.agg D),(.bool b),(.bool b),(.tuple #[]),x20]) (D:=[]) (by kernel_rfl) (by kernel_rfl) (by kernel_rfl) ?_ hS ?_ (fun x w hm hS=>fin w (by have h:=hm 10 (by decide) rfl;rw[<-h];exact hS))
 ·exact fun x=>(by repeat (first|exact trivial|refine⟨.inr rfl,?_⟩|refine⟨.inl rfl,?_⟩))
 refine q2y4.All.step rfl (qu7n.Does.pure (val:=fun x=>(.agg #[.pointer (some ⟨cb,0,none⟩),.int .i64 v])) rfl (fun x=>fun h=>absurd h (by decide)) (fun x w hm hS=>⟨rfl,rfl,qfsz rfl (K0 x w hS) (K1 x w hS)⟩)) ?_;refine q2y4.All.step rfl (qu7n.Does.pure (val:=fun x=>(.int .i64 n)) rfl (fun x=>fun h=>absurd h (by decide)) (fun x w hm hS=>⟨rfl,rfl,rfl⟩)) ?_;refine q2y4.All.step rfl (qu7n.Does.pure (val:=fun x=>(.int .i64 m)) rfl (fun x=>fun h=>absurd h (by decide)) (fun x w hm hS=>⟨rfl,rfl,q3gv rfl hm1⟩)) ?_;refine q2y4.All.step rfl (qu7n.Does.pure (val:=fun x=>(.bool true)) rfl (fun x=>fun h=>absurd h (by decide)) (fun x w hm hS=>⟨rfl,rfl,qqiz rfl hz⟩)) ?_;refine q2y4.All.step rfl (qu7n.Does.pure (val:=fun x=>(.bool true)) rfl (fun x=>fun h=>absurd h (by decide)) (fun x w hm hS=>⟨rfl,rfl,rfl⟩)) ?_;refine q2y4.All.step rfl (qu7n.Does.pure (val:=fun x=>(.pointer (some ⟨B,1,none⟩))) rfl (fun x=>fun h=>absurd h (by decide)) (fun x w hm hS=>⟨rfl,rfl,qil8 rfl⟩)) ?_;refine q2y4.All.step rfl (qu7n.Does.pure (val:=fun x=>(.int .i64 v)) rfl (fun x=>fun h=>absurd h (by decide)) (fun x w hm hS=>⟨rfl,rfl,qd8q rfl (K1 x w hS)⟩)) ?_;refine q2y4.All.step rfl (qu7n.Does.pure (val:=fun x=>(.agg D)) rfl (fun x=>fun h=>absurd h (by decide)) (fun x w hm hS=>⟨rfl,rfl,q5g8 rfl hD (KD x w hS)⟩)) ?_;refine q2y4.All.step rfl (qu7n.Does.call (args:=fun x=>#[.int .i64 v,.agg D]) (val:=fun x=>(.bool b)) rfl (fun x=>fun h=>absurd h (by decide)) (fun x w hm hS=>⟨rfl,rfl,qpjl.enter2 func187 rfl rfl rfl,H17 x w hS⟩)) ?_;refine q2y4.All.step rfl (qu7n.Does.pure (val:=fun x=>(.bool b)) rfl (fun x=>fun h=>absurd h (by decide)) (fun x w hm hS=>⟨rfl,rfl,rfl⟩)) ?_;refine q2y4.All.step rfl (qu7n.Does.act (args:=fun x=>#[.agg #[.pointer (some ⟨cb,0,none⟩),.int .i64 v],.bool b,.int .i64 7]) (val:=fun x=>(.tuple #[])) (nx:=fun _=>true) (fun y hy x=>by cases hy;rfl) (fun x=>rfl) (fun x _=>rfl) (fun i x h e=>rfl) (fun i x hi h e=>absurd e hi) (fun x w hm hf hS=>⟨rfl,qpjl.enter3 func116 rfl rfl rfl rfl,H19 x w hS (hf rfl)⟩)) ?_;exact q2y4.All.fin rfl
theorem q7fu{Q:Exit->Act->World->Prop}{S:Bool->World->Prop}{W:World}{B P cb:Nat}{v n m:Int}{x0 x2 x5 x6 x7 x8 x9 x10 x11 x12 x13 x14 x15 x16 x17 x18 x19 x20:Value}
 (hS:S false W.drew) (K0:∀x w,S x w->w.cell? ⟨B,0,none⟩=some (.pointer (some ⟨cb,0,none⟩))) (K1:∀x w,S x w->w.cell? ⟨B,1,none⟩=some (.int .i64 v)) (hm1:bits .and .i64 n 1=m) (hz:(m==0)=false)
 (H19:∀(x:Bool) (w:World),S x w->x=false->Calls prog 116 #[.agg #[.pointer (some ⟨cb,0,none⟩),.int .i64 v],.bool false,.int .i64 7] w fun e w'=>e=.returned (.tuple #[])/\S ((fun _=>true) x) w')
 (fin:∀w,S true w->Q .normal ⟨#[x0,(.pointer (some ⟨B,0,none⟩)),x2,(.int .i64 n),(.pointer (some ⟨P,0,none⟩)),x5,x6,x7,x8,(.agg #[.pointer (some ⟨cb,0,none⟩),.int .i64 v]),(.int .i64 n),(.int .i64 m),(.bool false),(.bool false),undef,undef,undef,undef,(.bool false),(.tuple #[]),x20],[]⟩ w) :
 (Code.region 3 (qfhu.opsAt 3 Tryz.f194.body) true).wp prog Q ⟨#[x0,(.pointer (some ⟨B,0,none⟩)),x2,(.int .i64 n),(.pointer (some ⟨P,0,none⟩)),x5,x6,x7,x8,x9,x10,x11,x12,x13,x14,x15,x16,x17,x18,x19,x20],[]⟩ W:=by
 refine qu7n.wp (fresh:=fun i x=>(i=10->x=false)) (hf0:=fun i=>fun _=>rfl) (x:=false) (S:=S) (made:=fun i x=>(i=10->x=true)) (war:=[]) (ds:=[9,10,11,12,13,14,15,16,17,18,19]) (A:=[x0,(.pointer (some ⟨B,0,none⟩)),x2,(.int .i64 n),(.pointer (some ⟨P,0,none⟩)),x5,x6,x7,x8,x9,x10,x11,x12,x13,x14,x15,x16,x17,x18,x19,x20]) (B:=fun x=>[x0,(.pointer (some ⟨B,0,none⟩)),x2,(.int .i64 n),(.pointer (some ⟨P,0,none⟩)),x5,x6,x7,x8,(.agg #[.pointer (some ⟨cb,0,none⟩),.int .i64 v]),(.int .i64 n),(.int .i64 m),(.bool false),(.bool false),undef,undef,undef,undef,(.bool false),(.tuple #[]),x20]) (D:=[]) (by kernel_rfl) (by kernel_rfl) (by kernel_rfl) ?_ hS ?_ (fun x w hm hS=>fin w (by have h:=hm 10 (by decide) rfl;rw[<-h];exact hS))
 ·exact fun x=>(by repeat (first|exact trivial|refine⟨.inr rfl,?_⟩|refine⟨.inl rfl,?_⟩))
 refine q2y4.All.step rfl (qu7n.Does.pure (val:=fun x=>(.agg #[.pointer (some ⟨cb,0,none⟩),.int .i64 v])) rfl (fun x=>fun h=>absurd h (by decide)) (fun x w hm hS=>⟨rfl,rfl,qfsz rfl (K0 x w hS) (K1 x w hS)⟩)) ?_;refine q2y4.All.step rfl (qu7n.Does.pure (val:=fun x=>(.int .i64 n)) rfl (fun x=>fun h=>absurd h (by decide)) (fun x w hm hS=>⟨rfl,rfl,rfl⟩)) ?_;refine q2y4.All.step rfl (qu7n.Does.pure (val:=fun x=>(.int .i64 m)) rfl (fun x=>fun h=>absurd h (by decide)) (fun x w hm hS=>⟨rfl,rfl,q3gv rfl hm1⟩)) ?_;refine q2y4.All.step rfl (qu7n.Does.pure (val:=fun x=>(.bool false)) rfl (fun x=>fun h=>absurd h (by decide)) (fun x w hm hS=>⟨rfl,rfl,qqiz rfl hz⟩)) ?_;refine q2y4.All.step rfl (qu7n.Does.pure (val:=fun x=>(.bool false)) rfl (fun x=>fun h=>absurd h (by decide)) (fun x w hm hS=>⟨rfl,rfl,rfl⟩)) ?_
 iterate 4 refine q2y4.All.step rfl (qu7n.Does.skip rfl (fun x=>fun h=>absurd h (by decide)) (fun x=>⟨rfl,rfl⟩)) ?_
 refine q2y4.All.step rfl (qu7n.Does.pure (val:=fun x=>(.bool false)) rfl (fun x=>fun h=>absurd h (by decide)) (fun x w hm hS=>⟨rfl,rfl,rfl⟩)) ?_;refine q2y4.All.step rfl (qu7n.Does.act (args:=fun x=>#[.agg #[.pointer (some ⟨cb,0,none⟩),.int .i64 v],.bool false,.int .i64 7]) (val:=fun x=>(.tuple #[])) (nx:=fun _=>true) (fun y hy x=>by cases hy;rfl) (fun x=>rfl) (fun x _=>rfl) (fun i x h e=>rfl) (fun i x hi h e=>absurd e hi) (fun x w hm hf hS=>⟨rfl,qpjl.enter3 func116 rfl rfl rfl rfl,H19 x w hS (hf rfl)⟩)) ?_;exact q2y4.All.fin rfl
theorem qjsk{Q:Exit->Act->World->Prop}{S:Bool×Bool->World->Prop}{W:World}{B cb:Nat}{v:Int}{t:ByteArray}{b:Bool}{x0 x2 x3 x4 x5 x6 x7 x8 x9 x10 x11 x12 x13 x14 x15 x16 x17 x18 x19 x20 x21 x22 x23 x24 x25 x26 x27 x28 x29 x30 x31 x32 x33 x34 x35 x36 x37 x38 x39 x40 x41 x42 x43 x44 x45 x46 x47 x48 x49 x50 x51 x52 x53 x54:Value}
 (hS:S (false,false) W.drew) (K0:∀x w,S x w->w.cell? ⟨B,0,none⟩=some (.pointer (some ⟨cb,0,none⟩))) (K1:∀x w,S x w->w.cell? ⟨B,1,none⟩=some (.int .i64 v)) (hb:(t.toList==[0,4,77,81,84,84])=b)
 (H7:∀(x:Bool×Bool) (w:World),S x w->x.1=false->Calls prog 53 #[.pointer (some ⟨cb,0,none⟩),.int .i64 6] w fun e w'=>e=.returned (.string t)/\S ((fun x=>(true,x.2)) x) w')
 (H9:∀(x:Bool×Bool) (w:World),S x w->x.1=true->x.2=false->Calls prog 116 #[.agg #[.pointer (some ⟨cb,0,none⟩),.int .i64 v],.bool b,.int .i64 5] w fun e w'=>e=.returned (.tuple #[])/\S ((fun x=>(x.1,true)) x) w')
 (fin:∀w,S (true,true) w->Q .normal ⟨#[x0,(.pointer (some ⟨B,0,none⟩)),x2,x3,(.agg #[.pointer (some ⟨cb,0,none⟩),.int .i64 v]),(.pointer (some ⟨B,0,none⟩)),(.pointer (some ⟨cb,0,none⟩)),(.string t),(.bool b),(.tuple #[]),x10,x11,x12,x13,x14,x15,x16,x17,x18,x19,x20,x21,x22,x23,x24,x25,x26,x27,x28,x29,x30,x31,x32,x33,x34,x35,x36,x37,x38,x39,x40,x41,x42,x43,x44,x45,x46,x47,x48,x49,x50,x51,x52,x53,x54],[]⟩ w) :
 (Code.region 1 (qfhu.opsAt 1 Tryz.f155.body) true).wp prog Q ⟨#[x0,(.pointer (some ⟨B,0,none⟩)),x2,x3,x4,x5,x6,x7,x8,x9,x10,x11,x12,x13,x14,x15,x16,x17,x18,x19,x20,x21,x22,x23,x24,x25,x26,x27,x28,x29,x30,x31,x32,x33,x34,x35,x36,x37,x38,x39,x40,x41,x42,x43,x44,x45,x46,x47,x48,x49,x50,x51,x52,x53,x54],[]⟩ W:=by
 refine qu7n.wp (fresh:=fun i x=>(i=3->x.1=false)/\(i=5->x.2=false)) (hf0:=fun i=>⟨fun _=>rfl,fun _=>rfl⟩) (x:=(false,false)) (S:=S) (made:=fun i x=>(i=3->x.1=true)/\(i=5->x.2=true)) (war:=[]) (ds:=[4,5,6,7,8,9]) (A:=[x0,(.pointer (some ⟨B,0,none⟩)),x2,x3,x4,x5,x6,x7,x8,x9,x10,x11,x12,x13,x14,x15,x16,x17,x18,x19,x20,x21,x22,x23,x24,x25,x26,x27,x28,x29,x30,x31,x32,x33,x34,x35,x36,x37,x38,x39,x40,x41,x42,x43,x44,x45,x46,x47,x48,x49,x50,x51,x52,x53,x54]) (B:=fun x=>[x0,(.pointer (some ⟨B,0,none⟩)),x2,x3,(.agg #[.pointer (some ⟨cb,0,none⟩),.int .i64 v]),(.pointer (some ⟨B,0,none⟩)),(.pointer (some ⟨cb,0,none⟩)),(.string t),(.bool b),(.tuple #[]),x10,x11,x12,x13,x14,x15,x16,x17,x18,x19,x20,x21,x22,x23,x24,x25,x26,x27,x28,x29,x30,x31,x32,x33,x34,x35,x36,x37,x38,x39,x40,x41,x42,x43,x44,x45,x46,x47,x48,x49,x50,x51,x52,x53,x54]) (D:=[]) (by kernel_rfl) (by kernel_rfl) (by kernel_rfl) ?_ hS ?_ (fun x w hm hS=>fin w (by have h:=(hm 3 (by decide)).1 rfl;have h2:=(hm 5 (by decide)).2 rfl;rw[show(true,true)=x from(Prod.ext h h2).symm];exact hS))
 ·exact fun x=>(by repeat (first|exact trivial|refine⟨.inr rfl,?_⟩|refine⟨.inl rfl,?_⟩))
 refine q2y4.All.step rfl (qu7n.Does.pure (val:=fun x=>(.agg #[.pointer (some ⟨cb,0,none⟩),.int .i64 v])) rfl (fun x=>⟨fun h=>absurd h (by decide),fun h=>absurd h (by decide)⟩) (fun x w hm hS=>⟨rfl,rfl,qfsz rfl (K0 x w hS) (K1 x w hS)⟩)) ?_;refine q2y4.All.step rfl (qu7n.Does.pure (val:=fun x=>(.pointer (some ⟨B,0,none⟩))) rfl (fun x=>⟨fun h=>absurd h (by decide),fun h=>absurd h (by decide)⟩) (fun x w hm hS=>⟨rfl,rfl,q8i8 rfl⟩)) ?_;refine q2y4.All.step rfl (qu7n.Does.pure (val:=fun x=>(.pointer (some ⟨cb,0,none⟩))) rfl (fun x=>⟨fun h=>absurd h (by decide),fun h=>absurd h (by decide)⟩) (fun x w hm hS=>⟨rfl,rfl,qpti rfl (K0 x w hS)⟩)) ?_;refine q2y4.All.step rfl (qu7n.Does.act (args:=fun x=>#[.pointer (some ⟨cb,0,none⟩),.int .i64 6]) (val:=fun x=>(.string t)) (nx:=fun x=>(true,x.2)) (fun y hy x=>by cases hy;rfl) (fun x=>rfl) (fun x=>⟨fun _=>rfl,fun h=>absurd h (by decide)⟩) (fun i x h=>⟨fun _=>rfl,h.2⟩) (fun i x hi h=>⟨fun e=>absurd e hi,h.2⟩) (fun x w hm hf hS=>⟨rfl,qpjl.enter2 func53 rfl rfl rfl,H7 x w hS (hf.1 rfl)⟩)) ?_;refine q2y4.All.step rfl (qu7n.Does.pure (val:=fun x=>(.bool b)) rfl (fun x=>⟨fun h=>absurd h (by decide),fun h=>absurd h (by decide)⟩) (fun x w hm hS=>⟨rfl,rfl,qmwm rfl hb⟩)) ?_;refine q2y4.All.step rfl (qu7n.Does.act (args:=fun x=>#[.agg #[.pointer (some ⟨cb,0,none⟩),.int .i64 v],.bool b,.int .i64 5]) (val:=fun x=>(.tuple #[])) (nx:=fun x=>(x.1,true)) (fun y hy x=>by cases hy;rfl) (fun x=>rfl) (fun x=>⟨fun h=>absurd h (by decide),fun _=>rfl⟩) (fun i x h=>⟨h.1,fun _=>rfl⟩) (fun i x hi h=>⟨h.1,fun e=>absurd e hi⟩) (fun x w hm hf hS=>⟨rfl,qpjl.enter3 func116 rfl rfl rfl rfl,H9 x w hS ((hm 3 (by kernel_rfl) (by decide)).1 rfl) (hf.2 rfl)⟩)) ?_;exact q2y4.All.fin rfl
theorem q2os{Q:Exit->Act->World->Prop}{S:Bool×Bool->World->Prop}{W:World}{B cb:Nat}{v n:Int}{b:Bool}{x0 x2 x3 x4 x5 x6 x7 x8 x9 x10 x11 x12 x13 x14 x15 x16 x17 x18 x19 x20 x21 x22 x23 x24 x25 x26 x27 x28 x29 x30 x31 x32 x33 x34 x35 x36 x37 x38 x39 x40 x41 x42 x43 x44 x45 x46 x47 x48 x49 x50 x51 x52 x53 x54:Value}
 (hS:S (false,false) W.drew) (K0:∀x w,S x w->w.cell? ⟨B,0,none⟩=some (.pointer (some ⟨cb,0,none⟩))) (K1:∀x w,S x w->w.cell? ⟨B,1,none⟩=some (.int .i64 v)) (hb:(n==v)=b)
 (H12:∀(x:Bool×Bool) (w:World),S x w->x.1=false->Calls prog 192 #[.agg #[.pointer (some ⟨cb,0,none⟩),.int .i64 v]] w fun e w'=>e=.returned (.int .i64 n)/\S ((fun x=>(true,x.2)) x) w')
 (H16:∀(x:Bool×Bool) (w:World),S x w->x.1=true->x.2=false->Calls prog 116 #[.agg #[.pointer (some ⟨cb,0,none⟩),.int .i64 v],.bool b,.int .i64 5] w fun e w'=>e=.returned (.tuple #[])/\S ((fun x=>(x.1,true)) x) w')
 (fin:∀w,S (true,true) w->Q .normal ⟨#[x0,(.pointer (some ⟨B,0,none⟩)),x2,x3,x4,x5,x6,x7,x8,x9,(.agg #[.pointer (some ⟨cb,0,none⟩),.int .i64 v]),(.agg #[.pointer (some ⟨cb,0,none⟩),.int .i64 v]),(.int .i64 n),(.pointer (some ⟨B,1,none⟩)),(.int .i64 v),(.bool b),(.tuple #[]),x17,x18,x19,x20,x21,x22,x23,x24,x25,x26,x27,x28,x29,x30,x31,x32,x33,x34,x35,x36,x37,x38,x39,x40,x41,x42,x43,x44,x45,x46,x47,x48,x49,x50,x51,x52,x53,x54],[]⟩ w) :
 (Code.region 2 (qfhu.opsAt 2 Tryz.f155.body) true).wp prog Q ⟨#[x0,(.pointer (some ⟨B,0,none⟩)),x2,x3,x4,x5,x6,x7,x8,x9,x10,x11,x12,x13,x14,x15,x16,x17,x18,x19,x20,x21,x22,x23,x24,x25,x26,x27,x28,x29,x30,x31,x32,x33,x34,x35,x36,x37,x38,x39,x40,x41,x42,x43,x44,x45,x46,x47,x48,x49,x50,x51,x52,x53,x54],[]⟩ W:=by
 refine qu7n.wp (fresh:=fun i x=>(i=2->x.1=false)/\(i=6->x.2=false)) (hf0:=fun i=>⟨fun _=>rfl,fun _=>rfl⟩) (x:=(false,false)) (S:=S) (made:=fun i x=>(i=2->x.1=true)/\(i=6->x.2=true)) (war:=[]) (ds:=[10,11,12,13,14,15,16]) (A:=[x0,(.pointer (some ⟨B,0,none⟩)),x2,x3,x4,x5,x6,x7,x8,x9,x10,x11,x12,x13,x14,x15,x16,x17,x18,x19,x20,x21,x22,x23,x24,x25,x26,x27,x28,x29,x30,x31,x32,x33,x34,x35,x36,x37,x38,x39,x40,x41,x42,x43,x44,x45,x46,x47,x48,x49,x50,x51,x52,x53,x54]) (B:=fun x=>[x0,(.pointer (some ⟨B,0,none⟩)),x2,x3,x4,x5,x6,x7,x8,x9,(.agg #[.pointer (some ⟨cb,0,none⟩),.int .i64 v]),(.agg #[.pointer (some ⟨cb,0,none⟩),.int .i64 v]),(.int .i64 n),(.pointer (some ⟨B,1,none⟩)),(.int .i64 v),(.bool b),(.tuple #[]),x17,x18,x19,x20,x21,x22,x23,x24,x25,x26,x27,x28,x29,x30,x31,x32,x33,x34,x35,x36,x37,x38,x39,x40,x41,x42,x43,x44,x45,x46,x47,x48,x49,x50,x51,x52,x53,x54]) (D:=[]) (by kernel_rfl) (by kernel_rfl) (by kernel_rfl) ?_ hS ?_ (fun x w hm hS=>fin w (by have h:=(hm 2 (by decide)).1 rfl;have h2:=(hm 6 (by decide)).2 rfl;rw[show(true,true)=x from(Prod.ext h h2).symm];exact hS))
 ·exact fun x=>(by repeat (first|exact trivial|refine⟨.inr rfl,?_⟩|refine⟨.inl rfl,?_⟩))
 iterate 2 refine q2y4.All.step rfl (qu7n.Does.pure (val:=fun x=>(.agg #[.pointer (some ⟨cb,0,none⟩),.int .i64 v])) rfl (fun x=>⟨fun h=>absurd h (by decide),fun h=>absurd h (by decide)⟩) (fun x w hm hS=>⟨rfl,rfl,qfsz rfl (K0 x w hS) (K1 x w hS)⟩)) ?_
 refine q2y4.All.step rfl (qu7n.Does.act (args:=fun x=>#[.agg #[.pointer (some ⟨cb,0,none⟩),.int .i64 v]]) (val:=fun x=>(.int .i64 n)) (nx:=fun x=>(true,x.2)) (fun y hy x=>by cases hy;rfl) (fun x=>rfl) (fun x=>⟨fun _=>rfl,fun h=>absurd h (by decide)⟩) (fun i x h=>⟨fun _=>rfl,h.2⟩) (fun i x hi h=>⟨fun e=>absurd e hi,h.2⟩) (fun x w hm hf hS=>⟨rfl,qpjl.enter1 func192 rfl rfl,H12 x w hS (hf.1 rfl)⟩)) ?_;refine q2y4.All.step rfl (qu7n.Does.pure (val:=fun x=>(.pointer (some ⟨B,1,none⟩))) rfl (fun x=>⟨fun h=>absurd h (by decide),fun h=>absurd h (by decide)⟩) (fun x w hm hS=>⟨rfl,rfl,qil8 rfl⟩)) ?_;refine q2y4.All.step rfl (qu7n.Does.pure (val:=fun x=>(.int .i64 v)) rfl (fun x=>⟨fun h=>absurd h (by decide),fun h=>absurd h (by decide)⟩) (fun x w hm hS=>⟨rfl,rfl,qd8q rfl (K1 x w hS)⟩)) ?_;refine q2y4.All.step rfl (qu7n.Does.pure (val:=fun x=>(.bool b)) rfl (fun x=>⟨fun h=>absurd h (by decide),fun h=>absurd h (by decide)⟩) (fun x w hm hS=>⟨rfl,rfl,q424 rfl rfl hb⟩)) ?_;refine q2y4.All.step rfl (qu7n.Does.act (args:=fun x=>#[.agg #[.pointer (some ⟨cb,0,none⟩),.int .i64 v],.bool b,.int .i64 5]) (val:=fun x=>(.tuple #[])) (nx:=fun x=>(x.1,true)) (fun y hy x=>by cases hy;rfl) (fun x=>rfl) (fun x=>⟨fun h=>absurd h (by decide),fun _=>rfl⟩) (fun i x h=>⟨h.1,fun _=>rfl⟩) (fun i x hi h=>⟨h.1,fun e=>absurd e hi⟩) (fun x w hm hf hS=>⟨rfl,qpjl.enter3 func116 rfl rfl rfl rfl,H16 x w hS ((hm 2 (by kernel_rfl) (by decide)).1 rfl) (hf.2 rfl)⟩)) ?_;exact q2y4.All.fin rfl
theorem qwvm{Q:Exit->Act->World->Prop}{S:Bool->World->Prop}{W:World}{B cb:Nat}{v n:Int}{b:Bool}{x0 x1 x2 x3 x4 x5 x6 x7 x9 x10 x11 x12 x13 x14 x15 x16 x17 x18 x19 x20 x21 x22 x23 x24 x25 x26 x27 x28 x29 x30 x31 x32 x33 x34 x35 x36 x37 x38 x39 x40 x41:Value}
 (hS:S false W.drew) (K0:∀x w,S x w->w.cell? ⟨B,0,none⟩=some (.pointer (some ⟨cb,0,none⟩))) (K1:∀x w,S x w->w.cell? ⟨B,1,none⟩=some (.int .i64 v)) (hb:(n==0)=b)
 (H26:∀(x:Bool) (w:World),S x w->Calls prog 84 #[.pointer (some ⟨cb,0,none⟩)] w fun e w'=>e=.returned (.int .i64 n)/\S x w')
 (H28:∀(x:Bool) (w:World),S x w->x=false->Calls prog 116 #[.agg #[.pointer (some ⟨cb,0,none⟩),.int .i64 v],.bool b,.int .i64 5] w fun e w'=>e=.returned (.tuple #[])/\S ((fun _=>true) x) w')
 (fin:∀w,S true w->Q .normal ⟨#[x0,x1,x2,x3,x4,x5,x6,x7,(.pointer (some ⟨B,0,none⟩)),x9,x10,x11,x12,x13,x14,x15,x16,x17,x18,x19,x20,x21,x22,(.agg #[.pointer (some ⟨cb,0,none⟩),.int .i64 v]),(.pointer (some ⟨B,0,none⟩)),(.pointer (some ⟨cb,0,none⟩)),(.int .i64 n),(.bool b),(.tuple #[]),x29,x30,x31,x32,x33,x34,x35,x36,x37,x38,x39,x40,x41],[]⟩ w) :
 (Code.region 5 (qfhu.opsAt 5 Tryz.f90.body) true).wp prog Q ⟨#[x0,x1,x2,x3,x4,x5,x6,x7,(.pointer (some ⟨B,0,none⟩)),x9,x10,x11,x12,x13,x14,x15,x16,x17,x18,x19,x20,x21,x22,x23,x24,x25,x26,x27,x28,x29,x30,x31,x32,x33,x34,x35,x36,x37,x38,x39,x40,x41],[]⟩ W:=by
 refine qu7n.wp (fresh:=fun i x=>(i=5->x=false)) (hf0:=fun i=>fun _=>rfl) (x:=false) (S:=S) (made:=fun i x=>(i=5->x=true)) (war:=[]) (ds:=[23,24,25,26,27,28]) (A:=[x0,x1,x2,x3,x4,x5,x6,x7,(.pointer (some ⟨B,0,none⟩)),x9,x10,x11,x12,x13,x14,x15,x16,x17,x18,x19,x20,x21,x22,x23,x24,x25,x26,x27,x28,x29,x30,x31,x32,x33,x34,x35,x36,x37,x38,x39,x40,x41]) (B:=fun x=>[x0,x1,x2,x3,x4,x5,x6,x7,(.pointer (some ⟨B,0,none⟩)),x9,x10,x11,x12,x13,x14,x15,x16,x17,x18,x19,x20,x21,x22,(.agg #[.pointer (some ⟨cb,0,none⟩),.int .i64 v]),(.pointer (some ⟨B,0,none⟩)),(.pointer (some ⟨cb,0,none⟩)),(.int .i64 n),(.bool b),(.tuple #[]),x29,x30,x31,x32,x33,x34,x35,x36,x37,x38,x39,x40,x41]) (D:=[]) (by kernel_rfl) (by kernel_rfl) (by kernel_rfl) ?_ hS ?_ (fun x w hm hS=>fin w (by have h:=hm 5 (by decide) rfl;rw[<-h];exact hS))
 ·exact fun x=>(by repeat (first|exact trivial|refine⟨.inr rfl,?_⟩|refine⟨.inl rfl,?_⟩))
 refine q2y4.All.step rfl (qu7n.Does.pure (val:=fun x=>(.agg #[.pointer (some ⟨cb,0,none⟩),.int .i64 v])) rfl (fun x=>fun h=>absurd h (by decide)) (fun x w hm hS=>⟨rfl,rfl,qfsz rfl (K0 x w hS) (K1 x w hS)⟩)) ?_;refine q2y4.All.step rfl (qu7n.Does.pure (val:=fun x=>(.pointer (some ⟨B,0,none⟩))) rfl (fun x=>fun h=>absurd h (by decide)) (fun x w hm hS=>⟨rfl,rfl,q8i8 rfl⟩)) ?_;refine q2y4.All.step rfl (qu7n.Does.pure (val:=fun x=>(.pointer (some ⟨cb,0,none⟩))) rfl (fun x=>fun h=>absurd h (by decide)) (fun x w hm hS=>⟨rfl,rfl,qpti rfl (K0 x w hS)⟩)) ?_;refine q2y4.All.step rfl (qu7n.Does.call (args:=fun x=>#[.pointer (some ⟨cb,0,none⟩)]) (val:=fun x=>(.int .i64 n)) rfl (fun x=>fun h=>absurd h (by decide)) (fun x w hm hS=>⟨rfl,rfl,qpjl.enter1 func84 rfl rfl,H26 x w hS⟩)) ?_;refine q2y4.All.step rfl (qu7n.Does.pure (val:=fun x=>(.bool b)) rfl (fun x=>fun h=>absurd h (by decide)) (fun x w hm hS=>⟨rfl,rfl,qqiz rfl hb⟩)) ?_;refine q2y4.All.step rfl (qu7n.Does.act (args:=fun x=>#[.agg #[.pointer (some ⟨cb,0,none⟩),.int .i64 v],.bool b,.int .i64 5]) (val:=fun x=>(.tuple #[])) (nx:=fun _=>true) (fun y hy x=>by cases hy;rfl) (fun x=>rfl) (fun x _=>rfl) (fun i x h e=>rfl) (fun i x hi h e=>absurd e hi) (fun x w hm hf hS=>⟨rfl,qpjl.enter3 func116 rfl rfl rfl rfl,H28 x w hS (hf rfl)⟩)) ?_;exact q2y4.All.fin rfl
end Go.Proofs.YtefmhbioggcfaaaGreatDoor
