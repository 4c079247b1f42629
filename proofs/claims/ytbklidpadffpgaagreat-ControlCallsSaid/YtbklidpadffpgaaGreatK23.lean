/- The region of polyglotref08.Done that draws. Condition: none. -/
import Derived.Great.BuildSlice
import Derived.Test.YtbklidpadffpgaaGreatK13
import Derived.Test.YtbklidpadffpgaaGreatK18
import Derived.Test.YtbklidpadffpgaaGreatK21
import Derived.Test.YtbklidpadffpgaaGreatK16
import Derived.Test.YtbklidpadffpgaaGreatK08
set_option maxRecDepth 100000
set_option maxHeartbeats 4000000
namespace Go.Proofs.YtbklidpadffpgaaGreat
open Go.RowKit
section
variable{a:Act}{w:World}{d:Option Tmp}{p:String}{af:Array Edge}{gd:Option (Nat×Bool)}{x y z:Tmp}{r:TypeId}
theorem qaf1  :
 (execOp a.eval {dst:=d,op := .build 35 #[],type:=r,pos:=p,after:=af,guard:=gd}).run Tryz.prog w = .ok (.value (.agg pkZ)) w:=by
 have hz:=qrai w
 have hne:¬pkZ=#[]:=by intro h;have:=qbwp;rw[h] at this;cases this
 have hs:=qbwp
 generalize a.eval=f at *
 go_simp
theorem q8u0{g:Nat}(hx:a.eval (.tmp x) = .pointer (some ⟨g,0,none⟩)) :
 (execOp a.eval {dst:=d,op := .nilCheck (.tmp x),type:=r,pos:=p,after:=af,guard:=gd}).run Tryz.prog w = .ok (.value (.pointer (some ⟨g,0,none⟩))) w:=by
 generalize a.eval=f at *
 go_simp
theorem qn9r{g:Nat}(hx:a.eval (.tmp x) = .pointer (some ⟨g,0,none⟩)) :
 (execOp a.eval {dst:=d,op := .fieldAddr 100 (.tmp x) 2,type:=r,pos:=p,after:=af,guard:=gd}).run Tryz.prog w = .ok (.value (.pointer (some ⟨g,2,none⟩))) w:=by
 generalize a.eval=f at *
 go_simp
theorem dn_l{g j:Nat}{k:Int}(hx:a.eval (.tmp x) = .pointer (some ⟨g,j,none⟩))(hc:w.cell? ⟨g,j,none⟩=some (.int .i64 k)) :
 (execOp a.eval {dst:=d,op := .load 27 (.tmp x),type:=27,pos:=p,after:=af,guard:=gd}).run Tryz.prog w = .ok (.value (.int .i64 k)) w:=by
 generalize a.eval=f at *
 go_simp
theorem q80d{g:Nat}{D old:Array Value}(hx:a.eval (.tmp x) = .pointer (some ⟨g,0,none⟩))(hy:a.eval (.tmp y) = .agg D)(hD:D.size=25)(h1:D.all (·.oneCell')=true)(hg:w.heap[g]? = some (.cells old 35 (0,0)))(ho:old.size=25) :
 (execOp a.eval {dst:=d,op := .store 35 (.tmp x) (.tmp y),type:=r,pos:=p,after:=af,guard:=gd}).run Tryz.prog w = .ok .skip (w.setRow g D):=by
 unfold execOp
 simp only[hx,hy,Instr.storeAt,Instr.sureAddr,Sem.run_bind,Sem.run_pure,Result.andThen_ok,run_storeVar_row w g 35 35 old D hg (by rw[hD];exact q5nr) (by rw[ho,hD]) h1]
end
theorem qy7c{Q:Exit→Act→World→Prop}{T:World→Prop}{W:World}{B cb:Nat}{z:Int}{x1 x2 x3 x4 x5 x7 x8 x9 x10 x11 x12 x13 x14 x15 x16 x17 x18 x19 x20 x21 x22 x23 x24 x25 x26 x27 x28 x29 x30 x31 x32 x33:Value}
 (hT:T W.drew) (K2:∀w,T w→w.cell? ⟨cb,2,none⟩=some (.int .i64 z)) (KB:∀w,T w→w.heap[B]? = some (.cells pkZ 35 (0,0))) (ST:∀w,T w→T (w.setRow B pkZ))
 (fin:∀w,T w→Q .normal ⟨#[(.pointer (some ⟨cb,0,none⟩)),x1,x2,x3,x4,x5,(.pointer (some ⟨B,0,none⟩)),(.int .i64 z),x8,x9,x10,x11,x12,x13,x14,x15,x16,x17,x18,x19,x20,x21,x22,x23,x24,x25,x26,x27,(.agg pkZ),(.pointer (some ⟨cb,0,none⟩)),(.pointer (some ⟨cb,0,none⟩)),(.pointer (some ⟨cb,2,none⟩)),(.int .i64 z),x33],[]⟩ w) :
 (Code.region 5 (qfhu.opsAt 5 Tryz.f37.body) true).wp Tryz.prog Q ⟨#[(.pointer (some ⟨cb,0,none⟩)),x1,x2,x3,x4,x5,(.pointer (some ⟨B,0,none⟩)),x7,x8,x9,x10,x11,x12,x13,x14,x15,x16,x17,x18,x19,x20,x21,x22,x23,x24,x25,x26,x27,x28,x29,x30,x31,x32,x33],[]⟩ W:=by
 refine q2y4.wp (x:=()) (S:=fun(_:Unit) w=>T w) (made:=fun _ _=>True) (war:=[]) (ds:=[28,29,30,31,32,7]) (D:=[]) (by kernel_rfl) (by kernel_rfl) (by kernel_rfl) ?_ hT ?_ (fun x w _ hS=>fin w hS)
 ·exact fun x=>(by repeat (first | exact trivial | refine⟨.inr rfl,?_⟩ | refine⟨.inl rfl,?_⟩))
 refine q2y4.pu rfl rfl (fun _=>trivial) (fun x w hm hS=>⟨rfl,rfl,qaf1⟩) ?_
 refine q2y4.pu rfl rfl (fun _=>trivial) (fun x w hm hS=>⟨rfl,rfl,rfl⟩) ?_
 refine q2y4.pu rfl rfl (fun _=>trivial) (fun x w hm hS=>⟨rfl,rfl,q8u0 rfl⟩) ?_
 refine q2y4.pu rfl rfl (fun _=>trivial) (fun x w hm hS=>⟨rfl,rfl,qn9r rfl⟩) ?_
 refine q2y4.pu rfl rfl (fun _=>trivial) (fun x w hm hS=>⟨rfl,rfl,dn_l rfl (K2 w hS)⟩) ?_
 refine q2y4.All.step rfl ((fun x w hm hS => .inl ⟨rfl,.skip x _ (q80d rfl rfl qbwp (qmz0 Pk.zero adZ) (KB w hS) qbwp) ⟨fun d hd=>(by cases hd),ST w hS,trivial,fun i h=>h,[],rfl,q2y4.off_refl 0 _⟩⟩)) ?_
 refine q2y4.pu rfl rfl (fun _=>trivial) (fun x w hm hS=>⟨rfl,rfl,rfl⟩) ?_
 exact q2y4.All.fin rfl
theorem qn0u{Q:Exit→Act→World→Prop}{S:Bool×Bool→World→Prop}{W:World}{B R cb:Nat}{v k z:Int}{C D:Array Value}{x1 x2 x3 x4 x5 x7 x10 x11 x12 x13 x14 x15 x16 x17 x18 x19 x20 x21 x22 x23 x24 x25 x26 x27 x28 x29 x30 x31 x32 x33 x34 x35 x36 x37 x38 x39 x40 x41 x42 x43 x44 x45 x46 x47 x48 x49 x50 x51 x52 x53:Value}
 (hS:S (false,false) W.drew) (hC:C.size=25) (hD1:D.size=25) (hD2:D.all (·.oneCell')=true) (KB:∀x w,S x w→w.heap[B]? = some (.cells C 35 (0,0))) (KR:∀x w,S x w→x.2=false→w.heap[R]? = some (.cells pkZ 35 (0,0)))
 (HV:∀(x:Bool×Bool) (w:World),S x w→Calls Tryz.prog 17 #[(.int .i64 v),(.agg C)] w fun e w'=>e = .returned (.int .i64 k)∧S x w')
 (HD:∀(x:Bool×Bool) (w:World),S x w→x.1=false→Calls Tryz.prog 37 #[(.pointer (some ⟨cb,0,none⟩)),(.agg C),(.int .i64 k)] w fun e w'=>e = .returned (.tuple #[(.agg D),(.int .i64 z)])∧S (true,x.2) w')
 (ST:∀x w,S x w→x.1=true→x.2=false→S (x.1,true) (w.setRow R D))
 (fin:∀w,S (true,true) w→Q .normal ⟨#[(.int .i64 v),x1,x2,x3,x4,x5,(.pointer (some ⟨R,0,none⟩)),(.int .i64 z),(.pointer (some ⟨cb,0,none⟩)),(.pointer (some ⟨B,0,none⟩)),x10,x11,x12,x13,x14,x15,x16,x17,x18,x19,x20,x21,x22,x23,x24,x25,x26,x27,x28,x29,x30,x31,x32,x33,x34,x35,x36,x37,x38,x39,x40,x41,x42,x43,x44,x45,(.pointer (some ⟨cb,0,none⟩)),(.agg C),(.int .i64 v),(.agg C),(.int .i64 k),(.tuple #[(.agg D),(.int .i64 z)]),(.agg D),(.int .i64 z)],[]⟩ w) :
 (Code.region 9 (qfhu.opsAt 9 Tryz.f16.body) true).wp Tryz.prog Q ⟨#[(.int .i64 v),x1,x2,x3,x4,x5,(.pointer (some ⟨R,0,none⟩)),x7,(.pointer (some ⟨cb,0,none⟩)),(.pointer (some ⟨B,0,none⟩)),x10,x11,x12,x13,x14,x15,x16,x17,x18,x19,x20,x21,x22,x23,x24,x25,x26,x27,x28,x29,x30,x31,x32,x33,x34,x35,x36,x37,x38,x39,x40,x41,x42,x43,x44,x45,x46,x47,x48,x49,x50,x51,x52,x53],[]⟩ W:=by
 refine qu7n.wp (fresh:=fun i x=>(i=5→x.1=false)∧(i=8→x.2=false)) (hf0:=fun i=>⟨fun _=>rfl,fun _=>rfl⟩) (x:=(false,false)) (S:=S) (made:=fun i x=>(i=5→x.1=true)∧(i=8→x.2=true)) (war:=[]) (ds:=[46,47,48,49,50,51,52,53,7]) (A:=[(.int .i64 v),x1,x2,x3,x4,x5,(.pointer (some ⟨R,0,none⟩)),x7,(.pointer (some ⟨cb,0,none⟩)),(.pointer (some ⟨B,0,none⟩)),x10,x11,x12,x13,x14,x15,x16,x17,x18,x19,x20,x21,x22,x23,x24,x25,x26,x27,x28,x29,x30,x31,x32,x33,x34,x35,x36,x37,x38,x39,x40,x41,x42,x43,x44,x45,x46,x47,x48,x49,x50,x51,x52,x53]) (B:=fun x=>[(.int .i64 v),x1,x2,x3,x4,x5,(.pointer (some ⟨R,0,none⟩)),(.int .i64 z),(.pointer (some ⟨cb,0,none⟩)),(.pointer (some ⟨B,0,none⟩)),x10,x11,x12,x13,x14,x15,x16,x17,x18,x19,x20,x21,x22,x23,x24,x25,x26,x27,x28,x29,x30,x31,x32,x33,x34,x35,x36,x37,x38,x39,x40,x41,x42,x43,x44,x45,(.pointer (some ⟨cb,0,none⟩)),(.agg C),(.int .i64 v),(.agg C),(.int .i64 k),(.tuple #[(.agg D),(.int .i64 z)]),(.agg D),(.int .i64 z)]) (D:=[]) (by kernel_rfl) (by kernel_rfl) (by kernel_rfl) ?_ hS ?_ ?_
 ·exact fun x=>(by repeat (first | exact trivial | refine⟨.inr rfl,?_⟩ | refine⟨.inl rfl,?_⟩))
 refine q2y4.All.step rfl (qu7n.Does.pure (val:=fun x=>(.pointer (some ⟨cb,0,none⟩))) rfl (fun x=>⟨fun h=>absurd h (by decide),fun h=>absurd h (by decide)⟩) (fun x w hm hS=>⟨rfl,rfl,rfl⟩)) ?_
 refine q2y4.All.step rfl (qu7n.Does.pure (val:=fun x=>(.agg C)) rfl (fun x=>⟨fun h=>absurd h (by decide),fun h=>absurd h (by decide)⟩) (fun x w hm hS=>⟨rfl,rfl,qjuh rfl hC (KB x w hS)⟩)) ?_
 refine q2y4.All.step rfl (qu7n.Does.pure (val:=fun x=>(.int .i64 v)) rfl (fun x=>⟨fun h=>absurd h (by decide),fun h=>absurd h (by decide)⟩) (fun x w hm hS=>⟨rfl,rfl,rfl⟩)) ?_
 refine q2y4.All.step rfl (qu7n.Does.pure (val:=fun x=>(.agg C)) rfl (fun x=>⟨fun h=>absurd h (by decide),fun h=>absurd h (by decide)⟩) (fun x w hm hS=>⟨rfl,rfl,qjuh rfl hC (KB x w hS)⟩)) ?_
 refine q2y4.All.step rfl (qu7n.Does.call (args:=fun x=>#[(.int .i64 v),(.agg C)]) (val:=fun x=>(.int .i64 k)) rfl (fun x=>⟨fun h=>absurd h (by decide),fun h=>absurd h (by decide)⟩) (fun x w hm hS=>⟨rfl,rfl,qpjl.enter2 Tryz.func17 rfl rfl rfl,HV x w hS⟩)) ?_
 refine q2y4.All.step rfl (qu7n.Does.act (args:=fun x=>#[(.pointer (some ⟨cb,0,none⟩)),(.agg C),(.int .i64 k)]) (val:=fun x=>(.tuple #[(.agg D),(.int .i64 z)])) (nx:=fun x=>(true,x.2)) (fun y hy x=>by cases hy;rfl) (fun x=>rfl) (fun x=>⟨fun _=>rfl,fun h=>absurd h (by decide)⟩) (fun i x h=>⟨fun _=>rfl,h.2⟩) (fun i x hi h=>⟨fun e=>absurd e hi,h.2⟩) (fun x w hm hf hS=>⟨rfl,qpjl.enter3 Tryz.func37 rfl rfl rfl rfl,HD x w hS (hf.1 rfl)⟩)) ?_
 refine q2y4.All.step rfl (qu7n.Does.pure (val:=fun x=>(.agg D)) rfl (fun x=>⟨fun h=>absurd h (by decide),fun h=>absurd h (by decide)⟩) (fun x w hm hS=>⟨rfl,rfl,rfl⟩)) ?_
 refine q2y4.All.step rfl (qu7n.Does.pure (val:=fun x=>(.int .i64 z)) rfl (fun x=>⟨fun h=>absurd h (by decide),fun h=>absurd h (by decide)⟩) (fun x w hm hS=>⟨rfl,rfl,rfl⟩)) ?_
 refine q2y4.All.step rfl ((fun x w hm hf hS => .inl ⟨rfl,.skip (x.1,true) _ (q80d rfl rfl hD1 hD2 (KR x w hS (hf.2 rfl)) qbwp) ⟨fun d hd=>(by cases hd),ST x w hS ((hm 5 (by kernel_rfl) (by decide)).1 rfl) (hf.2 rfl),⟨fun h=>absurd h (by decide),fun _=>rfl⟩,fun i h=>⟨h.1,fun _=>rfl⟩,fun i hi h=>⟨h.1,fun e=>absurd e hi⟩,[],rfl,q2y4.off_refl 0 _⟩⟩)) ?_
 refine q2y4.All.step rfl (qu7n.Does.pure (val:=fun x=>(.int .i64 z)) rfl (fun x=>⟨fun h=>absurd h (by decide),fun h=>absurd h (by decide)⟩) (fun x w hm hS=>⟨rfl,rfl,rfl⟩)) ?_
 ·exact q2y4.All.fin rfl
 exact(fun x w hm hS=>fin w (by have h:=(hm 5 (by decide+kernel)).1 rfl;have h2:=(hm 8 (by decide+kernel)).2 rfl;rw[show(true,true)=x from(Prod.ext h h2).symm];exact hS))
structure OwG where
 s:Nat→Nat
 A:Nat→Option Addr
 c:Nat→Nat
def OwG.none:OwG:=⟨fun _=>0,fun _ => .none,fun _=>0⟩
def OwG.to(x:OwG)(k n:Nat):OwG:={x with s:=fun i=>if i=k then n else x.s i}
def OwG.got(x:OwG)(k:Nat)(A:Option Addr)(c:Nat):OwG:=⟨fun i=>if i=k then 2 else x.s i,fun i=>if i=k then A else x.A i,fun i=>if i=k then c else x.c i⟩
def owSt:Nat→Option (Nat×Nat)
 | 1=>some (0,1)
 | 2=>some (0,2)
 | 14=>some (0,3)
 | 4=>some (1,1)
 | 5=>some (1,2)
 | 16=>some (1,3)
 | 7=>some (2,1)
 | 8=>some (2,2)
 | 18=>some (2,3)
 | 11=>some (3,1)
 | 12=>some (3,2)
 | 21=>some (3,3)
 | _ => .none
def owOf:Nat→Nat→Nat
 | 0,1=>1
 | 0,2=>2
 | 0,3=>14
 | 1,1=>4
 | 1,2=>5
 | 1,3=>16
 | 2,1=>7
 | 2,2=>8
 | 2,3=>18
 | 3,1=>11
 | 3,2=>12
 | 3,3=>21
 | _,_=>0
theorem qgrd{i k n:Nat}(h:owSt i=some (k,n)):owOf k n=i:=by
 unfold owSt at h
 split at h<;>cases h<;>rfl
theorem qhef{i k n:Nat}(h:owSt i=some (k,n)):0 < n:=by
 unfold owSt at h
 split at h<;>cases h<;>decide
section
variable{x:OwG}{i j k n:Nat}
theorem qcow(hj:owSt j=some (k,n))(_:x.s k+1=n):∀k' n',owSt j=some (k',n')→n'≤(x.to k n).s k':=fun k' n' h=>by
 rw[hj] at h
 cases h
 simp[OwG.to]
theorem qedx(hs:x.s k+1=n)(h:∀k' n',owSt i=some (k',n')→n'≤x.s k'):∀k' n',owSt i=some (k',n')→n'≤(x.to k n).s k':=fun k' n' hi=>by
 have:=h k' n' hi
 unfold OwG.to
 by_cases e:k'=k
 ·subst e;simp;omega
 ·simp[e];exact this
theorem qjl5(hj:owSt j=some (k,n))(hs:x.s k+1=n)(hne:i≠j)(h:∀k' n',owSt i=some (k',n')→x.s k' < n'):∀k' n',owSt i=some (k',n')→(x.to k n).s k' < n':=fun k' n' hi=>by
 have h1:=h k' n' hi
 unfold OwG.to
 by_cases e:k'=k
 ·subst e
  have:n'≠n:=fun e=>by subst e;exact hne ((qgrd hi).symm.trans (qgrd hj))
  simp;omega
 ·simp[e];exact h1
end
def qnt6(a:Ad)(x:OwG):Ad:={w:=if 3≤x.s 3 then x.A 3 else a.w,wc:=if 3≤x.s 3 then x.c 3 else a.wc,cs:=if 3≤x.s 0 then x.A 0 else a.cs,cc:=if 3≤x.s 0 then x.c 0 else a.cc,fs:=if 3≤x.s 1 then x.A 1 else a.fs,fc:=if 3≤x.s 1 then x.c 1 else a.fc,ps:=if 3≤x.s 2 then x.A 2 else a.ps,pc:=if 3≤x.s 2 then x.c 2 else a.pc}
theorem qarg{W:World}{b:Nat}{p:Pk}{a:Ad}{x:OwG}(h:W.heap[b]? = some (.cells (pkC p (qnt6 a x)) 35 (0,0)))(hs:x.s 0 < 3):W.cell? ⟨b,22,none⟩=some (.slice a.cs p.codes.length a.cc):=by
 rw[cell_of_row _ _ 22 _ _ _ h]
 simp only[pkC,qnt6,if_neg (show ¬3≤x.s 0 by omega)]
 rfl
theorem qwga{W:World}{b:Nat}{p:Pk}{a:Ad}{x:OwG}(h:W.heap[b]? = some (.cells (pkC p (qnt6 a x)) 35 (0,0)))(hs:x.s 1 < 3):W.cell? ⟨b,23,none⟩=some (.slice a.fs p.filters.length a.fc):=by
 rw[cell_of_row _ _ 23 _ _ _ h]
 simp only[pkC,qnt6,if_neg (show ¬3≤x.s 1 by omega)]
 rfl
theorem q6hp{W:World}{b:Nat}{p:Pk}{a:Ad}{x:OwG}(h:W.heap[b]? = some (.cells (pkC p (qnt6 a x)) 35 (0,0)))(hs:x.s 2 < 3):W.cell? ⟨b,24,none⟩=some (.slice a.ps p.props.length a.pc):=by
 rw[cell_of_row _ _ 24 _ _ _ h]
 simp only[pkC,qnt6,if_neg (show ¬3≤x.s 2 by omega)]
 rfl
theorem qgrp{W:World}{b:Nat}{p:Pk}{a:Ad}{x:OwG}(h:W.heap[b]? = some (.cells (pkC p (qnt6 a x)) 35 (0,0)))(hs:x.s 3 < 3):W.cell? ⟨b,19,none⟩=some (.slice a.w p.wProps.length a.wc):=by
 rw[cell_of_row _ _ 19 _ _ _ h]
 simp only[pkC,qnt6,if_neg (show ¬3≤x.s 3 by omega)]
 rfl
section
variable{a:Act}{w:World}{d:Option Tmp}{p:String}{af:Array Edge}{gd:Option (Nat×Bool)}{x y z:Tmp}{r:TypeId}
theorem q0zh{g:Nat}(hx:a.eval (.tmp x) = .pointer (some ⟨g,0,none⟩)) :
 (execOp a.eval {dst:=d,op := .fieldAddr 35 (.tmp x) 18,type:=r,pos:=p,after:=af,guard:=gd}).run Tryz.prog w = .ok (.value (.pointer (some ⟨g,22,none⟩))) w:=by
 generalize a.eval=f at *
 go_simp
theorem q2iq{g:Nat}(hx:a.eval (.tmp x) = .pointer (some ⟨g,0,none⟩)) :
 (execOp a.eval {dst:=d,op := .fieldAddr 35 (.tmp x) 19,type:=r,pos:=p,after:=af,guard:=gd}).run Tryz.prog w = .ok (.value (.pointer (some ⟨g,23,none⟩))) w:=by
 generalize a.eval=f at *
 go_simp
theorem qxry{g:Nat}(hx:a.eval (.tmp x) = .pointer (some ⟨g,0,none⟩)) :
 (execOp a.eval {dst:=d,op := .fieldAddr 35 (.tmp x) 20,type:=r,pos:=p,after:=af,guard:=gd}).run Tryz.prog w = .ok (.value (.pointer (some ⟨g,24,none⟩))) w:=by
 generalize a.eval=f at *
 go_simp
theorem qtdp{g:Nat}(hx:a.eval (.tmp x) = .pointer (some ⟨g,0,none⟩)) :
 (execOp a.eval {dst:=d,op := .fieldAddr 35 (.tmp x) 15,type:=r,pos:=p,after:=af,guard:=gd}).run Tryz.prog w = .ok (.value (.pointer (some ⟨g,15,none⟩))) w:=by
 generalize a.eval=f at *
 go_simp
theorem qtwp{g:Nat}(hx:a.eval (.tmp x) = .pointer (some ⟨g,15,none⟩)) :
 (execOp a.eval {dst:=d,op := .fieldAddr 31 (.tmp x) 4,type:=r,pos:=p,after:=af,guard:=gd}).run Tryz.prog w = .ok (.value (.pointer (some ⟨g,19,none⟩))) w:=by
 generalize a.eval=f at *
 go_simp
theorem q2ns{g j n c:Nat}{A:Option Addr}(hx:a.eval (.tmp x) = .pointer (some ⟨g,j,none⟩))(hc:w.cell? ⟨g,j,none⟩=some (.slice A n c)) :
 (execOp a.eval {dst:=d,op := .load 32 (.tmp x),type:=32,pos:=p,after:=af,guard:=gd}).run Tryz.prog w = .ok (.value (.slice A n c)) w:=by
 generalize a.eval=f at *
 go_simp
theorem q4bt{g j n c n' c':Nat}{A A':Option Addr}(hx:a.eval (.tmp x) = .pointer (some ⟨g,j,none⟩))(hy:a.eval (.tmp y) = .slice A n c)(hc:w.cell? ⟨g,j,none⟩=some (.slice A' n' c'))(hf:w.frozen? ⟨g,j,none⟩=false) :
 (execOp a.eval {dst:=d,op := .store 32 (.tmp x) (.tmp y),type:=r,pos:=p,after:=af,guard:=gd}).run Tryz.prog w = .ok .skip (w.setCell ⟨g,j,none⟩ (.slice A n c)):=by
 generalize a.eval=f at *
 go_simp
theorem qvo7{g j n c:Nat}{A:Option Addr}(hx:a.eval (.tmp x) = .pointer (some ⟨g,j,none⟩))(hc:w.cell? ⟨g,j,none⟩=some (.slice A n c)) :
 (execOp a.eval {dst:=d,op := .load 33 (.tmp x),type:=33,pos:=p,after:=af,guard:=gd}).run Tryz.prog w = .ok (.value (.slice A n c)) w:=by
 generalize a.eval=f at *
 go_simp
theorem qdxg{g j n c n' c':Nat}{A A':Option Addr}(hx:a.eval (.tmp x) = .pointer (some ⟨g,j,none⟩))(hy:a.eval (.tmp y) = .slice A n c)(hc:w.cell? ⟨g,j,none⟩=some (.slice A' n' c'))(hf:w.frozen? ⟨g,j,none⟩=false) :
 (execOp a.eval {dst:=d,op := .store 33 (.tmp x) (.tmp y),type:=r,pos:=p,after:=af,guard:=gd}).run Tryz.prog w = .ok .skip (w.setCell ⟨g,j,none⟩ (.slice A n c)):=by
 generalize a.eval=f at *
 go_simp
theorem q2vi{g j n c:Nat}{A:Option Addr}(hx:a.eval (.tmp x) = .pointer (some ⟨g,j,none⟩))(hc:w.cell? ⟨g,j,none⟩=some (.slice A n c)) :
 (execOp a.eval {dst:=d,op := .load 26 (.tmp x),type:=26,pos:=p,after:=af,guard:=gd}).run Tryz.prog w = .ok (.value (.slice A n c)) w:=by
 generalize a.eval=f at *
 go_simp
theorem qshq{g j n c n' c':Nat}{A A':Option Addr}(hx:a.eval (.tmp x) = .pointer (some ⟨g,j,none⟩))(hy:a.eval (.tmp y) = .slice A n c)(hc:w.cell? ⟨g,j,none⟩=some (.slice A' n' c'))(hf:w.frozen? ⟨g,j,none⟩=false) :
 (execOp a.eval {dst:=d,op := .store 26 (.tmp x) (.tmp y),type:=r,pos:=p,after:=af,guard:=gd}).run Tryz.prog w = .ok .skip (w.setCell ⟨g,j,none⟩ (.slice A n c)):=by
 generalize a.eval=f at *
 go_simp
end
theorem qc1g{Q:Exit→Act→World→Prop}{S:OwG→World→Prop}{W:World}{b:Nat}{p:Pk}{a:Ad}{x0 x2 x3 x4 x5 x6 x7 x8 x9 x10 x11 x12 x13 x14 x15 x16 x17 x18 x19 x20 x21:Value}
 (hS:S OwG.none W.drew) (KB:∀x w,S x w→w.heap[b]? = some (.cells (pkC p (qnt6 a x)) 35 (0,0)))
 (LD:∀k x w,k < 4→S x w→x.s k=0→S (x.to k 1) w)
 (H0:∀(x:OwG) (w:World),S x w→x.s 0=1→Calls Tryz.prog 30 #[(.slice a.cs p.codes.length a.cc)] w fun e w'=>∃A c,e = .returned (.slice A p.codes.length c)∧S (x.got 0 A c) w')
 (T0:∀(x:OwG) (w:World),S x w→x.s 0=2→S (x.to 0 3) (w.setCell ⟨b,22,none⟩ (.slice (x.A 0) p.codes.length (x.c 0))))
 (H1:∀(x:OwG) (w:World),S x w→x.s 1=1→Calls Tryz.prog 31 #[(.slice a.fs p.filters.length a.fc)] w fun e w'=>∃A c,e = .returned (.slice A p.filters.length c)∧S (x.got 1 A c) w')
 (T1:∀(x:OwG) (w:World),S x w→x.s 1=2→S (x.to 1 3) (w.setCell ⟨b,23,none⟩ (.slice (x.A 1) p.filters.length (x.c 1))))
 (H2:∀(x:OwG) (w:World),S x w→x.s 2=1→Calls Tryz.prog 32 #[(.slice a.ps p.props.length a.pc)] w fun e w'=>∃A c,e = .returned (.slice A p.props.length c)∧S (x.got 2 A c) w')
 (T2:∀(x:OwG) (w:World),S x w→x.s 2=2→S (x.to 2 3) (w.setCell ⟨b,24,none⟩ (.slice (x.A 2) p.props.length (x.c 2))))
 (H3:∀(x:OwG) (w:World),S x w→x.s 3=1→Calls Tryz.prog 32 #[(.slice a.w p.wProps.length a.wc)] w fun e w'=>∃A c,e = .returned (.slice A p.wProps.length c)∧S (x.got 3 A c) w')
 (T3:∀(x:OwG) (w:World),S x w→x.s 3=2→S (x.to 3 3) (w.setCell ⟨b,19,none⟩ (.slice (x.A 3) p.wProps.length (x.c 3))))
 (fin:∀x w,S x w→(3≤x.s 0∧3≤x.s 1∧3≤x.s 2∧3≤x.s 3)→Q .normal ⟨#[x0,(.pointer (some ⟨b,0,none⟩)),x2,(.pointer (some ⟨b,22,none⟩)),(.slice a.cs p.codes.length a.cc),(.slice (x.A 0) p.codes.length (x.c 0)),(.pointer (some ⟨b,23,none⟩)),(.slice a.fs p.filters.length a.fc),(.slice (x.A 1) p.filters.length (x.c 1)),(.pointer (some ⟨b,24,none⟩)),(.slice a.ps p.props.length a.pc),(.slice (x.A 2) p.props.length (x.c 2)),(.pointer (some ⟨b,15,none⟩)),(.pointer (some ⟨b,19,none⟩)),(.slice a.w p.wProps.length a.wc),(.slice (x.A 3) p.wProps.length (x.c 3)),(.pointer (some ⟨b,22,none⟩)),(.pointer (some ⟨b,23,none⟩)),(.pointer (some ⟨b,24,none⟩)),(.pointer (some ⟨b,15,none⟩)),(.pointer (some ⟨b,19,none⟩)),x21],[]⟩ w) :
 (Code.region 1 (qfhu.opsAt 1 Tryz.f14.body) true).wp Tryz.prog Q ⟨#[x0,(.pointer (some ⟨b,0,none⟩)),x2,x3,x4,x5,x6,x7,x8,x9,x10,x11,x12,x13,x14,x15,x16,x17,x18,x19,x20,x21],[]⟩ W:=by
 refine qu7n.wp (fresh:=fun i x=>∀k n,owSt i=some (k,n)→x.s k < n) (hf0:=fun i k n h=>qhef h) (x:=OwG.none) (S:=S) (made:=fun i x=>∀k n,owSt i=some (k,n)→n≤x.s k) (war:=[]) (ds:=[3,4,5,6,7,8,9,10,11,12,13,14,15,16,17,18,19,20]) (A:=[x0,(.pointer (some ⟨b,0,none⟩)),x2,x3,x4,x5,x6,x7,x8,x9,x10,x11,x12,x13,x14,x15,x16,x17,x18,x19,x20,x21]) (B:=fun x=>[x0,(.pointer (some ⟨b,0,none⟩)),x2,(.pointer (some ⟨b,22,none⟩)),(.slice a.cs p.codes.length a.cc),(.slice (x.A 0) p.codes.length (x.c 0)),(.pointer (some ⟨b,23,none⟩)),(.slice a.fs p.filters.length a.fc),(.slice (x.A 1) p.filters.length (x.c 1)),(.pointer (some ⟨b,24,none⟩)),(.slice a.ps p.props.length a.pc),(.slice (x.A 2) p.props.length (x.c 2)),(.pointer (some ⟨b,15,none⟩)),(.pointer (some ⟨b,19,none⟩)),(.slice a.w p.wProps.length a.wc),(.slice (x.A 3) p.wProps.length (x.c 3)),(.pointer (some ⟨b,22,none⟩)),(.pointer (some ⟨b,23,none⟩)),(.pointer (some ⟨b,24,none⟩)),(.pointer (some ⟨b,15,none⟩)),(.pointer (some ⟨b,19,none⟩)),x21]) (D:=[]) (by kernel_rfl) (by kernel_rfl) (by kernel_rfl) ?_ hS ?_ (fun x w hm hS=>fin x w hS (by have h0:=hm 14 (by decide) 0 3 rfl;have h1:=hm 16 (by decide) 1 3 rfl;have h2:=hm 18 (by decide) 2 3 rfl;have h3:=hm 21 (by decide) 3 3 rfl;exact⟨h0,h1,h2,h3⟩))
 ·exact fun x=>(by repeat (first | exact trivial | refine⟨.inr rfl,?_⟩ | refine⟨.inl rfl,?_⟩))
 refine q2y4.All.step rfl (qu7n.Does.pure (val:=fun x=>(.pointer (some ⟨b,22,none⟩))) rfl (fun x k n h=>by cases h) (fun x w hm hS=>⟨rfl,rfl,q0zh rfl⟩)) ?_
 refine q2y4.All.step rfl ((fun x w hm hf hS=>by
  have hs:x.s 0+1=1:=by have:=hf 0 1 rfl;omega
  exact .inl ⟨rfl,.value _ (x.to 0 1) w (q2ns rfl (qarg (KB x w hS) (by omega))) ⟨fun d hd=>by cases hd;rfl,LD 0 x w (by decide) hS (by omega),qcow (x:=x) (k:=0) (n:=1) rfl hs,fun i h=>qedx (k:=0) (n:=1) hs h,fun i hi h=>qjl5 (j:=1) (k:=0) (n:=1) rfl hs hi h,[],rfl,q2y4.off_refl 0 _⟩⟩)) ?_
 refine q2y4.All.step rfl ((fun x w hm hf hS=>by
  have hs:x.s 0+1=2:=by have:=hf 0 2 rfl;have:=hm 1 (by kernel_rfl) (by decide) 0 1 rfl;omega
  exact .inl ⟨rfl,.call _ _ (qpjl.enter1 Tryz.func30 rfl rfl) ((H0 x w hS (by omega)).mono fun e w' ⟨A',c',he,hk⟩=>⟨_,x.got 0 A' c',he,fun d hd=>by cases hd;rfl,hk,qcow (x:=x) (k:=0) (n:=2) rfl hs,fun i h=>qedx (k:=0) (n:=2) hs h,fun i hi h=>qjl5 (j:=2) (k:=0) (n:=2) rfl hs hi h,[5],by kernel_rfl,(by repeat (first | exact trivial | refine⟨.inr rfl,?_⟩ | refine⟨.inl rfl,?_⟩))⟩)⟩)) ?_
 refine q2y4.All.step rfl (qu7n.Does.pure (val:=fun x=>(.pointer (some ⟨b,23,none⟩))) rfl (fun x k n h=>by cases h) (fun x w hm hS=>⟨rfl,rfl,q2iq rfl⟩)) ?_
 refine q2y4.All.step rfl ((fun x w hm hf hS=>by
  have hs:x.s 1+1=1:=by have:=hf 1 1 rfl;omega
  exact .inl ⟨rfl,.value _ (x.to 1 1) w (qvo7 rfl (qwga (KB x w hS) (by omega))) ⟨fun d hd=>by cases hd;rfl,LD 1 x w (by decide) hS (by omega),qcow (x:=x) (k:=1) (n:=1) rfl hs,fun i h=>qedx (k:=1) (n:=1) hs h,fun i hi h=>qjl5 (j:=4) (k:=1) (n:=1) rfl hs hi h,[],rfl,q2y4.off_refl 0 _⟩⟩)) ?_
 refine q2y4.All.step rfl ((fun x w hm hf hS=>by
  have hs:x.s 1+1=2:=by have:=hf 1 2 rfl;have:=hm 4 (by kernel_rfl) (by decide) 1 1 rfl;omega
  exact .inl ⟨rfl,.call _ _ (qpjl.enter1 Tryz.func31 rfl rfl) ((H1 x w hS (by omega)).mono fun e w' ⟨A',c',he,hk⟩=>⟨_,x.got 1 A' c',he,fun d hd=>by cases hd;rfl,hk,qcow (x:=x) (k:=1) (n:=2) rfl hs,fun i h=>qedx (k:=1) (n:=2) hs h,fun i hi h=>qjl5 (j:=5) (k:=1) (n:=2) rfl hs hi h,[8],by kernel_rfl,(by repeat (first | exact trivial | refine⟨.inr rfl,?_⟩ | refine⟨.inl rfl,?_⟩))⟩)⟩)) ?_
 refine q2y4.All.step rfl (qu7n.Does.pure (val:=fun x=>(.pointer (some ⟨b,24,none⟩))) rfl (fun x k n h=>by cases h) (fun x w hm hS=>⟨rfl,rfl,qxry rfl⟩)) ?_
 refine q2y4.All.step rfl ((fun x w hm hf hS=>by
  have hs:x.s 2+1=1:=by have:=hf 2 1 rfl;omega
  exact .inl ⟨rfl,.value _ (x.to 2 1) w (q2vi rfl (q6hp (KB x w hS) (by omega))) ⟨fun d hd=>by cases hd;rfl,LD 2 x w (by decide) hS (by omega),qcow (x:=x) (k:=2) (n:=1) rfl hs,fun i h=>qedx (k:=2) (n:=1) hs h,fun i hi h=>qjl5 (j:=7) (k:=2) (n:=1) rfl hs hi h,[],rfl,q2y4.off_refl 0 _⟩⟩)) ?_
 refine q2y4.All.step rfl ((fun x w hm hf hS=>by
  have hs:x.s 2+1=2:=by have:=hf 2 2 rfl;have:=hm 7 (by kernel_rfl) (by decide) 2 1 rfl;omega
  exact .inl ⟨rfl,.call _ _ (qpjl.enter1 Tryz.func32 rfl rfl) ((H2 x w hS (by omega)).mono fun e w' ⟨A',c',he,hk⟩=>⟨_,x.got 2 A' c',he,fun d hd=>by cases hd;rfl,hk,qcow (x:=x) (k:=2) (n:=2) rfl hs,fun i h=>qedx (k:=2) (n:=2) hs h,fun i hi h=>qjl5 (j:=8) (k:=2) (n:=2) rfl hs hi h,[11],by kernel_rfl,(by repeat (first | exact trivial | refine⟨.inr rfl,?_⟩ | refine⟨.inl rfl,?_⟩))⟩)⟩)) ?_
 refine q2y4.All.step rfl (qu7n.Does.pure (val:=fun x=>(.pointer (some ⟨b,15,none⟩))) rfl (fun x k n h=>by cases h) (fun x w hm hS=>⟨rfl,rfl,qtdp rfl⟩)) ?_
 refine q2y4.All.step rfl (qu7n.Does.pure (val:=fun x=>(.pointer (some ⟨b,19,none⟩))) rfl (fun x k n h=>by cases h) (fun x w hm hS=>⟨rfl,rfl,qtwp rfl⟩)) ?_
 refine q2y4.All.step rfl ((fun x w hm hf hS=>by
  have hs:x.s 3+1=1:=by have:=hf 3 1 rfl;omega
  exact .inl ⟨rfl,.value _ (x.to 3 1) w (q2vi rfl (qgrp (KB x w hS) (by omega))) ⟨fun d hd=>by cases hd;rfl,LD 3 x w (by decide) hS (by omega),qcow (x:=x) (k:=3) (n:=1) rfl hs,fun i h=>qedx (k:=3) (n:=1) hs h,fun i hi h=>qjl5 (j:=11) (k:=3) (n:=1) rfl hs hi h,[],rfl,q2y4.off_refl 0 _⟩⟩)) ?_
 refine q2y4.All.step rfl ((fun x w hm hf hS=>by
  have hs:x.s 3+1=2:=by have:=hf 3 2 rfl;have:=hm 11 (by kernel_rfl) (by decide) 3 1 rfl;omega
  exact .inl ⟨rfl,.call _ _ (qpjl.enter1 Tryz.func32 rfl rfl) ((H3 x w hS (by omega)).mono fun e w' ⟨A',c',he,hk⟩=>⟨_,x.got 3 A' c',he,fun d hd=>by cases hd;rfl,hk,qcow (x:=x) (k:=3) (n:=2) rfl hs,fun i h=>qedx (k:=3) (n:=2) hs h,fun i hi h=>qjl5 (j:=12) (k:=3) (n:=2) rfl hs hi h,[15],by kernel_rfl,(by repeat (first | exact trivial | refine⟨.inr rfl,?_⟩ | refine⟨.inl rfl,?_⟩))⟩)⟩)) ?_
 refine q2y4.All.step rfl (qu7n.Does.pure (val:=fun x=>(.pointer (some ⟨b,22,none⟩))) rfl (fun x k n h=>by cases h) (fun x w hm hS=>⟨rfl,rfl,q0zh rfl⟩)) ?_
 refine q2y4.All.step rfl ((fun x w hm hf hS=>by
  have hs:x.s 0+1=3:=by have:=hf 0 3 rfl;have:=hm 2 (by kernel_rfl) (by decide) 0 2 rfl;omega
  exact .inl ⟨rfl,.skip (x.to 0 3) _ (q4bt rfl rfl (qarg (KB x w hS) (by omega)) (frozen_of_row _ _ _ _ _ (KB x w hS))) ⟨fun d hd=>(by cases hd),T0 x w hS (by omega),qcow (x:=x) (k:=0) (n:=3) rfl hs,fun i h=>qedx (k:=0) (n:=3) hs h,fun i hi h=>qjl5 (j:=14) (k:=0) (n:=3) rfl hs hi h,[],rfl,q2y4.off_refl 0 _⟩⟩)) ?_
 refine q2y4.All.step rfl (qu7n.Does.pure (val:=fun x=>(.pointer (some ⟨b,23,none⟩))) rfl (fun x k n h=>by cases h) (fun x w hm hS=>⟨rfl,rfl,q2iq rfl⟩)) ?_
 refine q2y4.All.step rfl ((fun x w hm hf hS=>by
  have hs:x.s 1+1=3:=by have:=hf 1 3 rfl;have:=hm 5 (by kernel_rfl) (by decide) 1 2 rfl;omega
  exact .inl ⟨rfl,.skip (x.to 1 3) _ (qdxg rfl rfl (qwga (KB x w hS) (by omega)) (frozen_of_row _ _ _ _ _ (KB x w hS))) ⟨fun d hd=>(by cases hd),T1 x w hS (by omega),qcow (x:=x) (k:=1) (n:=3) rfl hs,fun i h=>qedx (k:=1) (n:=3) hs h,fun i hi h=>qjl5 (j:=16) (k:=1) (n:=3) rfl hs hi h,[],rfl,q2y4.off_refl 0 _⟩⟩)) ?_
 refine q2y4.All.step rfl (qu7n.Does.pure (val:=fun x=>(.pointer (some ⟨b,24,none⟩))) rfl (fun x k n h=>by cases h) (fun x w hm hS=>⟨rfl,rfl,qxry rfl⟩)) ?_
 refine q2y4.All.step rfl ((fun x w hm hf hS=>by
  have hs:x.s 2+1=3:=by have:=hf 2 3 rfl;have:=hm 8 (by kernel_rfl) (by decide) 2 2 rfl;omega
  exact .inl ⟨rfl,.skip (x.to 2 3) _ (qshq rfl rfl (q6hp (KB x w hS) (by omega)) (frozen_of_row _ _ _ _ _ (KB x w hS))) ⟨fun d hd=>(by cases hd),T2 x w hS (by omega),qcow (x:=x) (k:=2) (n:=3) rfl hs,fun i h=>qedx (k:=2) (n:=3) hs h,fun i hi h=>qjl5 (j:=18) (k:=2) (n:=3) rfl hs hi h,[],rfl,q2y4.off_refl 0 _⟩⟩)) ?_
 refine q2y4.All.step rfl (qu7n.Does.pure (val:=fun x=>(.pointer (some ⟨b,15,none⟩))) rfl (fun x k n h=>by cases h) (fun x w hm hS=>⟨rfl,rfl,qtdp rfl⟩)) ?_
 refine q2y4.All.step rfl (qu7n.Does.pure (val:=fun x=>(.pointer (some ⟨b,19,none⟩))) rfl (fun x k n h=>by cases h) (fun x w hm hS=>⟨rfl,rfl,qtwp rfl⟩)) ?_
 refine q2y4.All.step rfl ((fun x w hm hf hS=>by
  have hs:x.s 3+1=3:=by have:=hf 3 3 rfl;have:=hm 12 (by kernel_rfl) (by decide) 3 2 rfl;omega
  exact .inl ⟨rfl,.skip (x.to 3 3) _ (qshq rfl rfl (qgrp (KB x w hS) (by omega)) (frozen_of_row _ _ _ _ _ (KB x w hS))) ⟨fun d hd=>(by cases hd),T3 x w hS (by omega),qcow (x:=x) (k:=3) (n:=3) rfl hs,fun i h=>qedx (k:=3) (n:=3) hs h,fun i hi h=>qjl5 (j:=21) (k:=3) (n:=3) rfl hs hi h,[],rfl,q2y4.off_refl 0 _⟩⟩)) ?_
 exact q2y4.All.fin rfl
end Go.Proofs.YtbklidpadffpgaaGreat
