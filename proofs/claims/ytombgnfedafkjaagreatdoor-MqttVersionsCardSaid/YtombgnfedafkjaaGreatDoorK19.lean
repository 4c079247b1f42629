/- The contract of mqtt.byKind: a map from kinds to pairs of functions; what a look-up finds. No condition. -/
import Derived.Great.Frames
import Derived.Test.YtombgnfedafkjaaGreatDoorK18
set_option maxRecDepth 100000
set_option maxHeartbeats 4000000
namespace Go.Proofs.YtombgnfedafkjaaGreatDoor
open Lib(hid)
open Proofs.Tryz
open Go.RowKit
abbrev fnV(f:Nat):Value := .func (.func f) #[] #[]
abbrev wayV(f g:Nat):Value := .agg #[fnV f,fnV g]
abbrev conW:Value:=wayV 41 42
abbrev pubW:Value:=wayV 43 44
abbrev ackW:Value:=wayV 45 46
abbrev subW:Value:=wayV 47 48
abbrev ctlW:Value:=wayV 49 50
def qtav:List (Int×Value):=[(15,ctlW),(14,ctlW),(13,ctlW),(12,ctlW),(11,subW),(10,subW),(9,subW),(8,subW),(7,ackW),(6,ackW),(5,ackW),(4,ackW),(3,pubW),(2,conW),(1,conW)]
abbrev noW:Value := .agg #[.nilFunc,.nilFunc]
def qvkg(w:World)(b:Nat):Prop:=qmfc prog 3 w b noW qtav
theorem qvkg.below{w w':World}{b:Nat}(h:qvkg w b)(hb:Below w.heap.size w w'):qvkg w' b:=h.of_block (hb.block _ h.lt)
theorem q2q5(W:World):(zeroValue 60).run prog W=.ok noW W:=by kernel_rfl
theorem qvkg.look{W:World}{b:Nat}(h:qvkg W b){k:Int}(hk0:1<=k)(hk1:k<=15):(Instr.lookup 61 (.map (some b)) (.int .i64 k) false).run prog W=.ok (q1n3 noW qtav k) W:=
 qmfc.look h underlying3 underlying61 (q2q5 W) (qv3n (by omega) (by omega))
theorem qter:(prog.info? 60).map (·.size)=some 2:=by kernel_rfl
structure WyF(b:Nat)(gs:List (Nat×Nat))(a:Act):Prop where
 size:a.tmps.size=28
 defers:a.defers=[]
 map:a.eval (.tmp 11)=.map (some b)
 ptr:∀q∈gs,q.1<11/\a.eval (.tmp q.1)=.pointer (some ⟨q.2,0,none⟩)
theorem WyF.put{b:Nat}{gs:List (Nat×Nat)}{a:Act}(h:WyF b gs a){d:Nat}(hd:11<d)(v u:Value):WyF b gs ((a.put (some d) v).put none u):=
 ⟨by show(a.put (some d) v).tmps.size=28;rw[Act.size_put];exact h.size,by show(a.put (some d) v).defers=[];rw[Act.defers_put'];exact h.defers,
  (Act.eval_put_ne a d 11 v (by omega)).trans h.map,fun q hq=>⟨(h.ptr q hq).1,(Act.eval_put_ne a d q.1 v (by have:=(h.ptr q hq).1;omega)).trans (h.ptr q hq).2⟩⟩
theorem qr31{ops:Array Oper}{rest:List Oper}{Q:Exit->Act->World->Prop}{a:Act}{w w0:World}{b:Nat}{gs:List (Nat×Nat)}{l:List (Int×Value)}{p p':String}{af af':Array Edge}{r:TypeId}
 (D:Array Value) {d t g:Nat} {k:Int} (hF:WyF b gs a) (hG:MapG prog 3 w0 w b noW l) (ht:(t,g)∈gs) (hd:11<d/\d<28) (hR:∀w',Below w0.heap.size w0 w'->w'.heap[g]?=some (.cells D 60 (0,0))) (hD:D.size=2) (hl:l.length<15) (hk:(Lit.int .i64 k).wf=true)
 (hK:∀a' w',WyF b gs a'->MapG prog 3 w0 w' b noW ((k,.agg D)::l)->wpList prog ops Q rest a' w') :
 wpList prog ops Q ({dst:=some d,op := .load 60 (.tmp t),type:=60,pos:=p,after:=af,guard:=none}::{dst:=none,op := .insert 61 (.tmp 11) (.const (.int .i64 k)) (.tmp d),type:=r,pos:=p',after:=af',guard:=none}::rest) a w:=by
 refine wpList_load_row rfl _ _ rfl g (hF.ptr _ ht).2 60 D (0,0) _ (hR _ hG.2.1) underlying60 rfl (by rw[hD];exact qter) ?_;exact q32q rfl _ _ _ 61 rfl 3 60 underlying3 underlying61 _ _ _ ((Act.eval_put_ne a d 11 _ (by omega)).trans hF.map) hG (by show l.length<9223372036854775807;omega) _ _ rfl (Act.eval_put_same a d _ (by rw[hF.size];omega)) hk fun w' h=>hK _ w' (hF.put hd.1 _ _) h
theorem q9tb{ops:Array Oper}{Q:Exit->Act->World->Prop}{a:Act}{w:World}{b:Nat}{gs:List (Nat×Nat)}{p p':String}{af af':Array Edge}{r r':TypeId}(hF:WyF b gs a)
 (hK:∀a',a'.defers=[]->a'.tmps.getD 0 undef=.map (some b)->Q .normal a' w) :
 wpList prog ops Q [{dst:=some 27,op := .move (.tmp 11),type:=r,pos:=p,after:=af,guard:=none},{dst:=some 0,op := .assign (.tmp 27),type:=r',pos:=p',after:=af',guard:=none}] a w:=by
 refine wpList_plain rfl fun K1 h1=>h1 _ _ (wpList_plain rfl fun K2 h2=>h2 _ _ ?_);unfold wpList;refine hK _ ((Act.defers_put' _ _ _).trans ((Act.defers_put' _ _ _).trans hF.defers)) ?_;have e1:=Act.eval_put_same a 27 (a.eval (.tmp 11)) (by rw[hF.size];decide);have e0:=Act.eval_put_same (a.put (some 27) (a.eval (.tmp 11))) 0 ((a.put (some 27) (a.eval (.tmp 11))).eval (.tmp 27)) (by rw[Act.size_put,hF.size];decide);exact e0.trans (e1.trans hF.map)
theorem qvww{ops:Array Oper}{l:List Oper}{Q:Exit->Act->World->Prop}{a:Act}{w:World}{b:Nat}{gs:List (Nat×Nat)}(hF:WyF b gs a)(h:∀a,WyF b gs a->wpList prog ops Q l a w):wpList prog ops Q l a w:=h a hF
def qpst(w:World):World:=((((w.alloc (.cells #[fnV 41,fnV 42] 60)).alloc (.cells #[fnV 43,fnV 44] 60)).alloc (.cells #[fnV 45,fnV 46] 60)).alloc (.cells #[fnV 47,fnV 48] 60)).alloc (.cells #[fnV 49,fnV 50] 60)
theorem qpoq(w:World):Below w.heap.size w (qpst w)/\(qpst w).heap.size=w.heap.size+5/\(qpst w).heap[w.heap.size]?=some (.cells #[fnV 41,fnV 42] 60 (0,0))/\(qpst w).heap[w.heap.size+1]?=some (.cells #[fnV 43,fnV 44] 60 (0,0))/\(qpst w).heap[w.heap.size+1+1]?=some (.cells #[fnV 45,fnV 46] 60 (0,0))/\(qpst w).heap[w.heap.size+1+1+1]?=some (.cells #[fnV 47,fnV 48] 60 (0,0))/\(qpst w).heap[w.heap.size+1+1+1+1]?=some (.cells #[fnV 49,fnV 50] 60 (0,0)):=by
 have o:∀{W:World} {k:Nat} {x y:Obj},W.heap[k]?=some x->(W.alloc y).heap[k]?=some x:=fun h=>(heap_alloc_old _ _ (lt_of_block h)).trans h;have n:∀{W:World} {k:Nat} {x:Obj},W.heap.size=k->(W.alloc x).heap[k]?=some x:=fun h=>h▸heap_alloc_new _ _;unfold qpst;exact⟨(((((Below.refl _ _).alloc (Nat.le_refl _) _).alloc (by simp) _).alloc (by simp;omega) _).alloc (by simp;omega) _).alloc (by simp;omega) _,by simp,
  o (o (o (o (n rfl)))),o (o (o (n (by simp)))),o (o (n (by simp))),o (n (by simp)),n (by simp)⟩
theorem qdie(w:World):Calls prog 24 #[] w fun e w'=>∃b,e=.returned (.map (some b))/\qvkg w' b/\Below w.heap.size w w':=by
 have hmm:=@run_makeMap prog;have hst:∀(w:World) (a:Addr) (f:Nat) m,(store a (.func (.func f) #[] #[]) m).run prog w=stored prog w a (.func (.func f) #[] #[]) m:=fun w a f m=>run_store _ w a _ m rfl;go_in
 go_upto_region 6 with fail
 obtain⟨B5,Z5,R1,R2,R3,R4,R5⟩:=qpoq w;change Code.wp _ _ _ _ (qpst w);generalize qpst w=W5 at *;clear Z5;generalize w.heap.size+1+1+1+1=g5 at R5 ⊢;generalize w.heap.size+1+1+1=g4 at R4 ⊢;generalize w.heap.size+1+1=g3 at R3 ⊢;generalize w.heap.size+1=g2 at R2 ⊢;have hG:MapG prog 3 W5 (W5.alloc (.map #[] 0)) W5.heap.size noW []:=⟨qmfc.made _ _ _ _,qybm _,Nat.le_refl _⟩
 have K:=fun(g:Nat) (D:Array Value) (R:W5.heap[g]?=some (.cells D 60 (0,0))) (w':World) (h:Below W5.heap.size W5 w')=>(h.block _ (lt_of_block R)).trans R;replace R1:=hid (K _ _ R1);replace R2:=hid (K _ _ R2);replace R3:=hid (K _ _ R3);replace R4:=hid (K _ _ R4);replace R5:=hid (K _ _ R5);clear hst K;go_wp2_with (
  refine qvww (b:=W5.heap.size) (gs:=[(1,w.heap.size),(2,g2),(3,g3),(4,g4),(5,g5)]) ⟨rfl,rfl,rfl,by simp only[List.forall_mem_cons];exact⟨⟨by decide,rfl⟩,⟨by decide,rfl⟩,⟨by decide,rfl⟩,⟨by decide,rfl⟩,⟨by decide,rfl⟩,fun _ h=>(nomatch h)⟩⟩ ?_;intro a hF;refine qr31 #[fnV 41,fnV 42] hF hG (by simp) (by decide) R1.out rfl (by simp) (by decide) fun a w1 hF hG=>?_;refine qr31 #[fnV 41,fnV 42] hF hG (by simp) (by decide) R1.out rfl (by simp) (by decide) fun a w1 hF hG=>?_;refine qr31 #[fnV 43,fnV 44] hF hG (by simp) (by decide) R2.out rfl (by simp) (by decide) fun a w1 hF hG=>?_;refine qr31 #[fnV 45,fnV 46] hF hG (by simp) (by decide) R3.out rfl (by simp) (by decide) fun a w1 hF hG=>?_;refine qr31 #[fnV 45,fnV 46] hF hG (by simp) (by decide) R3.out rfl (by simp) (by decide) fun a w1 hF hG=>?_;refine qr31 #[fnV 45,fnV 46] hF hG (by simp) (by decide) R3.out rfl (by simp) (by decide) fun a w1 hF hG=>?_;refine qr31 #[fnV 45,fnV 46] hF hG (by simp) (by decide) R3.out rfl (by simp) (by decide) fun a w1 hF hG=>?_;refine qr31 #[fnV 47,fnV 48] hF hG (by simp) (by decide) R4.out rfl (by simp) (by decide) fun a w1 hF hG=>?_;refine qr31 #[fnV 47,fnV 48] hF hG (by simp) (by decide) R4.out rfl (by simp) (by decide) fun a w1 hF hG=>?_;refine qr31 #[fnV 47,fnV 48] hF hG (by simp) (by decide) R4.out rfl (by simp) (by decide) fun a w1 hF hG=>?_;refine qr31 #[fnV 47,fnV 48] hF hG (by simp) (by decide) R4.out rfl (by simp) (by decide) fun a w1 hF hG=>?_;refine qr31 #[fnV 49,fnV 50] hF hG (by simp) (by decide) R5.out rfl (by simp) (by decide) fun a w1 hF hG=>?_;refine qr31 #[fnV 49,fnV 50] hF hG (by simp) (by decide) R5.out rfl (by simp) (by decide) fun a w1 hF hG=>?_;refine qr31 #[fnV 49,fnV 50] hF hG (by simp) (by decide) R5.out rfl (by simp) (by decide) fun a w1 hF hG=>?_;refine qr31 #[fnV 49,fnV 50] hF hG (by simp) (by decide) R5.out rfl (by simp) (by decide) fun a w1 hF hG=>?_;refine q9tb hF fun a h1 h2=>?_)
 refine bodyPost_ret (results_tmp rfl _ _ _) h1 ?_;rw[h2];exact⟨_,rfl,hG.1,B5.trans (hG.2.1.mono B5.size)⟩
def qymj(l:List Pr):Nat:=(l.map fun p=>p.text.length+p.value.length).sum
theorem qoqr(l:List Pr)(p:Pr):qymj (l++[p])=qymj l+p.text.length+p.value.length:=by simp[qymj];omega
def q2y5(l:List Pr):Bool:=decide (l.length<=1010)&&decide (qymj l<=140000)
theorem qv17(A:Option Addr)(c:Nat)(w:World) :
 Calls prog 51 #[.slice A 0 c] w fun e w'=>e=.returned (.int .i64 0)/\∃m,w'=w.drewN m:=by
 go_in;go_wp2;refine wp_loop_rounds 1 ?_;rw[rounds_succ];go_wp2;go_ret;exact⟨rfl,0,rfl⟩
theorem q8s3(g i c:Nat)(l:List Pr)(w:World)(ha:PL w (some ⟨g,i,none⟩) l)(hl:l.length<=1010)(hm:∀p∈l,p.text.length<=140737488351232/\p.value.length<=140737488351232) :
 Calls prog 51 #[.slice (some ⟨g,i,none⟩) l.length c] w fun e w'=>e=.returned (.int .i64 ((qymj l:Nat):Int))/\∃m,w'=w.drewN m:=by
 have HA:=hid ha;have HM:=hid hm;obtain⟨n,hn⟩:∃n,l.length=n:=⟨_,rfl⟩
 have HN:=hid hn;rw[hn] at hl ⊢;clear ha hm hn;have hl':(n:Int)<=1010:=by omega
 obtain⟨V,hV⟩:∃V,qymj l=V:=⟨_,rfl⟩
 rw[hV];have HV:=hid hV;clear hV;go_in;go_wp2
 go_loopg [4,3] n (fun gk s4 s3 wr=>∃k t m:Nat,k<=n/\gk=n-k/\s4=.int .i64 (k:Int)/\s3=.int .i64 (t:Int)/\t=qymj (l.take k)/\t<=k*281474976710656/\wr=w.drewN m)
 case atStart=>exact⟨0,0,0,by omega,by omega,rfl,rfl,rfl,by omega,rfl⟩
 case round=>
  obtain⟨k,t,m,hk,hgk,rfl,rfl,ht,ht2,rfl⟩:=hrel;by_cases hlt:k<n
  ·have hkl:k<l.length:=by rw[HN.out];exact hlt
   obtain⟨p,hp⟩:∃p,l[k]?=some p:=⟨_,List.getElem?_eq_getElem hkl⟩
   obtain⟨g',i',e',_,a0,a1,a2,a3⟩:=HA.out.at hp;cases e';have htk:l.take (k+1)=l.take k++[p]:=by rw[List.take_add_one,hp];rfl
   have hpm:=HM.out p (List.mem_of_getElem? hp);have ht3:=qoqr (l.take k) p;rw[<-htk,<-ht] at ht3;obtain⟨x,hx⟩:∃x:Int,((bs p.text).size:Int)=x:=⟨_,rfl⟩
   obtain⟨y,hy⟩:∃x:Int,((bs p.value).size:Int)=x:=⟨_,rfl⟩
   have z1:=qkrc p.text;have z2:=qkrc p.value;obtain⟨u,hu⟩:∃u,qymj (l.take (k+1))=u:=⟨_,rfl⟩
   rw[hu] at ht3;have w1:IntKind.i64.wrap ((t:Int)+x)=(t:Int)+x:=by simp only[IntKind.wrap_i64];omega
   have w2:IntKind.i64.wrap ((t:Int)+x+y)=(u:Int):=by simp only[IntKind.wrap_i64];omega
   have hu2:u<=(k+1)*281474976710656:=by omega
   generalize bs p.text=x2 at *;generalize bs p.value=x3 at *;have g1:(k:Int)<(n:Int):=by omega
   have HU:=hid hu;have HU2:=hid hu2;clear a0 a1 hp hkl htk hpm ht3 z1 z2 hu hu2 ht ht2;go_wp2;go_quiet (fail);go_wp2
   go_roundg (n-(k+1))
   case measure=>omega
   case rel=>exact⟨k+1,u,_,by omega,rfl,by go_num,rfl,HU.out.symm,HU2.out,rfl⟩
  ·obtain rfl:k=n:=by omega
   have ht1:l.take k=l:=List.take_of_length_le (by rw[HN.out];omega);rw[ht1,HV.out] at ht;subst ht;clear ht2;go_wp2;go_ret;exact⟨rfl,m,rfl⟩
theorem q3f7(A:Option Addr)(n c:Nat)(l:List Pr)(w:World)(ha:PL w A l)(hn:l.length=n)(hm:∀p∈l,p.text.length<=140737488351232/\p.value.length<=140737488351232) :
 Calls prog 25 #[.slice A n c] w fun e w'=>e=.returned (.bool (q2y5 l))/\∃m,w'=w.drewN m:=by
 unfold q2y5;rw[hn];by_cases h1:n<=1010
 ·rw[decide_eq_true h1,Bool.true_and];have WT:Calls prog 51 #[.slice A n c] w fun e w'=>e=.returned (.int .i64 ((qymj l:Nat):Int))/\∃m,w'=w.drewN m:=by
   by_cases h0:l=[]
   ·subst h0;obtain rfl:0=n:=hn;exact qv17 A c w
   ·obtain⟨g,i,rfl,_⟩:=ha.addr h0;subst hn;exact q8s3 g i c l w ha h1 hm
  have g1:(n:Int)<=1010:=by omega
  have WT:=hid WT;obtain⟨B,hB⟩:∃B,decide (qymj l<=140000)=B:=⟨_,rfl⟩
  rw[hB];have HB:=hid (show decide (((qymj l:Nat):Int)<=140000)=B by rw[<-hB,decide_eq_decide];omega);generalize ((qymj l:Nat):Int)=t at *;clear ha hm h1 hn hB;go_in;go_wp2_with fail;refine(WT.out).mono ?_;rintro e w1 ⟨rfl,m,rfl⟩;go_wp2;go_ret;exact⟨congrArg (fun b=>Ending.returned (Value.bool b)) HB.out,m,rfl⟩
 ·rw[decide_eq_false h1,Bool.false_and];have g1:¬(n:Int)<=1010:=by omega
  clear ha hm h1 hn;go_in;go_wp2;go_ret;exact⟨rfl,0,rfl⟩
def qnlp(l:List Fi):Nat:=(l.map fun f=>f.topic.length).sum
theorem q8f1(l:List Fi)(f:Fi):qnlp (l++[f])=qnlp l+f.topic.length:=by simp[qnlp]
def q3em(p:Pk):Nat:=p.topic.length+p.payload.length+p.client.length+p.user.length+p.pass.length+p.wTopic.length+p.wPayload.length
def qa3g(p:Pk):Bool:=q2y5 p.props&&q2y5 p.wProps&&decide (p.codes.length<=60)&&decide (p.filters.length<=60)&&decide (q3em p+qnlp p.filters<=140000)
theorem q2qrt{p:Pk}(h:qa3g p=true):p.codes.length<=60/\p.filters.length<=60/\p.props.length<=1010/\p.wProps.length<=1010:=by unfold qa3g q2y5 at h;simp only[Bool.and_eq_true,decide_eq_true_eq] at h;omega
theorem q1dl(p:Pk)(a:Ad)(w:World)(hp:PkAt w p a)(ok:PkOk p) :
 Calls prog 13 #[pkV p a] w fun e w'=>e=.returned (.bool (qa3g p))/\Below w.heap.size w w':=by
 have HP:=hid hp;have OK:=hid ok;have hbx:Below w.heap.size w (w.alloc (.cells (pkC p a) 32)):=qybm _;have L1:=fun m=>q3f7 a.ps _ a.pc p.props ((w.alloc (.cells (pkC p a) 32)).drewN m) (HP.out.ps.below (qnpu hbx m)) rfl (fun x hx=>(OK.out.pps x hx).2);have L2:=fun m=>q3f7 a.w _ a.wc p.wProps ((w.alloc (.cells (pkC p a) 32)).drewN m) (HP.out.w.below (qnpu hbx m)) rfl (fun x hx=>(OK.out.wps x hx).2);have HB:=hid (fun m=>qnpu hbx m);have HF:=hid (fun m=>HP.out.fs.below (qnpu hbx m));clear hbx hp ok;unfold pkV;have c5:(pkC p a)[5]?=some (.string (bs p.topic)):=rfl;have c6:(pkC p a)[6]?=some (.string (bs p.payload)):=rfl;have c9:(pkC p a)[9]?=some (.string (bs p.client)):=rfl;have c11:(pkC p a)[11]?=some (.string (bs p.user)):=rfl;have c13:(pkC p a)[13]?=some (.string (bs p.pass)):=rfl;have c15:(pkC p a)[15]?=some (.string (bs p.wTopic)):=rfl;have c16:(pkC p a)[16]?=some (.string (bs p.wPayload)):=rfl;have c19:(pkC p a)[19]?=some (.slice a.w p.wProps.length a.wc):=rfl;have c22:(pkC p a)[22]?=some (.slice a.cs p.codes.length a.cc):=rfl;have c23:(pkC p a)[23]?=some (.slice a.fs p.filters.length a.fc):=rfl;have c24:(pkC p a)[24]?=some (.slice a.ps p.props.length a.pc):=rfl;generalize pkC p a=C at *;have L1:=hid L1;have L2:=hid L2;obtain⟨R,hR⟩:∃R,qa3g p=R:=⟨_,rfl⟩
 rw[hR];unfold qa3g at hR;have HR:=hid hR;clear hR;cases hl1:q2y5 p.props
 ·have hr:R=false:=by rw[<-HR.out,hl1];rfl
  rw[hl1] at L1;subst hr;clear hl1;go_in;go_wp2_with fail;refine(L1.out 0).mono ?_;rintro e w1 ⟨rfl,m,rfl⟩;go_wp2;go_ret;exact⟨rfl,HB.out _⟩
 rw[hl1] at L1;cases hl2:q2y5 p.wProps
 ·have hr:R=false:=by rw[<-HR.out,hl1,hl2];rfl
  rw[hl2] at L2;subst hr;clear hl1 hl2;go_in;go_wp2_with fail;refine(L1.out 0).mono ?_;rintro e w1 ⟨rfl,m,rfl⟩;go_wp2_with fail;refine(L2.out _).mono ?_;rintro e w1 ⟨rfl,m',rfl⟩;go_wp2;go_ret;exact⟨rfl,by have:=HB.out (m+m');exact this⟩
 rw[hl2] at L2;by_cases h3:p.codes.length<=60
 ·by_cases h4:p.filters.length<=60
  ·have hr:decide (q3em p+qnlp p.filters<=140000)=R:=by rw[<-HR.out,hl1,hl2,decide_eq_true h3,decide_eq_true h4];rfl
   have HR2:=hid hr;have g3:¬60<(p.codes.length:Int):=by omega
   have g4:¬60<(p.filters.length:Int):=by omega
   have z0:=qkrc p.topic;have y0:=OK.out.texts p.topic (by simp[Pk.texts]);obtain⟨t0,ht0⟩:∃t:Int,((bs p.topic).size:Int)=t:=⟨_,rfl⟩
   have z1:=qkrc p.payload;have y1:=OK.out.texts p.payload (by simp[Pk.texts]);obtain⟨t1,ht1⟩:∃t:Int,((bs p.payload).size:Int)=t:=⟨_,rfl⟩
   have z2:=qkrc p.client;have y2:=OK.out.texts p.client (by simp[Pk.texts]);obtain⟨t2,ht2⟩:∃t:Int,((bs p.client).size:Int)=t:=⟨_,rfl⟩
   have z3:=qkrc p.user;have y3:=OK.out.texts p.user (by simp[Pk.texts]);obtain⟨t3,ht3⟩:∃t:Int,((bs p.user).size:Int)=t:=⟨_,rfl⟩
   have z4:=qkrc p.pass;have y4:=OK.out.texts p.pass (by simp[Pk.texts]);obtain⟨t4,ht4⟩:∃t:Int,((bs p.pass).size:Int)=t:=⟨_,rfl⟩
   have z5:=qkrc p.wTopic;have y5:=OK.out.texts p.wTopic (by simp[Pk.texts]);obtain⟨t5,ht5⟩:∃t:Int,((bs p.wTopic).size:Int)=t:=⟨_,rfl⟩
   have z6:=qkrc p.wPayload;have y6:=OK.out.texts p.wPayload (by simp[Pk.texts]);obtain⟨t6,ht6⟩:∃t:Int,((bs p.wPayload).size:Int)=t:=⟨_,rfl⟩
   obtain⟨s1,hs1⟩:∃s,t0+t1=s:=⟨_,rfl⟩
   have e0:IntKind.i64.wrap (t0+t1)=s1:=by simp only[IntKind.wrap_i64];omega
   obtain⟨s2,hs2⟩:∃s,s1+t2=s:=⟨_,rfl⟩
   have e1:IntKind.i64.wrap (s1+t2)=s2:=by simp only[IntKind.wrap_i64];omega
   obtain⟨s3,hs3⟩:∃s,s2+t3=s:=⟨_,rfl⟩
   have e2:IntKind.i64.wrap (s2+t3)=s3:=by simp only[IntKind.wrap_i64];omega
   obtain⟨s4,hs4⟩:∃s,s3+t4=s:=⟨_,rfl⟩
   have e3:IntKind.i64.wrap (s3+t4)=s4:=by simp only[IntKind.wrap_i64];omega
   obtain⟨s5,hs5⟩:∃s,s4+t5=s:=⟨_,rfl⟩
   have e4:IntKind.i64.wrap (s4+t5)=s5:=by simp only[IntKind.wrap_i64];omega
   obtain⟨s6,hs6⟩:∃s,s5+t6=s:=⟨_,rfl⟩
   have e5:IntKind.i64.wrap (s5+t6)=s6:=by simp only[IntKind.wrap_i64];omega
   have hT:s6=(q3em p:Nat):=by unfold q3em;omega
   have hTle:q3em p<=985162418458624:=by unfold q3em;omega
   clear z0 y0 z1 y1 z2 y2 z3 y3 z4 y4 z5 y5 z6 y6;generalize bs p.topic=u0 at *;generalize bs p.payload=u1 at *;generalize bs p.client=u2 at *;generalize bs p.user=u3 at *;generalize bs p.pass=u4 at *;generalize bs p.wTopic=u5 at *;generalize bs p.wPayload=u6 at *;rw[hT] at e5;clear hs1 hs2 hs3 hs4 hs5 hs6 hT;generalize q3em p=T0 at *;obtain⟨n,hn⟩:∃n,p.filters.length=n:=⟨_,rfl⟩
   have HN:=hid hn;rw[hn] at c23 g4 h4;have q0:(n:Int)<=60:=by omega
   have HT:=hid hTle;clear hr hn hl1 hl2 h3 h4 hTle;go_in;go_wp2_with fail;refine(L1.out 0).mono ?_;rintro e w1 ⟨rfl,m,rfl⟩;go_wp2_with fail;refine(L2.out _).mono ?_;rintro e w1 ⟨rfl,m',hw1⟩;have c23':w1.cell? ⟨w.heap.size,23,none⟩=some (.slice a.fs n a.fc):=by rw[hw1];exact(World.cell?_alloc_at _ _ _ _ rfl).trans c23
   have c22':w1.cell? ⟨w.heap.size,22,none⟩=some (.slice a.cs p.codes.length a.cc):=by rw[hw1];exact(World.cell?_alloc_at _ _ _ _ rfl).trans c22
   have c5':w1.cell? ⟨w.heap.size,5,none⟩=some (.string u0):=by rw[hw1];exact(World.cell?_alloc_at _ _ _ _ rfl).trans c5
   have c6':w1.cell? ⟨w.heap.size,6,none⟩=some (.string u1):=by rw[hw1];exact(World.cell?_alloc_at _ _ _ _ rfl).trans c6
   have c9':w1.cell? ⟨w.heap.size,9,none⟩=some (.string u2):=by rw[hw1];exact(World.cell?_alloc_at _ _ _ _ rfl).trans c9
   have c11':w1.cell? ⟨w.heap.size,11,none⟩=some (.string u3):=by rw[hw1];exact(World.cell?_alloc_at _ _ _ _ rfl).trans c11
   have c13':w1.cell? ⟨w.heap.size,13,none⟩=some (.string u4):=by rw[hw1];exact(World.cell?_alloc_at _ _ _ _ rfl).trans c13
   have c15':w1.cell? ⟨w.heap.size,15,none⟩=some (.string u5):=by rw[hw1];exact(World.cell?_alloc_at _ _ _ _ rfl).trans c15
   have c16':w1.cell? ⟨w.heap.size,16,none⟩=some (.string u6):=by rw[hw1];exact(World.cell?_alloc_at _ _ _ _ rfl).trans c16
   have HB1:=hid (show Below w.heap.size w w1 by rw[hw1];exact qnpu (HB.out m) m');have HF1:=hid (show CL w1 a.fs (fcs p.filters) by rw[hw1];exact(HF.out m).below (qnpu (Below.refl _ _) m'));clear hw1 c19 c22 c23 c24 c5 c6 c9 c11 c13 c15 c16;go_wp2_with fail;clear c5' c6' c9' c11' c13' c15' c16' c22';clear e0 e1 e2 e3 e4 e5 ht0 ht1 ht2 ht3 ht4 ht5 ht6
   go_loopg [4,3] n (fun gk i s wr=>∃k t:Nat,k<=n/\gk=n-k/\i=.int .i64 (k:Int)/\s=.int .i64 (t:Int)/\t=T0+qnlp (p.filters.take k)/\t<=985162418458624+k*140737488351232/\w1=wr)
   case atStart=>exact⟨0,T0,Nat.zero_le _,rfl,rfl,rfl,rfl,by have:=HT.out;omega,rfl⟩
   case round=>
    obtain⟨k,t,hk,rfl,rfl,rfl,ht,ht2,rfl⟩:=hrel;by_cases hlt:k<n
    ·obtain⟨f,hf⟩:∃f,p.filters[k]?=some f:=⟨_,List.getElem?_eq_getElem (by rw[HN.out];exact hlt)⟩
     obtain⟨g',i',e',_,a0,_,_,_,_⟩:=HF1.out.fi hf;have hz:=qkrc f.topic;have hfl:=OK.out.fis f (List.mem_of_getElem? hf);obtain⟨x,hx⟩:∃x:Int,((bs f.topic).size:Int)=x:=⟨_,rfl⟩
     have hwr:IntKind.i64.wrap ((t:Int)+x)=((t+f.topic.length:Nat):Int):=by simp only[IntKind.wrap_i64];omega
     have htk:T0+qnlp (p.filters.take (k+1))=t+f.topic.length:=by rw[List.take_add_one,hf,ht];simp only[Option.toList_some];rw[q8f1];omega
     have HK:=hid htk;have hb2:t+f.topic.length<=985162418458624+(k+1)*140737488351232:=by omega
     have HB2:=hid hb2;have HL:=hid hlt;have g1:(k:Int)<(n:Int):=by omega
     have g1n:k<n:=hlt;rw[e'] at c23';generalize bs f.topic=u at *;clear hz hfl htk hb2 ht ht2 hf hlt hk;obtain⟨t2,ht2⟩:∃t2,t+f.topic.length=t2:=⟨_,rfl⟩
     rw[ht2] at hwr HK HB2;clear ht2;go_wp2_with fail
     go_roundg (n-(k+1))
     case measure=>have:=HL.out;omega
     case rel=>exact⟨k+1,t2,by have:=HL.out;omega,rfl,by go_num,rfl,HK.out.symm,HB2.out,rfl⟩
    ·obtain rfl:k=n:=by omega
     have hfin:decide ((t:Int)<=140000)=R:=by rw[<-HR2.out,ht,show p.filters.take k=p.filters from List.take_of_length_le (by rw[HN.out];omega),decide_eq_decide];omega
     have HFIN:=hid hfin;clear hfin ht ht2 hk hlt;go_wp2;go_ret;exact⟨congrArg (fun b=>Ending.returned (Value.bool b)) HFIN.out,HB1.out⟩
  ·have hr:R=false:=by rw[<-HR.out,hl1,hl2,decide_eq_true h3,decide_eq_false h4];rfl
   have g3:¬60<(p.codes.length:Int):=by omega
   have g4:60<(p.filters.length:Int):=by omega
   subst hr;clear hl1 hl2 h3 h4;go_in;go_wp2_with fail;refine(L1.out 0).mono ?_;rintro e w1 ⟨rfl,m,rfl⟩;go_wp2_with fail;refine(L2.out _).mono ?_;rintro e w1 ⟨rfl,m',rfl⟩;go_wp2;go_ret;exact⟨rfl,by have:=HB.out (m+m');exact this⟩
 ·have hr:R=false:=by rw[<-HR.out,hl1,hl2,decide_eq_false h3];rfl
  have g3:60<(p.codes.length:Int):=by omega
  subst hr;clear hl1 hl2 h3;go_in;go_wp2_with fail;refine(L1.out 0).mono ?_;rintro e w1 ⟨rfl,m,rfl⟩;go_wp2_with fail;refine(L2.out _).mono ?_;rintro e w1 ⟨rfl,m',rfl⟩;go_wp2;go_ret;exact⟨rfl,by have:=HB.out (m+m');exact this⟩
theorem qcrj(k:Int):∀l:List Fi,(l.flatMap (qjk5 k)).length<=qnlp l+3*l.length
 |[]=>Nat.zero_le _
 |f::l=>by
  have ih:=qcrj k l;have e:(qjk5 k f).length<=f.topic.length+3:=by
   unfold qjk5;rw[List.length_append,qnp6];split
   ·simp
   ·simp
  have e2:qnlp (f::l)=f.topic.length+qnlp l:=by simp[qnlp]
  rw[List.flatMap_cons,List.length_append,e2,List.length_cons];omega
theorem qqb9{p:Pk}(hl:qa3g p=true)(h:q8s2 4 p=0):(qx3b 4 p).length<=268435400:=by
 obtain⟨_,h2,h3,_⟩:=q31v h;unfold qa3g at hl;simp only[Bool.and_eq_true,decide_eq_true_eq] at hl;obtain⟨⟨⟨_,hc⟩,hf⟩,ht⟩:=hl;unfold q3em at ht;have hk:p.kind<=14:=by simp[qbe2] at h2;omega
 have ho:∀b:Bool,∀l:List UInt8,(if b then l else []).length<=l.length:=fun b l=>by cases b<;>simp
 unfold qx3b;split
 ·unfold rawC;split
  ·simp[tailC]
  ·simp only[List.length_append,qnp6,q0rl,List.length_cons,List.length_nil,tailC];have a1:=ho p.hasUser (enc2 p.user);have a2:=ho p.hasPass (enc2 p.pass);have a3:=ho p.hasWill ([]++(enc2 p.wTopic++enc2 p.wPayload));simp only[List.length_append,qnp6,List.length_nil] at a1 a2 a3;have e0:q1f4.length=4:=rfl;simp only[show ¬((4:Int)=5) by decide,if_false,List.length_nil];omega
 ·split
  ·unfold rawU;simp only[List.length_append,qnp6,tailC,show ¬((4:Int)=5) by decide,if_false,List.length_nil];split
   ·simp;omega
   ·rw[q0rl];omega
  ·split
   ·unfold rawA qzno;rw[if_neg (by simp)];simp[q0rl]
   ·split
    ·unfold rawS q56c
     have:=qcrj p.kind p.filters
     simp only[List.length_append,q0rl,tailC,show ¬((4:Int)=5) by decide,if_false,List.length_nil,List.length_map];omega
    ·have hpl:q6gd 4 p.kind=true:=by
      rename_i h11;have hh:p.kind=12\/p.kind=13\/p.kind=14:=by omega
      rcases hh with hh|hh|hh<;>(rw[hh];rfl)
     unfold rawK;rw[if_pos hpl];exact Nat.zero_le _
theorem qmt0(p:Pk)(a:Ad)(w:World):Calls prog 21 #[.agg (pkC p a)] w fun e w'=>e=.returned (.int .i64 (qhx1 p:Nat))/\Below w.heap.size w w':=by
 have S0:=hid (BxS.made w p a);have k0:(w.alloc (.cells (pkC p a) 32)).cell? ⟨w.heap.size,0,none⟩=some (.int .i64 p.kind):=S0.out.cell 0;have k14:(w.alloc (.cells (pkC p a) 32)).cell? ⟨w.heap.size,14,none⟩=some (.bool p.hasWill):=S0.out.cell 14;unfold qhx1;generalize p.kind=k at *;generalize p.hasWill=hw at *;by_cases h1:k=1
 ·subst h1;cases hw
  all_goals go_in;go_wp2;go_ret;exact⟨rfl,S0.out.low⟩
 ·rw[if_neg h1];by_cases h2:k=2\/k=3\/(8<=k/\k<=11)
  ·rw[if_pos h2];have h3:k=2\/k=3\/k=8\/k=9\/k=10\/k=11:=by omega
   clear h2 h1;rcases h3 with rfl|rfl|rfl|rfl|rfl|rfl
   all_goals go_in;go_wp2;go_ret;exact⟨rfl,S0.out.low⟩
  ·rw[if_neg h2];have g1:(k==1)=false:=beq_eq_false_iff_ne.2 (by omega);have g2:(k==2)=false:=beq_eq_false_iff_ne.2 (by omega);have g3:(k==3)=false:=beq_eq_false_iff_ne.2 (by omega);have g8:(k==8)=false:=beq_eq_false_iff_ne.2 (by omega);have g9:(k==9)=false:=beq_eq_false_iff_ne.2 (by omega);have g10:(k==10)=false:=beq_eq_false_iff_ne.2 (by omega);have g11:(k==11)=false:=beq_eq_false_iff_ne.2 (by omega);clear h1 h2;go_in;go_wp2;go_ret;exact⟨rfl,S0.out.low⟩
theorem qzwz(v:Int)(w:World):Calls prog 18 #[.int .i64 v] w fun e w'=>e=.returned (.bool (verH v))/\w=w':=by
 cases h:verH v
 ·have hv:=q25y h;have e4:(v==4)=false:=by rw[beq_eq_false_iff_ne];exact hv.1
  have e5:(v==5)=false:=by rw[beq_eq_false_iff_ne];exact hv.2
  clear h hv;go_in;go_wp2;go_ret;exact⟨rfl,rfl⟩
 ·rcases q53g h with rfl|rfl
  all_goals clear h;go_in;go_wp2;go_ret;exact⟨rfl,rfl⟩
theorem qatk(v k:Int)(w:World):Calls prog 52 #[.int .i64 v,.int .i64 k] w fun e w'=>e=.returned (.bool (qbe2 v k))/\w=w':=by
 by_cases h1:1<=k
 ·by_cases h2:k<15
  ·have e:qbe2 v k=true:=by unfold qbe2;rw[decide_eq_true h1,decide_eq_true h2];rfl
   rw[e];clear e;go_in;go_wp2;go_ret;exact⟨rfl,rfl⟩
  ·by_cases h3:k=15
   ·subst h3;by_cases h5:v=5
    ·subst h5;clear h1 h2;go_in;go_wp2;go_ret;exact⟨rfl,rfl⟩
    ·have e5:(v==5)=false:=by rw[beq_eq_false_iff_ne];exact h5
     have e:qbe2 v 15=false:=by unfold qbe2;rw[e5];rfl
     rw[e];clear e h5 h1 h2;go_in;go_wp2;go_ret;exact⟨rfl,rfl⟩
   ·have e3:(k==15)=false:=by rw[beq_eq_false_iff_ne];exact h3
    have e:qbe2 v k=false:=by unfold qbe2;rw[e3,decide_eq_false h2];simp
    rw[e];clear e h3;go_in;go_wp2;go_ret;exact⟨rfl,rfl⟩
 ·have e:qbe2 v k=false:=by unfold qbe2;rw[decide_eq_false h1];rfl
  rw[e];clear e;go_in;go_wp2;go_ret;exact⟨rfl,rfl⟩
theorem q84u(k f:Int)(w:World):Calls prog 53 #[.int .i64 k,.int .i64 f] w fun e w'=>e=.returned (.bool (qg3k k f))/\w=w':=by
 by_cases h3:k=3
 ·subst h3;by_cases h0:0<=f
  ·by_cases h15:f<=15
   ·have:f=0\/f=1\/f=2\/f=3\/f=4\/f=5\/f=6\/f=7\/f=8\/f=9\/f=10\/f=11\/f=12\/f=13\/f=14\/f=15:=by omega
    clear h0 h15;rcases this with rfl|rfl|rfl|rfl|rfl|rfl|rfl|rfl|rfl|rfl|rfl|rfl|rfl|rfl|rfl|rfl
    all_goals go_in;go_wp2;go_ret;exact⟨rfl,rfl⟩
   ·have e:qg3k 3 f=false:=by unfold qg3k;rw[if_pos rfl];exact decide_eq_false (by omega)
    rw[e];clear e;go_in;go_wp2;go_ret;exact⟨rfl,rfl⟩
  ·have e:qg3k 3 f=false:=by unfold qg3k;rw[if_pos rfl];exact decide_eq_false (by omega)
   rw[e];clear e;go_in;go_wp2;go_ret;exact⟨rfl,rfl⟩
 unfold qg3k;rw[if_neg h3];have e3:(k==3)=false:=by rw[beq_eq_false_iff_ne];exact h3
 by_cases h6:k=6
 ·subst h6;clear h3;go_in;go_wp2;go_ret;exact⟨rfl,rfl⟩
 by_cases h8:k=8
 ·subst h8;clear h3;go_in;go_wp2;go_ret;exact⟨rfl,rfl⟩
 by_cases h10:k=10
 ·subst h10;clear h3;go_in;go_wp2;go_ret;exact⟨rfl,rfl⟩
 rw[if_neg (by omega)];have e6:(k==6)=false:=by rw[beq_eq_false_iff_ne];exact h6
 have e8:(k==8)=false:=by rw[beq_eq_false_iff_ne];exact h8
 have e10:(k==10)=false:=by rw[beq_eq_false_iff_ne];exact h10
 clear h3 h6 h8 h10;go_in;go_wp2;go_ret;exact⟨rfl,rfl⟩
theorem q5lx(v:Int)(h:Hd)(w:World):Calls prog 30 #[.int .i64 v,hdV h] w fun e w'=>e=.returned (.int .i64 (q9d8 v h:Nat))/\Below w.heap.size w w':=by
 have V:=hid (qzwz v);have K:=hid (qatk v h.kind);have F:=hid (q84u h.kind h.flags);have HB:=hid (fun o=>qybm (w:=w) o);unfold q9d8;cases hv:verH v
 ·rw[if_pos rfl];rw[hv] at V;clear K F hv;obtain⟨k,f,l⟩:=h;unfold hdV;go_in;go_wp2_with fail;refine(V.out _).mono ?_;rintro e w' ⟨rfl,rfl⟩;go_wp2;go_ret;exact⟨rfl,HB.out _⟩
 rw[hv] at V;rw[if_neg (by decide)];cases hk:qbe2 v h.kind
 ·rw[if_pos rfl];rw[hk] at K;clear F hv hk;obtain⟨k,f,l⟩:=h;unfold hdV;go_in;go_wp2_with fail;refine(V.out _).mono ?_;rintro e w' ⟨rfl,rfl⟩;go_wp2_with fail;refine(K.out _).mono ?_;rintro e w' ⟨rfl,rfl⟩;go_wp2;go_ret;exact⟨rfl,HB.out _⟩
 rw[hk] at K;rw[if_neg (by decide)];cases hf:qg3k h.kind h.flags
 ·rw[if_pos rfl];rw[hf] at F;clear hv hk hf;obtain⟨k,f,l⟩:=h;unfold hdV;go_in;go_wp2_with fail;refine(V.out _).mono ?_;rintro e w' ⟨rfl,rfl⟩;go_wp2_with fail;refine(K.out _).mono ?_;rintro e w' ⟨rfl,rfl⟩;go_wp2_with fail;refine(F.out _).mono ?_;rintro e w' ⟨rfl,rfl⟩;go_wp2;go_ret;exact⟨rfl,HB.out _⟩
 rw[hf] at F;rw[if_neg (by decide)];clear hv hk hf;obtain⟨k,f,l⟩:=h;unfold hdV;by_cases h1:l<0
 ·rw[if_pos (.inl h1)];go_in;go_wp2_with fail;refine(V.out _).mono ?_;rintro e w' ⟨rfl,rfl⟩;go_wp2_with fail;refine(K.out _).mono ?_;rintro e w' ⟨rfl,rfl⟩;go_wp2_with fail;refine(F.out _).mono ?_;rintro e w' ⟨rfl,rfl⟩;go_wp2;go_ret;exact⟨rfl,HB.out _⟩
 by_cases h2:268435455<l
 ·rw[if_pos (.inr h2)];go_in;go_wp2_with fail;refine(V.out _).mono ?_;rintro e w' ⟨rfl,rfl⟩;go_wp2_with fail;refine(K.out _).mono ?_;rintro e w' ⟨rfl,rfl⟩;go_wp2_with fail;refine(F.out _).mono ?_;rintro e w' ⟨rfl,rfl⟩;go_wp2;go_ret;exact⟨rfl,HB.out _⟩
 ·rw[if_neg (by rintro(h|h);exact h1 h;exact h2 h)];go_in;go_wp2_with fail;refine(V.out _).mono ?_;rintro e w' ⟨rfl,rfl⟩;go_wp2_with fail;refine(K.out _).mono ?_;rintro e w' ⟨rfl,rfl⟩;go_wp2_with fail;refine(F.out _).mono ?_;rintro e w' ⟨rfl,rfl⟩;go_wp2;go_ret;exact⟨rfl,HB.out _⟩
def qwlf(l:List UInt8)(w:World)(e:Ending)(w':World):Prop:=e=q51h l/\w=w'
def qghk(l:List UInt8)(k v:Nat):Prop:=v<128^k/\((k<4/\run 0 0 l=run v k (l.drop k))\/(k=4/\(run 0 0 l).2.2=2))
theorem qtpo(s:ByteArray)(w:World)(hm:s.size<=9223372036854775807) :
 Calls prog 31 #[.string s] w (qwlf s.data.toList w):=by
 go_in;go_wp2
 go_loop [5,6,7] (fun n t i=>∃k v:Nat,k<=4/\k<=s.size/\n=.int .i64 v/\t=.int .i64 ((128^k:Nat):Int)/\i=.int .i64 k/\qghk s.data.toList k v) (fun _ _ i=>4-(intOf i).toNat)
 case atStart=>exact⟨0,0,by decide,Nat.zero_le _,rfl,rfl,rfl,by decide,.inl ⟨by decide,rfl⟩⟩
 case round=>
  obtain⟨k,v,hk,hks,rfl,rfl,rfl,hv,hrun⟩:=hrel;by_cases h4:k=4
  ·subst h4;have h2:(run 0 0 s.data.toList).2.2=2:=by
    rcases hrun with ⟨h,_⟩|⟨_,h⟩
    ·omega
    ·exact h
   have RR:=hid (qxud (l:=s.data.toList) (st:=2) (a:=0) (b:=0) (c:=5) (by rw[<-h2]) rfl rfl rfl);clear hrun h2;go_wp2
   go_ret3
   exact⟨RR.out,rfl⟩
  have hrun0:run 0 0 s.data.toList=run v k (s.data.toList.drop k):=by
   rcases hrun with ⟨_,h⟩|⟨h,_⟩
   ·exact h
   ·exact absurd h h4
  clear hrun;by_cases hlt:k<s.size
  ·have hd:=qe0g s k hlt;have RUN:=hid hrun0;have D:=hid hd;clear hrun0 hd;have hlt256:=s[k].toNat_lt;obtain rfl|rfl|rfl|rfl:k=0\/k=1\/k=2\/k=3:=by omega
   ·have hv1:(v:Int)<1:=Int.ofNat_lt.2 (show v<1 from hv);have HV:=hid hv;have hne:¬s=ByteArray.empty:=fun e=>by rw[e] at hlt;exact absurd hlt (by decide)
    obtain⟨r,hr⟩:∃r,s[0].toNat=r:=⟨_,rfl⟩
    have h256:(r:Int)<256:=by omega
    clear hv h4 hlt256;have e0:((128^0:Nat):Int)=1:=by decide
    rw[e0];clear e0;by_cases hb:r<128
    ·have hx:nxt s[0] (0+1)=1:=qicf.2 ⟨by omega,.inr (by decide)⟩;have hbd:decide ((r:Int)<128)=true:=decide_eq_true (by omega);have RR:=hid (qxud (l:=s.data.toList) (v:=grow v 0 s[0]) (n:=0+1) (st:=1) (a:=(v:Int)+(r:Int)%128) (b:=1) (c:=0) (by rw[RUN.out,D.out,q408 _ (by rw[hx];decide),hx]) (by simp[grow,hr]) rfl rfl);clear hx hb;go_wp2
     go_ret3
     exact⟨RR.out,rfl⟩
    ·have hbd:decide ((r:Int)<128)=false:=decide_eq_false (by omega);have HB:=hid (show 128<=s[0].toNat by omega);have HG:=hid (show(v:Int)+(r:Int)%128=(grow v 0 s[0]:Nat) by simp[grow,hr]);clear hb;go_wp2
     go_round
     case rel=>exact⟨1,grow v 0 s[0],by decide,by omega,congrArg (Value.int .i64) HG.out,congrArg (Value.int .i64) (by decide),rfl,qpfr _ HV.out,.inl ⟨by decide,by rw[RUN.out,D.out,qomx _ (qv8z.2 ⟨HB.out,by decide⟩)]⟩⟩
     case measure=>simp[intOf]
   ·have hv1:(v:Int)<128:=Int.ofNat_lt.2 (show v<128 from hv);have HV:=hid hv;have hge:decide ((s.size:Int)<=1)=false:=decide_eq_false (by omega);obtain⟨r,hr⟩:∃r,s[1].toNat=r:=⟨_,rfl⟩
    have h256:(r:Int)<256:=by omega
    clear hv h4 hlt256;have e0:((128^1:Nat):Int)=128:=by decide
    rw[e0];clear e0;by_cases hb:r<128
    ·by_cases hz:r=0
     ·subst hz;have hx:nxt s[1] (1+1)=2:=qt6b.2 (.inr ⟨hr,by decide⟩);have RR:=hid (qxud (l:=s.data.toList) (v:=grow v 1 s[1]) (n:=1+1) (st:=2) (a:=0) (b:=0) (c:=5) (by rw[RUN.out,D.out,q408 _ (by rw[hx];decide),hx]) rfl rfl rfl);clear hx hb;go_wp2
      go_ret3
      exact⟨RR.out,rfl⟩
     ·have hx:nxt s[1] (1+1)=1:=qicf.2 ⟨by omega,.inl (by omega)⟩;have hzz:((r:Int)==0)=false:=by simp;omega
      have hbd:decide ((r:Int)<128)=true:=decide_eq_true (by omega);have RR:=hid (qxud (l:=s.data.toList) (v:=grow v 1 s[1]) (n:=1+1) (st:=1) (a:=(v:Int)+(r:Int)%128*128) (b:=2) (c:=0) (by rw[RUN.out,D.out,q408 _ (by rw[hx];decide),hx]) (by simp[grow,hr]) rfl rfl);clear hx hb hz;go_wp2
      go_ret3
      exact⟨RR.out,rfl⟩
    ·have hbd:decide ((r:Int)<128)=false:=decide_eq_false (by omega);have HB:=hid (show 128<=s[1].toNat by omega);have HG:=hid (show(v:Int)+(r:Int)%128*128=(grow v 1 s[1]:Nat) by simp[grow,hr]);clear hb;go_wp2
     go_round
     case rel=>exact⟨2,grow v 1 s[1],by decide,by omega,congrArg (Value.int .i64) HG.out,congrArg (Value.int .i64) (by decide),rfl,qpfr _ HV.out,.inl ⟨by decide,by rw[RUN.out,D.out,qomx _ (qv8z.2 ⟨HB.out,by decide⟩)]⟩⟩
     case measure=>simp[intOf]
   ·have hv1:(v:Int)<16384:=Int.ofNat_lt.2 (show v<16384 from hv);have HV:=hid hv;have hge:decide ((s.size:Int)<=2)=false:=decide_eq_false (by omega);obtain⟨r,hr⟩:∃r,s[2].toNat=r:=⟨_,rfl⟩
    have h256:(r:Int)<256:=by omega
    clear hv h4 hlt256;have e0:((128^2:Nat):Int)=16384:=by decide
    rw[e0];clear e0;by_cases hb:r<128
    ·by_cases hz:r=0
     ·subst hz;have hx:nxt s[2] (2+1)=2:=qt6b.2 (.inr ⟨hr,by decide⟩);have RR:=hid (qxud (l:=s.data.toList) (v:=grow v 2 s[2]) (n:=2+1) (st:=2) (a:=0) (b:=0) (c:=5) (by rw[RUN.out,D.out,q408 _ (by rw[hx];decide),hx]) rfl rfl rfl);clear hx hb;go_wp2
      go_ret3
      exact⟨RR.out,rfl⟩
     ·have hx:nxt s[2] (2+1)=1:=qicf.2 ⟨by omega,.inl (by omega)⟩;have hzz:((r:Int)==0)=false:=by simp;omega
      have hbd:decide ((r:Int)<128)=true:=decide_eq_true (by omega);have RR:=hid (qxud (l:=s.data.toList) (v:=grow v 2 s[2]) (n:=2+1) (st:=1) (a:=(v:Int)+(r:Int)%128*16384) (b:=3) (c:=0) (by rw[RUN.out,D.out,q408 _ (by rw[hx];decide),hx]) (by simp[grow,hr]) rfl rfl);clear hx hb hz;go_wp2
      go_ret3
      exact⟨RR.out,rfl⟩
    ·have hbd:decide ((r:Int)<128)=false:=decide_eq_false (by omega);have HB:=hid (show 128<=s[2].toNat by omega);have HG:=hid (show(v:Int)+(r:Int)%128*16384=(grow v 2 s[2]:Nat) by simp[grow,hr]);clear hb;go_wp2
     go_round
     case rel=>exact⟨3,grow v 2 s[2],by decide,by omega,congrArg (Value.int .i64) HG.out,congrArg (Value.int .i64) (by decide),rfl,qpfr _ HV.out,.inl ⟨by decide,by rw[RUN.out,D.out,qomx _ (qv8z.2 ⟨HB.out,by decide⟩)]⟩⟩
     case measure=>simp[intOf]
   ·have hv1:(v:Int)<2097152:=Int.ofNat_lt.2 (show v<2097152 from hv);have HV:=hid hv;have hge:decide ((s.size:Int)<=3)=false:=decide_eq_false (by omega);obtain⟨r,hr⟩:∃r,s[3].toNat=r:=⟨_,rfl⟩
    have h256:(r:Int)<256:=by omega
    clear hv h4 hlt256;have e0:((128^3:Nat):Int)=2097152:=by decide
    rw[e0];clear e0;by_cases hb:r<128
    ·by_cases hz:r=0
     ·subst hz;have hx:nxt s[3] (3+1)=2:=qt6b.2 (.inr ⟨hr,by decide⟩);have RR:=hid (qxud (l:=s.data.toList) (v:=grow v 3 s[3]) (n:=3+1) (st:=2) (a:=0) (b:=0) (c:=5) (by rw[RUN.out,D.out,q408 _ (by rw[hx];decide),hx]) rfl rfl rfl);clear hx hb;go_wp2
      go_ret3
      exact⟨RR.out,rfl⟩
     ·have hx:nxt s[3] (3+1)=1:=qicf.2 ⟨by omega,.inl (by omega)⟩;have hzz:((r:Int)==0)=false:=by simp;omega
      have hbd:decide ((r:Int)<128)=true:=decide_eq_true (by omega);have RR:=hid (qxud (l:=s.data.toList) (v:=grow v 3 s[3]) (n:=3+1) (st:=1) (a:=(v:Int)+(r:Int)%128*2097152) (b:=4) (c:=0) (by rw[RUN.out,D.out,q408 _ (by rw[hx];decide),hx]) (by simp[grow,hr]) rfl rfl);clear hx hb hz;go_wp2
      go_ret3
      exact⟨RR.out,rfl⟩
    ·have hbd:decide ((r:Int)<128)=false:=decide_eq_false (by omega);have HB:=hid (show 128<=s[3].toNat by omega);have HG:=hid (show(v:Int)+(r:Int)%128*2097152=(grow v 3 s[3]:Nat) by simp[grow,hr]);clear hb;go_wp2
     go_round
     case rel=>exact⟨4,grow v 3 s[3],by decide,by omega,congrArg (Value.int .i64) HG.out,congrArg (Value.int .i64) (by decide),rfl,qpfr _ HV.out,.inr ⟨rfl,by rw[RUN.out,D.out,q408 _ (by rw[qt6b.2 (.inl ⟨HB.out,rfl⟩)];decide)];exact qt6b.2 (.inl ⟨HB.out,rfl⟩)⟩⟩
     case measure=>simp[intOf]
  ·obtain rfl:k=s.size:=by omega
   have RR:=hid (qxud (l:=s.data.toList) (v:=v) (n:=s.size) (st:=0) (by rw[hrun0,qhwc];rfl) rfl rfl rfl);clear hrun0;go_wp2
   go_ret3
   exact⟨RR.out,rfl⟩
end Go.Proofs.YtombgnfedafkjaaGreatDoor
