/- The contract of mqtt.All. Condition: the bytes are no more than memory holds; each body of subscriptions is of few filters, or short. -/
import Derived.Test.YtombgnfedafkjaaGreatDoorK51
set_option maxRecDepth 100000
set_option maxHeartbeats 4000000
namespace Go.Proofs.YtombgnfedafkjaaGreatDoor
open Lib(hid)
open Proofs.Tryz
open Go.RowKit
def q10u(p:Pk)(a:Ad)(g:Nat):Prop:=∃i,p.wProps≠[]/\a.w=some ⟨g,i,none⟩\/p.codes≠[]/\a.cs=some ⟨g,i,none⟩\/p.filters≠[]/\a.fs=some ⟨g,i,none⟩\/p.props≠[]/\a.ps=some ⟨g,i,none⟩
theorem PkAt.lists_lt{W:World}{p:Pk}{a:Ad}(h:PkAt W p a){g:Nat}(hg:q10u p a g):g<W.heap.size:=by
 obtain⟨i,⟨h1,h2⟩|⟨h1,h2⟩|⟨h1,h2⟩|⟨h1,h2⟩⟩:=hg
 ·obtain⟨g',i',e,hl,-⟩:=h.w h1;rw[h2] at e;cases e;exact hl
 ·obtain⟨g',i',e,hl,-⟩:=h.cs (fun e=>h1 (by simpa [ics] using e));rw[h2] at e;cases e;exact hl
 ·obtain⟨g',i',e,hl,-⟩:=h.fs (fun e=>h1 (by
   cases hf:p.filters with
   |nil=>rfl
   |cons f l=>rw[hf] at e;exact absurd e (by simp[fcs,quk6])));rw[h2] at e;cases e;exact hl
 ·obtain⟨g',i',e,hl,-⟩:=h.ps h1;rw[h2] at e;cases e;exact hl
theorem PkAt.moved{W W':World}{p:Pk}{a:Ad}(h:PkAt W p a)(hz:W.heap.size<=W'.heap.size)(hb:∀g,q10u p a g->W'.heap[g]?=W.heap[g]?):PkAt W' p a:=by
 refine⟨fun hn=>h.w.kept hz (fun g i e _=>hb g ⟨i,.inl ⟨hn,e⟩⟩) hn,fun hn=>h.cs.kept hz (fun g i e _=>hb g ⟨i,.inr (.inl ⟨?_,e⟩)⟩) hn,fun hn=>h.fs.kept hz (fun g i e _=>hb g ⟨i,.inr (.inr (.inl ⟨?_,e⟩))⟩) hn,fun hn=>h.ps.kept hz (fun g i e _=>hb g ⟨i,.inr (.inr (.inr ⟨hn,e⟩))⟩) hn⟩
 ·intro e;rw[e] at hn;exact hn rfl
 ·intro e;rw[e] at hn;exact hn rfl
def nilV:Value := .slice none 0 0
structure AaS(w:World)(x:Value)(G:List Pa)(W:World):Prop where
 al:AlS w x nilV G [] W
 pk:∀q∈G,PkAt W q.1 q.2/\FitM q.1/\∀g,q10u q.1 q.2 g->x.ownBlock≠some g
section
variable{w W W':World}{x x':Value}{G:List Pa}{q:Pa}
theorem AaS.made(w:World):AaS w nilV [] w:=⟨AlS.made w,fun _ hq=>(nomatch hq)⟩
theorem AaS.call(h:AaS w x G W)(hb:Below W.heap.size W W'):AaS w x G W':=⟨h.al.call hb,fun q hq=>⟨(h.pk q hq).1.below hb,(h.pk q hq).2⟩⟩
theorem AaS.app(h:AaS w x G W)(hq:PkAt W q.1 q.2)(hf:FitM q.1)(hx:∀g,q10u q.1 q.2 g->x.ownBlock≠some g)(ho:W'.ownsRow w.heap.size 32 25 x' (G.length+1) (pkCs G++(pkC q.1 q.2).toList))(hg:W.grownBy W' x.ownBlock)(hn:x'.ownBlock=x.ownBlock\/x'.ownBlock=some W.heap.size):AaS w x' (G++[q]) W':=by
 refine⟨h.al.app8 ho hg hn,fun r hr=>?_⟩;have hr2:PkAt W r.1 r.2/\FitM r.1/\∀g,q10u r.1 r.2 g->x.ownBlock≠some g:=by
  rcases List.mem_append.1 hr with hr|hr
  ·exact h.pk r hr
  ·obtain rfl:r=q:=by simpa using hr
   exact⟨hq,hf,hx⟩
 obtain⟨h1,h2,h3⟩:=hr2;refine⟨h1.moved hg.size (fun g hl=>hg.block g (h1.lists_lt hl) (fun e=>h3 g hl e.symm)),h2,fun g hl=>?_⟩;rcases hn with e|e
 ·rw[e];exact h3 g hl
 ·rw[e];intro e2
  have:=h1.lists_lt hl
  have:=Option.some.inj e2
  omega
theorem AaS.ret{R:List Pk×Nat×Nat}{k e:Nat}(h:AaS w x G W)(hR:R=(G.map (·.1),k,e)):qqkn w R (.returned (.tuple #[x,.int .i64 (k:Nat),.int .i64 (e:Nat)])) W:=by obtain⟨A,c,hx,hc,hcl,-⟩:=CL.owned h.al.o8 (q6wm G);rw[hR,hx];exact⟨A,c,G,rfl,rfl,hc,⟨hcl,fun q hq=>(h.pk q hq).1⟩,fun q hq=>(h.pk q hq).2.1,h.al.low⟩
end
theorem qjqt{Q:Exit->Act->World->Prop}{S:Option Nat->World->Prop}{W:World}{B f g:Nat}{v k q:Int}{X:ByteArray}{C E:Array Value}{x1 x2 x4 x5 x6 x7 x8 x9 x10 x11 x12 x13 x14 x15 x16 x17 x18 x19 x20 x21 x22 x23 x24 x25 x26 x27 x28 x29 x30 x31 x32 x33 x34 x35 x36 x37 x38 x39 x40 x41 x42 x43 x44 x45 x46 x47:Value}
 (hS:S none W.drew) (hk:1<=k/\k<=15) (hl:q1n3 noW qtav k=wayV f g) (rf:Runs f) (hC:C.size=25) (hE:prog.built 79 [(0,.int .i64 v),(1,.agg C)]=some E)
 (K0:∀x w,S x w->w.cell? ⟨B,0,none⟩=some (.int .i64 k)) (KB:∀x w,S x w->w.heap[B]?=some (.cells C 32 (0,0))) (KW:∀b w,S (some b) w->qvkg w b)
 (H0:∀x w,S x w->Calls prog 24 #[] w fun e w'=>∃b,e=.returned (.map (some b))/\S (some b) w')
 (H1:∀x w,S x w->Calls prog f #[.agg E] w fun e w'=>e=.returned (.tuple #[(.string X),(.int .i64 q)])/\S x w')
 (fin:∀x w,S x w->Q .normal ⟨#[(.int .i64 v),x1,x2,(.pointer (some ⟨B,0,none⟩)),x4,(.string X),(.int .i64 q),x7,x8,x9,x10,x11,x12,x13,x14,x15,x16,(.tuple #[(.string X),(.int .i64 q)]),(.map (some (x.getD 0))),(.pointer (some ⟨B,0,none⟩)),(.int .i64 k),(wayV f g),(fnV f),(.int .i64 v),(.agg C),(.agg E),(.tuple #[(.string X),(.int .i64 q)]),(.string X),(.int .i64 q),x29,x30,x31,x32,x33,x34,x35,x36,x37,x38,x39,x40,x41,x42,x43,x44,x45,x46,x47],[]⟩ w) :
 (Code.region 4 (qfhu.opsAt 4 Tryz.f22.body) true).wp prog Q ⟨#[(.int .i64 v),x1,x2,(.pointer (some ⟨B,0,none⟩)),x4,x5,x6,x7,x8,x9,x10,x11,x12,x13,x14,x15,x16,x17,x18,x19,x20,x21,x22,x23,x24,x25,x26,x27,x28,x29,x30,x31,x32,x33,x34,x35,x36,x37,x38,x39,x40,x41,x42,x43,x44,x45,x46,x47],[]⟩ W:=by
 refine q2y4.wp (x:=none) (S:=S) (made:=fun i x=>i=0->x.isSome=true) (war:=[]) (ds:=[18,19,20,21,22,23,24,25,26,17,27,28,5,6]) (A:=[(.int .i64 v),x1,x2,(.pointer (some ⟨B,0,none⟩)),x4,x5,x6,x7,x8,x9,x10,x11,x12,x13,x14,x15,x16,x17,x18,x19,x20,x21,x22,x23,x24,x25,x26,x27,x28,x29,x30,x31,x32,x33,x34,x35,x36,x37,x38,x39,x40,x41,x42,x43,x44,x45,x46,x47]) (B:=fun x=>[(.int .i64 v),x1,x2,(.pointer (some ⟨B,0,none⟩)),x4,(.string X),(.int .i64 q),x7,x8,x9,x10,x11,x12,x13,x14,x15,x16,(.tuple #[(.string X),(.int .i64 q)]),(.map (some (x.getD 0))),(.pointer (some ⟨B,0,none⟩)),(.int .i64 k),(wayV f g),(fnV f),(.int .i64 v),(.agg C),(.agg E),(.tuple #[(.string X),(.int .i64 q)]),(.string X),(.int .i64 q),x29,x30,x31,x32,x33,x34,x35,x36,x37,x38,x39,x40,x41,x42,x43,x44,x45,x46,x47]) (D:=[]) (by kernel_rfl) (by kernel_rfl) (by kernel_rfl) ?_ hS ?_ (fun x w hm hS=>fin x w hS)
 ·exact fun x=>(by repeat (first|exact trivial|refine⟨.inr rfl,?_⟩|refine⟨.inl rfl,?_⟩))
 refine q2y4.All.step rfl (fun x w hm hS => .inl ⟨rfl,.call _ _ (qpjl.enter0 func24 rfl) ((H0 x w hS).mono fun e w' ⟨b,he,h1⟩=>⟨_,some b,he,(fun d hd=>by cases hd;rfl),h1,(fun _=>rfl),(fun i _ _=>rfl),[18],by kernel_rfl,(by repeat (first|exact trivial|refine⟨.inr rfl,?_⟩|refine⟨.inl rfl,?_⟩))⟩)⟩) ?_;refine q2y4.All.step rfl (q2y4.Does.pure (val:=fun x=>(.pointer (some ⟨B,0,none⟩))) rfl (fun x h=>absurd h (by decide)) (fun x w hm hS=>⟨rfl,rfl,qd7q rfl⟩)) ?_;refine q2y4.All.step rfl (q2y4.Does.pure (val:=fun x=>(.int .i64 k)) rfl (fun x h=>absurd h (by decide)) (fun x w hm hS=>⟨rfl,rfl,qkcv rfl (K0 x w hS)⟩)) ?_;refine q2y4.All.step rfl (q2y4.Does.pure (val:=fun x=>(wayV f g)) rfl (fun x h=>absurd h (by decide)) (fun x w hm hS=>⟨rfl,rfl,(by obtain⟨b,rfl⟩:=Option.isSome_iff_exists.1 (hm 0 (by decide+kernel) (by decide) rfl);exact q0c2 rfl rfl (KW b w hS) hk.1 hk.2 hl)⟩)) ?_
 refine q2y4.All.step rfl (q2y4.Does.pure (val:=fun x=>(fnV f)) rfl (fun x h=>absurd h (by decide)) (fun x w hm hS=>⟨rfl,rfl,q058 rfl⟩)) ?_;refine q2y4.All.step rfl (q2y4.Does.pure (val:=fun x=>(.int .i64 v)) rfl (fun x h=>absurd h (by decide)) (fun x w hm hS=>⟨rfl,rfl,rfl⟩)) ?_;refine q2y4.All.step rfl (q2y4.Does.pure (val:=fun x=>(.agg C)) rfl (fun x h=>absurd h (by decide)) (fun x w hm hS=>⟨rfl,rfl,qjuh rfl hC (KB x w hS)⟩)) ?_;refine q2y4.All.step rfl (q2y4.Does.pure (val:=fun x=>(.agg E)) rfl (fun x h=>absurd h (by decide)) (fun x w hm hS=>⟨rfl,rfl,qcrw rfl rfl hE⟩)) ?_;refine q2y4.All.step rfl (q2y4.Does.call (val:=fun x=>(.tuple #[(.string X),(.int .i64 q)])) rfl (fun x h=>absurd h (by decide)) (fun x w hm hS=>⟨rfl,rfl,qwfj rf rfl rfl,H1 x w hS⟩)) ?_;refine q2y4.All.step rfl (q2y4.Does.pure (val:=fun x=>(.tuple #[(.string X),(.int .i64 q)])) rfl (fun x h=>absurd h (by decide)) (fun x w hm hS=>⟨rfl,rfl,rfl⟩)) ?_;refine q2y4.All.step rfl (q2y4.Does.pure (val:=fun x=>(.string X)) rfl (fun x h=>absurd h (by decide)) (fun x w hm hS=>⟨rfl,rfl,rfl⟩)) ?_;refine q2y4.All.step rfl (q2y4.Does.pure (val:=fun x=>(.int .i64 q)) rfl (fun x h=>absurd h (by decide)) (fun x w hm hS=>⟨rfl,rfl,rfl⟩)) ?_;refine q2y4.All.step rfl (q2y4.Does.pure (val:=fun x=>(.string X)) rfl (fun x h=>absurd h (by decide)) (fun x w hm hS=>⟨rfl,rfl,rfl⟩)) ?_;refine q2y4.All.step rfl (q2y4.Does.pure (val:=fun x=>(.int .i64 q)) rfl (fun x h=>absurd h (by decide)) (fun x w hm hS=>⟨rfl,rfl,rfl⟩)) ?_;exact q2y4.All.fin rfl
def q8xn(v:Int)(p:Pk):List UInt8×List UInt8×Nat:=if q8s2 v p≠0 then([],[],q8s2 v p) else(rawH (q9sw v p),qx3b v p,0)
theorem qjm3{v:Int}{p:Pk}(h:(qjyu v p.kind p.dup p.retain p.qos).2≠0):q8s2 v p=(qjyu v p.kind p.dup p.retain p.qos).2:=by
 unfold qjyu at h ⊢;unfold q8s2;by_cases h1:verH v=false
 ·rw[if_pos h1,if_pos h1]
 rw[if_neg h1,if_neg h1] at *;by_cases h2:qbe2 v p.kind=false
 ·rw[if_pos h2,if_pos h2]
 rw[if_neg h2,if_neg h2] at *;by_cases h3:p.kind=6\/p.kind=8\/p.kind=10
 ·rw[if_pos h3] at h;exact absurd rfl h
 rw[if_neg h3] at h ⊢;by_cases h4:p.kind=3
 ·rw[if_pos h4] at h ⊢;by_cases h5:q0xk p.dup p.qos=true
  ·rw[if_pos h5] at h;exact absurd rfl h
  ·rw[if_neg h5];have e:qc11 v p=7:=by
    unfold qc11;rw[if_neg (by omega),if_pos h4];unfold q6ed;rw[if_neg (by simpa using h4)];have e:qjyu v 3 p.dup p.retain p.qos=(0,7):=by unfold qjyu;rw[h4] at h2 h3;rw[if_neg h1,if_neg h2,if_neg h3,if_pos rfl,if_neg h5]
    rw[e];rfl
   rw[e];rfl
 ·rw[if_neg h4] at h;exact absurd rfl h
theorem qwnh{v:Int}{p:Pk}(h:(qjyu v p.kind p.dup p.retain p.qos).2=0):verH v=true/\qbe2 v p.kind=true/\q8s2 v p=if qc11 v p≠0 then qc11 v p else if 268435455<(qx3b v p).length then 4 else 0:=by obtain⟨h1,h2,-⟩:=qhp2 h;refine⟨h1,h2,?_⟩;unfold q8s2;rw[if_neg (by simp[h1]),if_neg (by simp[h2])]
theorem qdc2(v:Int)(p:Pk)(a:Ad)(w:World)(hp:PkAt w p a)(sp:q21o p)(ok:PkOk p)(cm:CapM p a) :
 Calls prog 22 #[.int .i64 v,.agg (pkC p a)] w fun e w'=>e=.returned (.tuple #[.string (bs (q8xn v p).1),.string (bs (q8xn v p).2.1),.int .i64 ((q8xn v p).2.2:Nat)])/\Below w.heap.size w w':=by
 have S0:=hid (BxS.made w p a);have C1:=hid (qwmp p a);have FL:=fun W=>q2el v (c:=pkC p a) (k:=p.kind) (q:=p.qos) (d:=p.dup) (r:=p.retain) W (qwmp p a) rfl rfl rfl rfl;unfold qu2r at FL;have k0:∀W,BxS w p a W->W.cell? ⟨w.heap.size,0,none⟩=some (.int .i64 p.kind):=fun W h=>h.cell 0;have K0:=hid k0;clear k0;have PF:=qjm3 (v:=v) (p:=p);have PK:=qwnh (v:=v) (p:=p);have HM:=fun h=>qri3.2 (qri3.1 (qlyn (v:=v) (p:=p) h));unfold q9sw at HM;obtain⟨⟨fl,y⟩,hF⟩:∃z,qjyu v p.kind p.dup p.retain p.qos=z:=⟨_,rfl⟩
 have HP:q8xn v p=if q8s2 v p≠0 then([],[],q8s2 v p) else(rawH ⟨p.kind,fl,((qx3b v p).length:Nat)⟩,qx3b v p,0):=by unfold q8xn q9sw;rw[hF]
 rw[hF] at FL PF PK HM;simp only at FL PF PK HM;rw[HP];clear HP hF;replace FL:=hid FL;by_cases hy:y=0
 ·subst hy;obtain⟨hv,hk,hM⟩:=PK rfl;have hkr:=q39c hk;obtain⟨f,g,HW⟩:=qguk hkr.1 hkr.2;have WR:=fun W (h:BxS w p a W)=>HW.wr v p a W rfl (hp.below h.low) sp ok cm;unfold qqdr at WR;have hX:qwgk v p=(if qc11 v p≠0 then [] else qx3b v p,qc11 v p):=by unfold qwgk;by_cases h:qc11 v p=0<;>simp[h]
  rw[hX] at WR;simp only at WR;have HBY:=fun W=>q43z v ⟨p.kind,fl,((qx3b v p).length:Nat)⟩ W;unfold qwqq qnxm hdV at HBY;obtain⟨X,hXX⟩:∃X,bs (if qc11 v p≠0 then [] else qx3b v p)=X:=⟨_,rfl⟩
  rw[hXX] at WR;have WR:=fun(x:Option Nat) W (h:BxS w p a W/\∀b,x=some b->qvkg W b)=>(WR W h.1).mono fun e w' hh=>(⟨hh.1,h.1.call hh.2,fun b e=>(h.2 b e).below hh.2⟩:_/\BxS w p a w'/\∀b,x=some b->qvkg w' b)
  have KD:=fun(x:Option Nat) W (h:BxS w p a W/\∀b,x=some b->qvkg W b)=>(qdie W).mono fun e w' ⟨b,he,hw,hb⟩=>(⟨b,he,h.1.call hb,fun c e=>by cases e;exact hw⟩:∃b,e=Ending.returned (.map (some b))/\BxS w p a w'/\∀c,some b=some c->qvkg w' c)
  have WRH:=hid WR;have KDH:=hid KD;have HWH:=hid HW;have HKR:=hid hkr;have HXX:=hid hXX;have HMH:=hid HM;have HMM:=hid hM;replace HBY:=hid HBY;clear WR KD HW hkr hXX HM hM PF PK hp sp ok cm hX hv hk;generalize hq:qc11 v p=q at *;generalize qx3b v p=L at *;generalize q8s2 v p=E at *;clear hq;obtain⟨T,hT⟩:∃T:List UInt8×List UInt8×Nat,(if E≠0 then([],[],E) else(rawH ⟨p.kind,fl,(L.length:Nat)⟩,L,0))=T:=⟨_,rfl⟩
  rw[hT];replace hT:=hid hT;go_in;go_wp2_with (refine wpList_load_row rfl _ _ rfl w.heap.size rfl 32 _ (0,0) _ S0.out.box underlying32 rfl (by rw[C1.out];exact q5nr) ?_);refine(FL.out _).mono ?_;rintro e W ⟨rfl,hb⟩;have S1:=hid (S0.out.call hb);clear hb S0
  go_upto_region 4 with fail
  refine qjqt (S:=fun x W=>BxS w p a W/\∀b,x=some b->qvkg W b) (B:=w.heap.size) (f:=f) (g:=g) (k:=p.kind) (q:=q) (X:=X) (C:=pkC p a) (E:=wrC v p a) ⟨S1.out.draw,fun b e=>by cases e⟩ HKR.out HWH.out.look HWH.out.rf C1.out (qet0 v p a) (fun x W h=>K0.out W h.1) (fun x W h=>h.1.box) (fun b W h=>h.2 b rfl) KDH.out WRH.out ?_;rintro x W2 ⟨hS,-⟩;have S2:=hid hS;clear hS S1 WRH KDH HWH HKR FL;generalize wrC v p a=D at *;generalize pkC p a=C at *;dsimp only;by_cases hq:q=0
  ·subst hq;have hx:=HXX.out;rw[if_neg (by simp)] at hx;have hz:X.size=L.length:=by rw[<-hx,q5zk]
   have hE:=HMM.out;rw[if_neg (by simp)] at hE;have K2:=K0.out _ S2.out;by_cases hlen:268435455<L.length
   ·rw[if_pos hlen] at hE;subst hE;have hT2:=hT.out;rw[if_pos (by decide)] at hT2;subst hT2;have g1:decide ((268435455:Int)<(X.size:Int))=true:=decide_eq_true (by omega);have LO:=hid S2.out.low;clear hx hz hlen HXX HMH HMM HBY S2 K2;go_wp2
    go_ret3
    exact⟨rfl,LO.out⟩
   ·rw[if_neg hlen] at hE;subst hE;have hT2:=hT.out;rw[if_neg (by simp)] at hT2;have hc:=HMH.out rfl;have g1:decide ((268435455:Int)<(X.size:Int))=false:=decide_eq_false (by omega);have HB:=HBY.out;rw[if_pos hc,hc,<-hz] at HB;obtain⟨Y,hY⟩:∃Y,bs (rawH ⟨p.kind,fl,(X.size:Int)⟩)=Y:=⟨_,rfl⟩
    rw[hY] at HB;have e1:bs T.1=Y:=by rw[<-hT2,<-hY,hz]
    have e2:bs T.2.1=X:=by rw[<-hT2,<-hx]
    have e3:T.2.2=0:=by rw[<-hT2]
    have HT:=hid (And.intro e1 (And.intro e2 e3));clear hY e1 e2 e3 hT2 hT;replace HB:=hid HB;have LO:=hid S2.out.low;clear hx hz hlen HXX HMH HMM HBY S2 hc;go_wp2_with fail;refine(HB.out _).mono ?_;rintro e W3 ⟨rfl,hb⟩;have L3:=hid (qxh2 LO.out hb);clear hb;go_wp2
    go_ret3
    rw[HT.out.1,HT.out.2.1,HT.out.2.2];exact⟨rfl,L3.out⟩
  ·have hE:=HMM.out;rw[if_pos hq] at hE;subst hE;have hT2:=hT.out;rw[if_pos hq] at hT2;subst hT2;have q1:((E:Int)==0)=false:=by simp;omega
   have q2:((E:Int) != 0)=true:=by simp;omega
   have LO:=hid S2.out.low;clear hq HXX HMH HMM HBY S2;go_wp2
   go_ret3
   exact⟨rfl,LO.out⟩
 ·rw[PF hy,if_pos hy];have y1:((y:Int)==0)=false:=by simp;omega
  have y2:((y:Int) != 0)=true:=by simp;omega
  clear PF PK HM hy hp sp ok cm K0;go_in;go_wp2_with (refine wpList_load_row rfl _ _ rfl w.heap.size rfl 32 _ (0,0) _ S0.out.box underlying32 rfl (by rw[C1.out];exact q5nr) ?_);refine(FL.out _).mono ?_;rintro e W ⟨rfl,hb⟩;have LO:=hid (S0.out.call hb).low;clear hb;go_wp2
  go_ret3
  exact⟨rfl,LO.out⟩
theorem qbxa{v:Int}{p:Pk}:(q8xn v p).2.2=q8s2 v p:=by unfold q8xn;by_cases h:q8s2 v p=0<;>simp[h]
theorem qbp2{v:Int}{p:Pk}:(q8xn v p).1++(q8xn v p).2.1=(qk4b v p).1/\q8s2 v p=(qk4b v p).2:=by unfold q8xn qk4b rawM;by_cases h:q8s2 v p=0<;>simp[h]
theorem qlh2(v:Int)(p:Pk):(q8xn v p).1.length+(q8xn v p).2.1.length<=268435460:=by
 have h1:=(qbp2 (v:=v) (p:=p)).1;rw[<-List.length_append,h1];unfold qk4b;by_cases h:q8s2 v p=0
 ·rw[if_neg (by simpa using h)];exact qu4s h
 ·rw[if_pos h];exact Nat.zero_le _
theorem qgn1(v:Int)(p:Pk)(a:Ad)(w:World)(hp:PkAt w p a)(sp:q21o p)(ok:PkOk p)(cm:CapM p a) :
 Calls prog 14 #[.int .i64 v,.agg (pkC p a)] w fun e w'=>e=.returned (.int .i64 (q8s2 v p:Nat))/\Below w.heap.size w w':=by
 have S0:=hid (BxS.made w p a);have C1:=hid (qwmp p a);have PA:=hid (qdc2 v p a _ (hp.below S0.out.low) sp ok cm);rw[<-qbxa];clear hp sp ok cm;generalize q8xn v p=R at *;go_in;go_wp2_with (refine wpList_load_row rfl _ _ rfl w.heap.size rfl 32 _ (0,0) _ S0.out.box underlying32 rfl (by rw[C1.out];exact q5nr) ?_);refine(PA.out).mono ?_;rintro e W ⟨rfl,hb⟩;have LO:=hid (S0.out.call hb).low;clear hb;go_wp2;go_ret;exact⟨rfl,LO.out⟩
theorem qlum(v:Int)(p:Pk)(a:Ad)(w:World)(hp:PkAt w p a)(sp:q21o p)(ok:PkOk p)(cm:CapM p a) :
 Calls prog 9 #[.int .i64 v,.agg (pkC p a)] w fun e w'=>e=.returned (.tuple #[.string (bs (qk4b v p).1),.int .i64 ((qk4b v p).2:Nat)])/\Below w.heap.size w w':=by
 have S0:=hid (BxS.made w p a);have C1:=hid (qwmp p a);have PA:=hid (qdc2 v p a _ (hp.below S0.out.low) sp ok cm);obtain⟨h1,h2⟩:=qbp2 (v:=v) (p:=p);have hz:=qlh2 v p;rw[<-h1,<-h2,<-qbxa];clear hp sp ok cm h1 h2;generalize q8xn v p=R at *;have hj:bs R.1++bs R.2.1=bs (R.1++R.2.1):=qyv7 _ _;have hs:¬9223372036854775807<(bs R.1).size+(bs R.2.1).size:=by rw[q5zk,q5zk];have:=hz;omega
 generalize bs R.1=X at *;generalize bs R.2.1=Y at *;generalize bs (R.1++R.2.1)=Z at *;clear hz;go_in;go_wp2_with (refine wpList_load_row rfl _ _ rfl w.heap.size rfl 32 _ (0,0) _ S0.out.box underlying32 rfl (by rw[C1.out];exact q5nr) ?_);refine(PA.out).mono ?_;rintro e W ⟨rfl,hb⟩;have LO:=hid (S0.out.call hb).low;clear hb;go_wp2
 go_ret2
 exact⟨rfl,LO.out⟩
end Go.Proofs.YtombgnfedafkjaaGreatDoor
namespace Go.Proofs.YtombgnfedafkjaaGreatDoor
open Lib(hid)
open Proofs.Tryz
end Go.Proofs.YtombgnfedafkjaaGreatDoor
namespace Go.Proofs.YtombgnfedafkjaaGreatDoor
open Lib(hid)
open Proofs.Tryz
open Go.RowKit
def ping:Pk:={Pk.zero with kind:=12}
theorem qlkh(w:World):Calls prog 8 #[] w fun e w'=>e=.returned (.bool true)/\Below w.heap.size w w':=by
 have RD:=q62d 4 ⟨#[192,0]⟩ w (by decide) (qp1j (by decide));rw[show(⟨#[192,0]⟩:ByteArray).data.toList=[192,0] from rfl,qx3n] at RD;have SM:=hid (fun a W (h:PkAt W ping a)=>qbsf ping a adZ W h (qx9v _ W ⟨rfl,rfl,rfl,rfl⟩) (by decide) (by decide) (by decide) (by decide));obtain⟨E,hE⟩:∃E,pkC ping adZ=E:=⟨_,rfl⟩
 unfold pkV at SM;rw[hE] at SM;have HE:=hid hE;have HZ:=hid qbwp;have hzv:=qrai;have hne:¬pkZ=#[]:=by intro h;have:=qbwp;rw[h] at this;cases this
 replace RD:=hid RD;clear hE;go_in;go_wp2_with fail;refine(RD.out).mono ?_;rintro e W ⟨a,rfl,at6,-,-,hb,-⟩;have hbx:Below W.heap.size W ((W.alloc (.cells pkZ 32)).setRow W.heap.size (pkC ping a)):=q8xz (qybm _) (Nat.le_refl _) _;have L7:=hid (qxh2 hb hbx);have AT7:=hid (show PkAt _ ping a from at6.below hbx);have R7:=hid (setRow_heap _ _ _ (pkC ping a) _ _ (heap_alloc_new W (.cells pkZ 32)));have HD1:=hid (qwmp ping a);have HD2:=hid (qmz0 ping a);clear hb at6 hbx;obtain⟨D,hD⟩:∃D,pkC ping a=D:=⟨_,rfl⟩
 have SMa:=SM.out a;rw[hD] at SMa L7 AT7 R7 HD1 HD2;rw[show pkC {Pk.zero with kind:=12} a=D from hD];have SMH:=hid SMa;clear hD SMa SM
 go_upto_region 2 with (refine wpList_store_row rfl _ _ _ rfl W.heap.size D rfl rfl 32 _ (heap_alloc_new W _) (by rw[HD1.out];exact q5nr) (by rw[HZ.out,HD1.out]) HD2.out ?_)
 generalize (W.alloc (.cells pkZ 32)).setRow W.heap.size D=W7 at *;generalize W.heap.size=b1 at *;clear hzv hne;go_wp2_with (first
  |(refine q2a5 rfl _ _ rfl b1 rfl 32 _ (0,0) _ R7.out underlying32 rfl (by rw[HD1.out];exact q5nr) ?_)
  |(refine qff2 rfl 32 _ rfl (some _) rfl E (by rw[<-HE.out];kernel_rfl) ?_))
 refine(SMH.out _ AT7.out).mono ?_;rintro e W8 ⟨rfl,hb⟩;have L8:=hid (qxh2 L7.out hb);clear hb;go_wp2;go_ret;exact⟨rfl,L8.out⟩
theorem qed1(v:Int)(p:Pk):qk4b v p=(if q8s2 v p=0 then rawM v p else [],q8s2 v p):=by unfold qk4b;by_cases h:q8s2 v p=0<;>simp[h]
structure VnS(w:World)(p:Pk)(a:Ad)(h g:Nat)(x y:Hd)(W:World):Prop where
 low:Below w.heap.size w W
 box:W.heap[w.heap.size]?=some (.cells (pkC p a) 32 (0,0))
 hh:W.heap[h]?=some (.cells #[.int .i64 x.kind,.int .i64 x.flags,.int .i64 x.length] 50 (0,0))
 hg:W.heap[g]?=some (.cells #[.int .i64 y.kind,.int .i64 y.flags,.int .i64 y.length] 50 (0,0))
theorem VnS.call{w W W':World}{p:Pk}{a:Ad}{h g:Nat}{x y:Hd}(s:VnS w p a h g x y W)(hb:Below W.heap.size W W'):VnS w p a h g x y W':=
 ⟨qxh2 s.low hb,(hb.block _ (lt_of_block s.box)).trans s.box,(hb.block _ (lt_of_block s.hh)).trans s.hh,(hb.block _ (lt_of_block s.hg)).trans s.hg⟩
theorem qojy{v:Int}{p:Pk}(h:q8s2 v p=0):qday v (rawM v p)=(q9sw v p,(rawH (q9sw v p)).length,0):=qzlb (qlyn h) (qx3b v p)
theorem qwbw(p:Pk)(a:Ad)(w:World)(hp:PkAt w p a)(ok:PkOk p)(ca:PkCap p a) :
 Calls prog 7 #[pkV p a] w fun e w'=>e=.returned (.bool true)/\Below w.heap.size w w':=by
 have S0:=hid (BxS.made w p a);have LG:=fun W (h:BxS w p a W)=>(q1dl p a W (hp.below h.low) ok).mono fun e W' hh=>(⟨hh.1,h.call hh.2⟩:_/\BxS w p a W')
 have C1:=hid (qwmp p a);cases hl:qa3g p with
 |false=>rw[hl] at LG;replace LG:=hid LG;clear hl;unfold pkV at *;go_in;go_wp2_with fail;refine(qlkh _).mono ?_;rintro e W ⟨rfl,hb⟩;have S1:=hid (S0.out.call hb);clear hb;go_wp2_with (refine wpList_load_row rfl _ _ rfl w.heap.size rfl 32 _ (0,0) _ S1.out.box underlying32 rfl (by rw[C1.out];exact q5nr) ?_);refine(LG.out _ S1.out).mono ?_;rintro e W2 ⟨rfl,hb⟩;have L2:=hid hb.low;clear hb;go_wp2;go_ret;exact⟨rfl,L2.out⟩
 |true=>
  rw[hl] at LG;have sh:=q2qrt hl;have sp:q21o p:=⟨by omega,by omega,by omega,by omega⟩
  have cm:CapM p a:=⟨ca.pc,fun _=>ca⟩
  replace LG:=hid LG;have B4:=fun W (h:BxS w p a W)=>(qlum 4 p a W (hp.below h.low) sp ok cm).mono fun e W' hh=>(⟨hh.1,h.call hh.2⟩:_/\BxS w p a W')
  have B5:=fun W (h:BxS w p a W)=>(qlum 5 p a W (hp.below h.low) sp ok cm).mono fun e W' hh=>(⟨hh.1,h.call hh.2⟩:_/\BxS w p a W')
  have V4:=fun W (h:BxS w p a W)=>(qgn1 4 p a W (hp.below h.low) sp ok cm).mono fun e W' hh=>(⟨hh.1,h.call hh.2⟩:_/\BxS w p a W')
  rw[qed1] at B4 B5;by_cases h4:q8s2 4 p=0
  ·have hv:=qc46 h4 (qqb9 hl h4);rw[h4,if_pos rfl] at B4;by_cases h5:q8s2 5 p=0
   ·rw[h5,if_pos rfl] at B5;have hm:(qx3b 5 p).length=(qx3b 4 p).length+qhx1 p/\(qhx1 p=0->qx3b 5 p=qx3b 4 p):=by
     rcases hv with ⟨_,h⟩|⟨_,_,h⟩|⟨_,h1,h2⟩
     ·exact absurd h5 h
     ·exact absurd h5 h
     ·exact⟨h1,h2⟩
    have R4:=fun W=>qe38 4 (bs (rawM 4 p)) W (by rw[q5zk];have:=qu4s h4;omega);have R5:=fun W=>qe38 5 (bs (rawM 5 p)) W (by rw[q5zk];have:=qu4s h5;omega);unfold qm9f HdRd at R4 R5;rw[qkd1,qojy h4] at R4;rw[qkd1,qojy h5] at R5;have hfl:=q0rr h4 h5;have hsame:qhx1 p=0->rawM 5 p=rawM 4 p:=fun h=>by
     unfold rawM;have e:q9sw 5 p=q9sw 4 p:=by
      have e1:(q9sw 5 p).length=(q9sw 4 p).length:=by show((qx3b 5 p).length:Int)=((qx3b 4 p).length:Int);rw[hm.2 h]
      have e2:(q9sw 5 p).kind=(q9sw 4 p).kind:=rfl;cases h5':q9sw 5 p;cases h4':q9sw 4 p;rw[h5',h4'] at e1 e2 hfl;simp only at e1 e2 hfl;rw[e1,e2,hfl]
     rw[e,hm.2 h]
    have MO:=fun W=>qmt0 p a W;have hlen:(q9sw 5 p).length=(q9sw 4 p).length+(qhx1 p:Nat):=by show((qx3b 5 p).length:Int)=((qx3b 4 p).length:Int)+_;rw[hm.1];omega
    have hbnd:0<=(q9sw 4 p).length/\(q9sw 4 p).length<=268435455:=by obtain⟨_,_,_,hx⟩:=q31v h4;exact⟨by show(0:Int)<=((qx3b 4 p).length:Int);omega,by show((qx3b 4 p).length:Int)<=_;omega⟩
    have hk5:(q9sw 5 p).kind=(q9sw 4 p).kind:=rfl;obtain⟨⟨k4,f4,l4⟩,hH4⟩:∃z,q9sw 4 p=z:=⟨_,rfl⟩
    obtain⟨⟨k5,f5,l5⟩,hH5⟩:∃z,q9sw 5 p=z:=⟨_,rfl⟩
    rw[hH4] at R4 hfl hlen hk5 hbnd;rw[hH5] at R5 hfl hlen hk5;simp only at R4 R5 hfl hlen hk5 hbnd;subst hfl hk5;generalize qhx1 p=m at *;generalize (rawH _).length=n4 at R4;generalize (rawH _).length=n5 at R5;have hw:IntKind.i64.wrap (l5-l4)=(m:Int):=by
     have:(m:Int)<=268435455+268435455:=by
      have:(qx3b 5 p).length=(qx3b 4 p).length+m:=hm.1
      obtain⟨_,_,_,hx⟩:=q31v h5;omega
     rw[IntKind.wrap_i64];omega
    have HW:=hid hw;generalize rawM 4 p=X4 at *;generalize rawM 5 p=X5 at *;replace B4:=hid B4;replace B5:=hid B5;replace R4:=hid R4;replace R5:=hid R5;replace MO:=hid MO;have HSA:=hid hsame;clear V4 hv hsame hm hlen hbnd hw hH4 hH5 h4 h5 hl sh sp cm hp ok ca;unfold pkV hdV at *;go_in;go_wp2_with fail;refine(qlkh _).mono ?_;rintro e W ⟨rfl,hb⟩;have S1:=hid (S0.out.call hb);clear hb;go_wp2_with (refine wpList_load_row rfl _ _ rfl w.heap.size rfl 32 _ (0,0) _ S1.out.box underlying32 rfl (by rw[C1.out];exact q5nr) ?_);refine(LG.out _ S1.out).mono ?_;rintro e W2 ⟨rfl,hb⟩;have S2:=hid hb;clear hb;go_wp2_with (refine wpList_load_row rfl _ _ rfl w.heap.size rfl 32 _ (0,0) _ S2.out.box underlying32 rfl (by rw[C1.out];exact q5nr) ?_);refine(B4.out _ S2.out).mono ?_;rintro e W3 ⟨rfl,hb⟩;have S3:=hid hb;clear hb;go_wp2_with (refine wpList_load_row rfl _ _ rfl w.heap.size rfl 32 _ (0,0) _ S3.out.box underlying32 rfl (by rw[C1.out];exact q5nr) ?_);refine(B5.out _ S3.out).mono ?_;rintro e W4 ⟨rfl,hb⟩;have S4:=hid hb;clear hb S0 S1 S2 S3 LG B4 B5;go_wp2_with fail;refine(R4.out _).mono ?_;rintro e W5 ⟨rfl,hb⟩;have S5:=hid (S4.out.call hb);clear hb S4;go_wp2_with fail;refine(R5.out _).mono ?_;rintro e W6 ⟨rfl,hb⟩
    go_upto_region 13 with fail
    have hx1:=qybm (w:=W5) (.cells #[.int .i64 k5,.int .i64 f4,.int .i64 l4] 50);have hx2:=qybm (w:=W6) (.cells #[.int .i64 k5,.int .i64 f4,.int .i64 l5] 50);have hn1:=heap_alloc_new W5 (.cells #[.int .i64 k5,.int .i64 f4,.int .i64 l4] 50);have S6:VnS w p a W5.heap.size W6.heap.size ⟨k5,f4,l4⟩ ⟨k5,f4,l5⟩ (W6.alloc (.cells #[.int .i64 k5,.int .i64 f4,.int .i64 l5] 50)):=by have hb1:=qxh2 (qxh2 hx1 hb) hx2;exact⟨qxh2 S5.out.low hb1,(hb1.block _ (lt_of_block S5.out.box)).trans S5.out.box,((qxh2 hb hx2).block _ (lt_of_block hn1)).trans hn1,heap_alloc_new W6 _⟩
    have S6:VnS w p a W5.heap.size W6.heap.size ⟨k5,f4,l4⟩ ⟨k5,f4,l5⟩ (W6.alloc (.cells #[.int .i64 k5,.int .i64 f4,.int .i64 l5] 50)).drew:=⟨S6.low.drew,S6.box,S6.hh,S6.hg⟩
    have MOS:=fun V (h:VnS w p a W5.heap.size W6.heap.size ⟨k5,f4,l4⟩ ⟨k5,f4,l5⟩ V)=>(MO.out V).mono fun e W' hh=>(⟨hh.1,h.call hh.2⟩:_/\VnS w p a W5.heap.size W6.heap.size ⟨k5,f4,l4⟩ ⟨k5,f4,l5⟩ W')
    generalize W5.heap.size=h1 at *;generalize W6.heap.size=g1 at *;clear hb hx1 hx2 hn1;by_cases hm0:m=0
    ·subst hm0;obtain rfl:X5=X4:=HSA.out rfl;refine qary (S:=VnS w p a h1 g1 ⟨k5,f4,l4⟩ ⟨k5,f4,l5⟩) (m:=0) S6 C1.out (fun V h=>h.box) HW.out rfl (fun V h=>cell_of_row _ _ 0 _ _ _ h.hh) (fun V h=>cell_of_row _ _ 1 _ _ _ h.hh) (fun V h=>cell_of_row _ _ 2 _ _ _ h.hh)
      (fun V h=>cell_of_row _ _ 0 _ _ _ h.hg) (fun V h=>cell_of_row _ _ 1 _ _ _ h.hg) (fun V h=>cell_of_row _ _ 2 _ _ _ h.hg) MOS ?_
     intro V h;have LO:=hid h.low;clear h S6 MOS;go_wp2;go_ret;exact⟨rfl,LO.out⟩
    ·refine qda1 (S:=VnS w p a h1 g1 ⟨k5,f4,l4⟩ ⟨k5,f4,l5⟩) (m:=m) S6 C1.out (fun V h=>h.box) HW.out (decide_eq_true (by omega)) (fun V h=>cell_of_row _ _ 0 _ _ _ h.hh) (fun V h=>cell_of_row _ _ 1 _ _ _ h.hh) (fun V h=>cell_of_row _ _ 2 _ _ _ h.hh)
      (fun V h=>cell_of_row _ _ 0 _ _ _ h.hg) (fun V h=>cell_of_row _ _ 1 _ _ _ h.hg) (fun V h=>cell_of_row _ _ 2 _ _ _ h.hg) MOS ?_
     intro V h;have LO:=hid h.low;clear h S6 MOS;go_wp2;go_ret;exact⟨rfl,LO.out⟩
   ·have h3:p.kind=11\/(p.kind=2/\p.code≠0):=by
     rcases hv with ⟨h,_⟩|⟨h1,h2,_⟩|⟨h,_⟩
     ·exact .inl h
     ·exact .inr ⟨h1,h2⟩
     ·exact absurd h h5
    have k0:∀W,BxS w p a W->W.cell? ⟨w.heap.size,0,none⟩=some (.int .i64 p.kind):=fun W h=>h.cell 0;have k21:∀W,BxS w p a W->W.cell? ⟨w.heap.size,21,none⟩=some (.int .i64 p.code):=fun W h=>h.cell 21;generalize (if q8s2 5 p=0 then rawM 5 p else [])=X5 at *;generalize q8s2 5 p=E at *;generalize rawM 4 p=X4 at *;have g1:((E:Int)==0)=false:=by simp;omega
    have g2:((E:Int) != 0)=true:=by simp;omega
    replace B4:=hid B4;replace B5:=hid B5;replace k0:=hid k0;replace k21:=hid k21;generalize p.kind=k at *;generalize p.code=c at *;clear V4 hv h4 h5 hl sh sp cm hp ok ca;unfold pkV at *;go_in;go_wp2_with fail;refine(qlkh _).mono ?_;rintro e W ⟨rfl,hb⟩;have S1:=hid (S0.out.call hb);clear hb;go_wp2_with (refine wpList_load_row rfl _ _ rfl w.heap.size rfl 32 _ (0,0) _ S1.out.box underlying32 rfl (by rw[C1.out];exact q5nr) ?_);refine(LG.out _ S1.out).mono ?_;rintro e W2 ⟨rfl,hb⟩;have S2:=hid hb;clear hb;go_wp2_with (refine wpList_load_row rfl _ _ rfl w.heap.size rfl 32 _ (0,0) _ S2.out.box underlying32 rfl (by rw[C1.out];exact q5nr) ?_);refine(B4.out _ S2.out).mono ?_;rintro e W3 ⟨rfl,hb⟩;have S3:=hid hb;clear hb;go_wp2_with (refine wpList_load_row rfl _ _ rfl w.heap.size rfl 32 _ (0,0) _ S3.out.box underlying32 rfl (by rw[C1.out];exact q5nr) ?_);refine(B5.out _ S3.out).mono ?_;rintro e W4 ⟨rfl,hb⟩;have q0:W4.cell? ⟨w.heap.size,0,none⟩=some (.int .i64 k):=k0.out W4 hb;have q21:W4.cell? ⟨w.heap.size,21,none⟩=some (.int .i64 c):=k21.out W4 hb;have LO:=hid hb.low;clear hb S0 S1 S2 S3 LG B4 B5 k0 k21;rcases h3 with rfl|⟨rfl,hc⟩
    ·go_wp2;go_ret;exact⟨rfl,LO.out⟩
    ·have g3:(c==0)=false:=beq_eq_false_iff_ne.2 hc;have g4:(c != 0)=true:=by simpa using hc
     clear hc;go_wp2;go_ret;exact⟨rfl,LO.out⟩
  ·rw[if_neg h4] at B4;generalize q8s2 4 p=E at *;have g1:((E:Int)==0)=false:=by simp;omega
   have g2:((E:Int) != 0)=true:=by simp;omega
   have g3:((bs []).toList==[])=true:=by rw[q0c6];rfl
   have g4:((E:Int)==(E:Int))=true:=by simp
   replace B4:=hid B4;replace V4:=hid V4;clear B5 h4 hl sh sp cm hp ok ca;unfold pkV at *;go_in;go_wp2_with fail;refine(qlkh _).mono ?_;rintro e W ⟨rfl,hb⟩;have S1:=hid (S0.out.call hb);clear hb;go_wp2_with (refine wpList_load_row rfl _ _ rfl w.heap.size rfl 32 _ (0,0) _ S1.out.box underlying32 rfl (by rw[C1.out];exact q5nr) ?_);refine(LG.out _ S1.out).mono ?_;rintro e W2 ⟨rfl,hb⟩;have S2:=hid hb;clear hb;go_wp2_with (refine wpList_load_row rfl _ _ rfl w.heap.size rfl 32 _ (0,0) _ S2.out.box underlying32 rfl (by rw[C1.out];exact q5nr) ?_);refine(B4.out _ S2.out).mono ?_;rintro e W3 ⟨rfl,hb⟩;have S3:=hid hb;clear hb;go_wp2_with (refine q2a5 rfl _ _ rfl w.heap.size rfl 32 _ (0,0) _ S3.out.box underlying32 rfl (by rw[C1.out];exact q5nr) ?_);refine(V4.out _ S3.out).mono ?_;rintro e W4 ⟨rfl,hb⟩;have LO:=hid hb.low;clear hb;go_wp2;go_ret;exact⟨rfl,LO.out⟩
end Go.Proofs.YtombgnfedafkjaaGreatDoor
