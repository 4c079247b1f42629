/- The contract of control.fits. Condition: the packet's lists lie where it says; they are short. -/
import Derived.Test.YtombgnfedafkjaaGreatDoorK22
set_option maxHeartbeats 8000000
set_option maxRecDepth 100000
namespace Go.Proofs.YtombgnfedafkjaaGreatDoor
open Lib(hid)
open Proofs.Tryz
open Go.RowKit
def qfkc(t:Bool)(p:Pk):Pk:={Pk.zero with kind:=p.kind,code:=if t then p.code else 0,props:=if t then p.props else []}
def q43o(t:Bool)(a:Ad):Ad:={adZ with ps:=if t then a.ps else none,pc:=if t then a.pc else 0}
theorem qt8s(v:Int)(p:Pk):usedK v p=qfkc (!q6gd v p.kind) p:=by unfold usedK qfkc;cases q6gd v p.kind<;>rfl
theorem q2c6{w:World}{p:Pk}{a:Ad}(t:Bool)(h:PkAt w p a):PkAt w (qfkc t p) (q43o t a):=by
 refine⟨fun e=>absurd rfl e,fun e=>absurd rfl e,fun e=>absurd rfl e,?_⟩;unfold qfkc q43o;cases t with
 |true=>exact h.ps
 |false=>exact fun e=>absurd rfl e
theorem qynt{p:Pk}(t:Bool)(h:q21o p):q21o (qfkc t p):=by
 refine⟨Nat.zero_le _,Nat.zero_le _,?_,Nat.zero_le _⟩;cases t with
 |true=>exact h.2.2.1
 |false=>exact Nat.zero_le _
section
variable{w W W':World}{p x:Pk}{a b:Ad}
theorem SmS.cell(h:SmS w p a x b W)(j:Nat):W.cell? ⟨w.heap.size,j,none⟩=(pkC p a)[j]? := cell_of_row _ _ j _ _ _ h.p
theorem SmS.ncell(h:SmS w p a x b W)(j:Nat):W.cell? ⟨w.heap.size+1,j,none⟩=(pkC x b)[j]? := cell_of_row _ _ j _ _ _ h.q
theorem SmS.fr(h:SmS w p a x b W)(j:Nat):W.frozen? ⟨w.heap.size+1,j,none⟩=false:=frozen_of_row _ _ _ _ _ h.q
theorem SmS.put(h:SmS w p a x b W)(j:Nat)(u:Value){x':Pk}{b':Ad}(he:(pkC x b).setIfInBounds j u=pkC x' b'):SmS w p a x' b' (W.setCell ⟨w.heap.size+1,j,none⟩ u):=
 ⟨h.low.setCell (by show _<=w.heap.size+1;omega) u,(heap_setCell_other W ⟨w.heap.size+1,j,none⟩ _ u (by show w.heap.size≠w.heap.size+1;omega)).trans h.p,
  by have:=qlvy h.q j u;rw[he] at this;exact this⟩
theorem SmS.drew(h:SmS w p a x b W):SmS w p a x b W.drew:=⟨h.low.drew,h.p,h.q⟩
end
def qdz0(p:Pk):Pk:={Pk.zero with kind:=p.kind}
theorem qqfg(t:Bool)(p:Pk)(a:Ad)(w:World)(hp:PkAt w p a)(sp:q21o p) :
 Calls prog 161 #[.bool t,.agg (pkC p a)] w fun e w'=>e=.returned (.bool (decide (p=qfkc t p)&&(!t || mayR p.kind p.code)))/\Below w.heap.size w w':=by
 have Z0:(w.alloc (.cells (pkC p a) 32)).heap.size=w.heap.size+1:=by simp
 have GN:((w.alloc (.cells (pkC p a) 32)).alloc (.cells pkZ 32)).heap[w.heap.size+1]?=some (.cells pkZ 32 (0,0)):=by
  have:=heap_alloc_new (w.alloc (.cells (pkC p a) 32)) (.cells pkZ 32)
  rw[Z0] at this;exact this
 have S0:SmS w p a (qdz0 p) adZ (((w.alloc (.cells (pkC p a) 32)).alloc (.cells pkZ 32)).setRow (w.heap.size+1) (pkC (qdz0 p) adZ)):=
  ⟨q8xz (qxh2 (qybm _) (qybm _)) (by omega) _,(setRow_other _ _ _ _ (by omega)).trans (heap_alloc2_old _ _ _),setRow_heap _ _ _ _ _ _ GN⟩
 have SM:=hid (fun V (h:SmS w p a (qfkc t p) (q43o t a) V)=>(qyk8 p (qfkc t p) a (q43o t a) V (hp.below h.low) (q2c6 t (hp.below h.low)) sp (qynt t sp)).mono fun e W' hh=>(⟨hh.1,h.call hh.2⟩:_/\SmS w p a (qfkc t p) (q43o t a) W'));have MA:=hid (fun V (h:SmS w p a (qfkc t p) (q43o t a) V)=>(qeiz p.kind p.code V).mono fun e W' hh=>(⟨hh.1,h.call hh.2⟩:_/\SmS w p a (qfkc t p) (q43o t a) W'));have hzv:=qrai;have hne:¬pkZ=#[]:=by intro h;have:=qbwp;rw[h] at this;cases this
 have HZ:=hid qbwp;have GN:=hid GN;have hD1:=qwmp (qdz0 p) adZ;have hD2:=qmz0 (qdz0 p) adZ;obtain⟨D,hD⟩:∃D,pkC (qdz0 p) adZ=D:=⟨_,rfl⟩
 rw[hD] at hD1 hD2 S0;have HD:=hid hD;have HD1:=hid hD1;have HD2:=hid hD2;have HS0:=hid S0;have C1:=hid (qwmp p a);have C2:=hid (qwmp (qfkc t p) (q43o t a));have k0:(w.alloc (.cells (pkC p a) 32)).cell? ⟨w.heap.size,0,none⟩=some (.int .i64 p.kind):=cell_of_row _ _ 0 _ _ _ (heap_alloc_new _ _);clear S0 hD hD1 hD2 Z0 hp sp;generalize decide (p=qfkc t p)=s at *;generalize mayR p.kind p.code=m at *;obtain⟨r,hr⟩:∃r,(s&&(!t || m))=r:=⟨_,rfl⟩
 rw[hr];have HR:=hid hr;clear hr;go_in
 go_upto_if 9 with (first
  |(refine wpList_buildTo rfl 32 _ rfl (some _) rfl D (by rw[<-HD.out];kernel_rfl) ?_)
  |(refine wpList_store_row rfl _ _ _ rfl (w.heap.size+1) D rfl rfl 32 _ GN.out (by rw[HD1.out];exact q5nr) (by rw[HZ.out,HD1.out]) HD2.out ?_))
 clear k0 GN HZ hne hzv;go_cut [] (fun wx=>SmS w p a (qfkc t p) (q43o t a) wx)
 case first=>
  generalize ((w.alloc (.cells (pkC p a) 32)).alloc (.cells pkZ 32)).setRow (w.heap.size+1) D=W at *;cases t with
  |true=>
   have S1:=hid ((HS0.out.put 21 (.int .i64 p.code) (x':={qdz0 p with code:=p.code}) (b':=adZ) rfl).put 24 (.slice a.ps p.props.length a.pc) (x':=qfkc true p) (b':=q43o true a) rfl);have k21:W.cell? ⟨w.heap.size,21,none⟩=some (.int .i64 p.code):=HS0.out.cell 21;have k24:W.cell? ⟨w.heap.size,24,none⟩=some (.slice a.ps p.props.length a.pc):=HS0.out.cell 24;have n21:W.cell? ⟨w.heap.size+1,21,none⟩=some (.int .i64 0):=HS0.out.ncell 21;have n24:W.cell? ⟨w.heap.size+1,24,none⟩=some (.slice none 0 0):=HS0.out.ncell 24;have f21:=HS0.out.fr 21;have f24:=HS0.out.fr 24;clear HS0
   go_upto_region 3 with fail
   go_region
   go_wp2_with fail
   go_meet
   exact S1.out.drew
  |false=>
   go_wp2_with fail
   go_meet
   exact HS0.out
 case rest=>
  have HS:=hid hcut;clear hcut HS0
  go_upto_region 4 with fail
  clear HD HD1 HD2;obtain⟨C,hC⟩:∃C,pkC p a=C:=⟨_,rfl⟩
  obtain⟨E,hE⟩:∃E,pkC (qfkc t p) (q43o t a)=E:=⟨_,rfl⟩
  have BC:=hid (fun V (h:SmS w p a (qfkc t p) (q43o t a) V)=>(by rw[<-hC];exact h.p:V.heap[w.heap.size]?=some (.cells C 32 (0,0))));have BE:=hid (fun V (h:SmS w p a (qfkc t p) (q43o t a) V)=>(by rw[<-hE];exact h.q:V.heap[w.heap.size+1]?=some (.cells E 32 (0,0))));have LOW:=hid (fun V (h:SmS w p a (qfkc t p) (q43o t a) V)=>h.low);have c0:∀V,SmS w p a (qfkc t p) (q43o t a) V->V.cell? ⟨w.heap.size,0,none⟩=some (.int .i64 p.kind):=fun V h=>h.cell 0;have c21:∀V,SmS w p a (qfkc t p) (q43o t a) V->V.cell? ⟨w.heap.size,21,none⟩=some (.int .i64 p.code):=fun V h=>h.cell 21;have K0:=hid c0;have K21:=hid c21;clear c0 c21;unfold pkV at SM;rw[hC] at C1 SM;rw[hE] at C2 SM;rw[hC];clear hC hE;generalize p.kind=k at *;generalize p.code=c at *;cases s with
  |false=>
   clear MA;go_wp2_with (first
    |(refine wpList_load_row rfl _ _ rfl w.heap.size rfl 32 _ (0,0) _ (BC.out _ HS.out) underlying32 rfl (by rw[C1.out];exact q5nr) ?_)
    |(refine wpList_load_row rfl _ _ rfl (w.heap.size+1) rfl 32 _ (0,0) _ (BE.out _ HS.out) underlying32 rfl (by rw[C2.out];exact q5nr) ?_))
   refine(SM.out _ HS.out).mono ?_;rintro e W ⟨rfl,hb⟩;have LO:=hid (LOW.out _ hb);clear hb;go_wp2;go_ret;exact⟨by rw[<-HR.out];rfl,LO.out⟩
  |true=>
   cases t with
   |false=>
    clear MA;go_wp2_with (first
     |(refine wpList_load_row rfl _ _ rfl w.heap.size rfl 32 _ (0,0) _ (BC.out _ HS.out) underlying32 rfl (by rw[C1.out];exact q5nr) ?_)
     |(refine wpList_load_row rfl _ _ rfl (w.heap.size+1) rfl 32 _ (0,0) _ (BE.out _ HS.out) underlying32 rfl (by rw[C2.out];exact q5nr) ?_))
    refine(SM.out _ HS.out).mono ?_;rintro e W ⟨rfl,hb⟩;have LO:=hid (LOW.out _ hb);clear hb;go_wp2;go_ret;exact⟨by rw[<-HR.out];rfl,LO.out⟩
   |true=>
    go_wp2_with (first
     |(refine wpList_load_row rfl _ _ rfl w.heap.size rfl 32 _ (0,0) _ (BC.out _ HS.out) underlying32 rfl (by rw[C1.out];exact q5nr) ?_)
     |(refine wpList_load_row rfl _ _ rfl (w.heap.size+1) rfl 32 _ (0,0) _ (BE.out _ HS.out) underlying32 rfl (by rw[C2.out];exact q5nr) ?_))
    refine(SM.out _ HS.out).mono ?_;rintro e W ⟨rfl,hb⟩;have HS2:=hid hb;have k0:W.cell? ⟨w.heap.size,0,none⟩=some (.int .i64 k):=K0.out _ hb;have k21:W.cell? ⟨w.heap.size,21,none⟩=some (.int .i64 c):=K21.out _ hb;clear hb HS;go_wp2_with fail;refine(MA.out _ HS2.out).mono ?_;rintro e W2 ⟨rfl,hb⟩;have LO:=hid (LOW.out _ hb);clear hb;go_wp2;go_ret;exact⟨by rw[<-HR.out];rfl,LO.out⟩
theorem qeqd{Q:Exit->Act->World->Prop}{S:World->Prop}{W:World}{b B cb:Nat}{f:Int}{C:Array Value}{x0 x1 x2 x3 x5 x8 x9 x10 x11 x12 x13 x14 x15 x16 x17 x18 x19 x20 x21 x22 x23 x24 x25 x26 x27 x28 x29 x30 x31 x32 x33 x34 x35 x36 x37 x38 x39 x40 x41 x42 x43 x44 x45 x46 x47 x48 x49 x50 x51 x52:Value}
 (hS:S W.drew) (hC:C.size=25) (h1:C.all (·.oneCell')=true) (hb:B≠b) (KB:∀w,S w->w.heap[B]?=some (.cells C 32 (0,0))) (KR:∀w,S w->∃old,w.heap[b]?=some (.cells old 32 (0,0))/\old.size=25)
 (H0:∀w,S w->Calls prog 37 #[(.pointer (some ⟨cb,0,none⟩))] w fun e w'=>e=.returned (.int .i64 f)/\w=w')
 (H1:∀w,S w->Calls prog 37 #[(.pointer (some ⟨cb,0,none⟩))] (w.setRow b C) fun e w'=>e=.returned (.int .i64 f)/\w.setRow b C=w')
 (fin:∀w,S w->Q .normal ⟨#[x0,x1,x2,x3,(.pointer (some ⟨b,0,none⟩)),(.int .i64 f),(.pointer (some ⟨cb,0,none⟩)),(.pointer (some ⟨B,0,none⟩)),x8,x9,x10,x11,x12,x13,x14,x15,x16,x17,x18,x19,x20,x21,x22,x23,x24,x25,x26,x27,x28,x29,x30,x31,x32,x33,x34,x35,x36,x37,x38,x39,x40,x41,x42,x43,x44,x45,x46,x47,x48,x49,(.agg C),(.pointer (some ⟨cb,0,none⟩)),(.int .i64 f)],[]⟩ (w.setRow b C)) :
 (Code.region 11 (qfhu.opsAt 11 Tryz.f123.body) true).wp prog Q ⟨#[x0,x1,x2,x3,(.pointer (some ⟨b,0,none⟩)),x5,(.pointer (some ⟨cb,0,none⟩)),(.pointer (some ⟨B,0,none⟩)),x8,x9,x10,x11,x12,x13,x14,x15,x16,x17,x18,x19,x20,x21,x22,x23,x24,x25,x26,x27,x28,x29,x30,x31,x32,x33,x34,x35,x36,x37,x38,x39,x40,x41,x42,x43,x44,x45,x46,x47,x48,x49,x50,x51,x52],[]⟩ W:=by
 refine q2y4.wp (x:=false) (S:=fun x W=>∃V,S V/\W=if x=true then V.setRow b C else V) (made:=fun i x=>i=3->x=true) (war:=[]) (ds:=[50,51,52,5]) (A:=[x0,x1,x2,x3,(.pointer (some ⟨b,0,none⟩)),x5,(.pointer (some ⟨cb,0,none⟩)),(.pointer (some ⟨B,0,none⟩)),x8,x9,x10,x11,x12,x13,x14,x15,x16,x17,x18,x19,x20,x21,x22,x23,x24,x25,x26,x27,x28,x29,x30,x31,x32,x33,x34,x35,x36,x37,x38,x39,x40,x41,x42,x43,x44,x45,x46,x47,x48,x49,x50,x51,x52]) (B:=fun x=>[x0,x1,x2,x3,(.pointer (some ⟨b,0,none⟩)),(.int .i64 f),(.pointer (some ⟨cb,0,none⟩)),(.pointer (some ⟨B,0,none⟩)),x8,x9,x10,x11,x12,x13,x14,x15,x16,x17,x18,x19,x20,x21,x22,x23,x24,x25,x26,x27,x28,x29,x30,x31,x32,x33,x34,x35,x36,x37,x38,x39,x40,x41,x42,x43,x44,x45,x46,x47,x48,x49,(.agg C),(.pointer (some ⟨cb,0,none⟩)),(.int .i64 f)]) (D:=[]) (by kernel_rfl) (by kernel_rfl) (by kernel_rfl) ?_ ⟨_,hS,rfl⟩ ?_ ?fin
 case refine_1=>exact fun x=>(by repeat (first|exact trivial|refine⟨.inr rfl,?_⟩|refine⟨.inl rfl,?_⟩))
 refine q2y4.All.step rfl (q2y4.Does.pure (val:=fun x=>(.agg C)) rfl (fun x h=>absurd h (by decide)) (fun x w hm hS=>⟨rfl,rfl,qjuh rfl hC (by
  obtain⟨V,hV,hw⟩:=hS;subst hw;cases x
  ·exact KB V hV
  ·exact(setRow_other V b B C hb).trans (KB V hV))⟩)) ?_
 refine q2y4.All.step rfl (q2y4.Does.pure (val:=fun x=>(.pointer (some ⟨cb,0,none⟩))) rfl (fun x h=>absurd h (by decide)) (fun x w hm hS=>⟨rfl,rfl,rfl⟩)) ?_;refine q2y4.All.step rfl (q2y4.Does.call (val:=fun x=>(.int .i64 f)) rfl (fun x h=>absurd h (by decide)) (fun x w hm hS=>⟨rfl,rfl,qpjl.enter1 func37 rfl rfl,by
  obtain⟨V,hV,hw⟩:=hS;subst hw;cases x
  ·exact(H0 V hV).mono fun e w' ⟨he,hk⟩=>⟨he,V,hV,hk.symm⟩
  ·exact(H1 V hV).mono fun e w' ⟨he,hk⟩=>⟨he,V,hV,hk.symm⟩⟩)) ?_
 refine q2y4.All.step rfl (fun x w hm hS=>by
  obtain⟨V,hV,hw⟩:=hS;obtain⟨old,ho,hs⟩:=KR V hV;refine .inl ⟨rfl,.skip true (V.setRow b C) ?_ ⟨fun d hd=>(by cases hd),⟨V,hV,rfl⟩,fun _=>rfl,fun i h e=>rfl,[],rfl,q2y4.off_refl 0 _⟩⟩;subst hw;cases x
  ·exact qn4o rfl rfl hC h1 ho hs
  ·exact(qn4o rfl rfl hC h1 (setRow_heap V b old C _ _ ho) hC).trans (by rw[setRow_setRow])) ?_
 refine q2y4.All.step rfl (q2y4.Does.pure (val:=fun x=>(.int .i64 f)) rfl (fun x h=>absurd h (by decide)) (fun x w hm hS=>⟨rfl,rfl,rfl⟩)) ?_;exact q2y4.All.fin rfl
 case fin=>intro x w hm hS;obtain⟨V,hV,hw⟩:=hS;obtain rfl:=hm 3 (by decide+kernel) rfl;subst hw;exact fin V hV
section
variable{a:Act}{w:World}{d:Option Tmp}{p:String}{af:Array Edge}{gd:Option (Nat×Bool)}{x y z:Tmp}{r:TypeId}
theorem q45x{g:Nat}{z:Int}(hx:a.eval (.tmp x)=.pointer (some ⟨g,0,none⟩))(hc:w.cell? ⟨g,0,none⟩=some (.int .i64 z)) :
 (execOp a.eval {dst:=d,op := .load 3 (.tmp x),type:=3,pos:=p,after:=af,guard:=gd}).run prog w=.ok (.value (.int .i64 z)) w:=by
 generalize a.eval=f at *;go_simp
theorem q0s8{g:Nat}{C:Array Value}(hx:a.eval (.tmp x)=.pointer (some ⟨g,0,none⟩))(hs:C.size=25)(hg:w.heap[g]?=some (.cells C 32 (0,0))) :
 (execOp a.eval {dst:=d,op := .load 32 (.tmp x),type:=32,pos:=p,after:=af,guard:=gd}).run prog w=.ok (.value (.agg C)) w:=by
 unfold execOp;simp only[hx,Instr.loadAt,Instr.sureAddr,Sem.run_bind,Sem.run_pure,Result.andThen_ok,run_loadVar_row w g 32 32 C (0,0) _ hg underlying32 rfl (by rw[hs];exact q5nr)]
end
theorem qikm{Q:Exit->Act->World->Prop}{S:World->Prop}{W:World}{b1 b2:Nat}{v z:Int}{C D:Array Value}{b:Bool}{x2 x3 x4 x5 x6 x7 x8 x9 x10 x11 x12:Value}
 (hS:S W.drew) (hC:C.size=25) (KC:∀w,S w->w.heap[b2]?=some (.cells C 32 (0,0))) (KV:∀w,S w->w.cell? ⟨b1,0,none⟩=some (.int .i64 v))
 (H0:∀w,S w->Calls prog 139 #[(.agg C)] w fun e w'=>e=.returned (.bool true)/\S w')
 (H1:∀w,S w->Calls prog 141 #[(.int .i64 v),(.agg C)] w fun e w'=>e=.returned (.agg D)/\S w')
 (H2:∀w,S w->Calls prog 140 #[(.agg C),(.agg D)] w fun e w'=>e=.returned (.bool b)/\S w')
 (H3:∀w,S w->Calls prog 135 #[(.bool b),.int .i64 2] w fun e w'=>e=.returned (.int .i64 z)/\S w')
 (fin:∀w,S w->Q .normal ⟨#[(.pointer (some ⟨b2,0,none⟩)),(.pointer (some ⟨b1,0,none⟩)),(.int .i64 z),(.agg C),(.bool true),(.bool true),(.agg C),(.int .i64 v),(.agg C),(.agg D),(.bool b),(.bool b),(.int .i64 z)],[]⟩ w) :
 (Code.region 1 (qfhu.opsAt 1 Tryz.f138.body) true).wp prog Q ⟨#[(.pointer (some ⟨b2,0,none⟩)),(.pointer (some ⟨b1,0,none⟩)),x2,x3,x4,x5,x6,x7,x8,x9,x10,x11,x12],[]⟩ W:=by
 refine qfhu.wp_in (ds:=[3,4,5,6,7,8,9,10,11,12,2]) (D:=[]) (by kernel_rfl) (by kernel_rfl) (by kernel_rfl) ?_ hS ?_ (fun w hS=>fin w hS)
 ·exact(by repeat (first|exact trivial|refine⟨.inr rfl,?_⟩|refine⟨.inl rfl,?_⟩))
 refine qfhu.pu rfl rfl rfl rfl (fun w hS=>q0s8 rfl hC (KC w hS)) ?_;refine qfhu.ca rfl rfl rfl rfl (fun w=>qpjl.enter1 func139 rfl rfl) H0 ?_;refine qfhu.pu rfl rfl rfl rfl (fun w hS=>rfl) ?_;refine qfhu.pu rfl rfl rfl rfl (fun w hS=>q0s8 rfl hC (KC w hS)) ?_;refine qfhu.pu rfl rfl rfl rfl (fun w hS=>q45x rfl (KV w hS)) ?_;refine qfhu.pu rfl rfl rfl rfl (fun w hS=>q0s8 rfl hC (KC w hS)) ?_;refine qfhu.ca rfl rfl rfl rfl (fun w=>qpjl.enter2 func141 rfl rfl rfl) H1 ?_;refine qfhu.ca rfl rfl rfl rfl (fun w=>qpjl.enter2 func140 rfl rfl rfl) H2 ?_;refine qfhu.pu rfl rfl rfl rfl (fun w hS=>rfl) ?_;refine qfhu.ca rfl rfl rfl rfl (fun w=>qpjl.enter2 func135 rfl rfl rfl) H3 ?_;refine qfhu.pu rfl rfl rfl rfl (fun w hS=>rfl) ?_;exact qfhu.All.fin rfl
theorem qjt8{Q:Exit->Act->World->Prop}{S:World->Prop}{W:World}{b1 b2:Nat}{z:Int}{C:Array Value}{x2 x3 x4 x5 x6 x7 x8 x9 x10 x11 x12:Value}
 (hS:S W.drew) (hC:C.size=25) (KC:∀w,S w->w.heap[b2]?=some (.cells C 32 (0,0)))
 (H0:∀w,S w->Calls prog 139 #[(.agg C)] w fun e w'=>e=.returned (.bool false)/\S w')
 (H1:∀w,S w->Calls prog 135 #[(.bool false),.int .i64 2] w fun e w'=>e=.returned (.int .i64 z)/\S w')
 (fin:∀w,S w->Q .normal ⟨#[(.pointer (some ⟨b2,0,none⟩)),(.pointer (some ⟨b1,0,none⟩)),(.int .i64 z),(.agg C),(.bool false),(.bool false),undef,undef,undef,undef,undef,(.bool false),(.int .i64 z)],[]⟩ w) :
 (Code.region 1 (qfhu.opsAt 1 Tryz.f138.body) true).wp prog Q ⟨#[(.pointer (some ⟨b2,0,none⟩)),(.pointer (some ⟨b1,0,none⟩)),x2,x3,x4,x5,x6,x7,x8,x9,x10,x11,x12],[]⟩ W:=by
 refine qfhu.wp_in (ds:=[3,4,5,6,7,8,9,10,11,12,2]) (D:=[]) (by kernel_rfl) (by kernel_rfl) (by kernel_rfl) ?_ hS ?_ (fun w hS=>fin w hS)
 ·exact(by repeat (first|exact trivial|refine⟨.inr rfl,?_⟩|refine⟨.inl rfl,?_⟩))
 refine qfhu.pu rfl rfl rfl rfl (fun w hS=>q0s8 rfl hC (KC w hS)) ?_;refine qfhu.ca rfl rfl rfl rfl (fun w=>qpjl.enter1 func139 rfl rfl) H0 ?_
 iterate 7 (first|refine qfhu.sk rfl rfl rfl rfl ?_|refine qfhu.pu rfl rfl rfl rfl (fun w hS=>rfl) ?_)
 refine qfhu.ca rfl rfl rfl rfl (fun w=>qpjl.enter2 func135 rfl rfl rfl) H1 ?_;refine qfhu.pu rfl rfl rfl rfl (fun w hS=>rfl) ?_;exact qfhu.All.fin rfl
section
variable{a:Act}{w:World}{d:Option Tmp}{p:String}{af:Array Edge}{gd:Option (Nat×Bool)}{x y z:Tmp}{r:TypeId}
theorem qusw{u v z:ByteArray}(hx:a.eval (.tmp x)=.string u)(hy:a.eval (.tmp y)=.string v)(hz:u++v=z)(hn:z.size<=9223372036854775807) :
 (execOp a.eval {dst:=d,op := .binOp .add 9 (.tmp x) (.tmp y) 9,type:=r,pos:=p,after:=af,guard:=gd}).run prog w=.ok (.value (.string z)) w:=by
 have hn:¬9223372036854775807<u.size+v.size:=by rw[<-hz,ByteArray.size_append] at hn;omega
 generalize a.eval=f at *;rw[<-hz];go_simp
theorem q2ke{g:Nat}{C:Array Value}(hx:a.eval (.tmp x)=.pointer (some ⟨g,0,none⟩))(hs:C.size=25)(hg:w.heap[g]?=some (.cells C 32 (0,0))) :
 (execOp a.eval {dst:=d,op := .load 32 (.tmp x),type:=32,pos:=p,after:=af,guard:=gd}).run prog w=.ok (.value (.agg C)) w:=by
 unfold execOp;simp only[hx,Instr.loadAt,Instr.sureAddr,Sem.run_bind,Sem.run_pure,Result.andThen_ok,run_loadVar_row w g 32 32 C (0,0) _ hg underlying32 rfl (by rw[hs];exact q5nr)]
theorem qc3b{g:Nat}(hx:a.eval (.tmp x)=.pointer (some ⟨g,0,none⟩)) :
 (execOp a.eval {dst:=d,op := .fieldAddr 32 (.tmp x) 6,type:=r,pos:=p,after:=af,guard:=gd}).run prog w=.ok (.value (.pointer (some ⟨g,6,none⟩))) w:=by
 generalize a.eval=f at *;go_simp
theorem qmlj{g j:Nat}{u:ByteArray}(hx:a.eval (.tmp x)=.pointer (some ⟨g,j,none⟩))(hc:w.cell? ⟨g,j,none⟩=some (.string u)) :
 (execOp a.eval {dst:=d,op := .load 9 (.tmp x),type:=9,pos:=p,after:=af,guard:=gd}).run prog w=.ok (.value (.string u)) w:=by
 generalize a.eval=f at *;go_simp
end
theorem q869{Q:Exit->Act->World->Prop}{S:World->Prop}{W:World}{b:Nat}{v:Int}{C:Array Value}{N I T PA Z1 Z2 Z3:ByteArray}{x1 x2 x4 x5 x6 x8 x9 x10 x11 x12 x13 x14 x15 x16 x17 x18 x19 x20 x21 x22 x23 x24 x25 x26 x27 x28 x29 x30 x31:Value}
 (hS:S W.drew) (hC:C.size=25) (KC:∀w,S w->w.heap[b]?=some (.cells C 32 (0,0))) (K6:∀w,S w->w.cell? ⟨b,6,none⟩=some (.string PA))
 (H0:∀w,S w->Calls prog 96 #[(.agg C)] w fun e w'=>e=.returned (.string I)/\S w')
 (H1:∀w,S w->Calls prog 97 #[(.int .i64 v),(.agg C)] w fun e w'=>e=.returned (.string T)/\S w')
 (eZ1:N++I=Z1) (sZ1:Z1.size<=9223372036854775807) (eZ2:Z1++T=Z2) (sZ2:Z2.size<=9223372036854775807) (eZ3:Z2++PA=Z3) (sZ3:Z3.size<=9223372036854775807)
 (fin:∀w,S w->Q .normal ⟨#[(.int .i64 v),x1,x2,(.pointer (some ⟨b,0,none⟩)),(.string Z3),(.int .i64 0),x6,(.string N),x8,x9,x10,x11,x12,x13,x14,x15,x16,x17,x18,x19,x20,(.string N),(.agg C),(.string I),(.string Z1),(.int .i64 v),(.agg C),(.string T),(.string Z2),(.pointer (some ⟨b,6,none⟩)),(.string PA),(.string Z3)],[]⟩ w) :
 (Code.region 5 (qfhu.opsAt 5 Tryz.f68.body) true).wp prog Q ⟨#[(.int .i64 v),x1,x2,(.pointer (some ⟨b,0,none⟩)),x4,x5,x6,(.string N),x8,x9,x10,x11,x12,x13,x14,x15,x16,x17,x18,x19,x20,x21,x22,x23,x24,x25,x26,x27,x28,x29,x30,x31],[]⟩ W:=by
 refine qfhu.wp_in (ds:=[21,22,23,24,25,26,27,28,29,30,31,4,5]) (D:=[]) (by kernel_rfl) (by kernel_rfl) (by kernel_rfl) ?_ hS ?_ (fun w hS=>fin w hS)
 ·exact(by repeat (first|exact trivial|refine⟨.inr rfl,?_⟩|refine⟨.inl rfl,?_⟩))
 refine qfhu.pu rfl rfl rfl rfl (fun w hS=>rfl) ?_;refine qfhu.pu rfl rfl rfl rfl (fun w hS=>q2ke rfl hC (KC w hS)) ?_;refine qfhu.ca rfl rfl rfl rfl (fun w=>qpjl.enter1 func96 rfl rfl) H0 ?_;refine qfhu.pu rfl rfl rfl rfl (fun w hS=>qusw rfl rfl eZ1 sZ1) ?_;refine qfhu.pu rfl rfl rfl rfl (fun w hS=>rfl) ?_;refine qfhu.pu rfl rfl rfl rfl (fun w hS=>q2ke rfl hC (KC w hS)) ?_;refine qfhu.ca rfl rfl rfl rfl (fun w=>qpjl.enter2 func97 rfl rfl rfl) H1 ?_;refine qfhu.pu rfl rfl rfl rfl (fun w hS=>qusw rfl rfl eZ2 sZ2) ?_;refine qfhu.pu rfl rfl rfl rfl (fun w hS=>qc3b rfl) ?_;refine qfhu.pu rfl rfl rfl rfl (fun w hS=>qmlj rfl (K6 w hS)) ?_;refine qfhu.pu rfl rfl rfl rfl (fun w hS=>qusw rfl rfl eZ3 sZ3) ?_;refine qfhu.pu rfl rfl rfl rfl (fun w hS=>rfl) ?_;refine qfhu.pu rfl rfl rfl rfl (fun w hS=>rfl) ?_;exact qfhu.All.fin rfl
section
variable{a:Act}{w:World}{d:Option Tmp}{p:String}{af:Array Edge}{gd:Option (Nat×Bool)}{x y z:Tmp}{r:TypeId}
theorem qh6i{g:Nat}(hx:a.eval (.tmp x)=.pointer (some ⟨g,0,none⟩)) :
 (execOp a.eval {dst:=d,op := .fieldAddr 50 (.tmp x) 0,type:=r,pos:=p,after:=af,guard:=gd}).run prog w=.ok (.value (.pointer (some ⟨g,0,none⟩))) w:=by
 generalize a.eval=f at *;go_simp
theorem q7ab{g:Nat}(hx:a.eval (.tmp x)=.pointer (some ⟨g,0,none⟩)) :
 (execOp a.eval {dst:=d,op := .fieldAddr 50 (.tmp x) 1,type:=r,pos:=p,after:=af,guard:=gd}).run prog w=.ok (.value (.pointer (some ⟨g,1,none⟩))) w:=by
 generalize a.eval=f at *;go_simp
theorem qlgx{g:Nat}(hx:a.eval (.tmp x)=.pointer (some ⟨g,0,none⟩)) :
 (execOp a.eval {dst:=d,op := .fieldAddr 50 (.tmp x) 2,type:=r,pos:=p,after:=af,guard:=gd}).run prog w=.ok (.value (.pointer (some ⟨g,2,none⟩))) w:=by
 generalize a.eval=f at *;go_simp
theorem qii7(hx:a.eval (.tmp x)=.int .i64 0) :
 (execOp a.eval {dst:=d,op := .binOp .eql 23 (.tmp x) (.const (.int .i64 0)) 23,type:=r,pos:=p,after:=af,guard:=gd}).run prog w=.ok (.value (.bool true)) w:=by
 have hc:a.eval (.const (.int .i64 0))=.int .i64 0:=rfl;generalize a.eval=f at *;go_simp
theorem qur7{n:Int}(hx:a.eval (.tmp x)=.int .i64 n)(hy:a.eval (.tmp y)=.int .i64 n) :
 (execOp a.eval {dst:=d,op := .binOp .eql 3 (.tmp x) (.tmp y) 3,type:=r,pos:=p,after:=af,guard:=gd}).run prog w=.ok (.value (.bool true)) w:=by
 generalize a.eval=f at *;go_simp
theorem q4nq{v:ByteArray}(hx:a.eval (.tmp x)=.string v)(hy:a.eval (.tmp y)=.string v) :
 (execOp a.eval {dst:=d,op := .binOp .eql 9 (.tmp x) (.tmp y) 9,type:=r,pos:=p,after:=af,guard:=gd}).run prog w=.ok (.value (.bool true)) w:=by
 generalize a.eval=f at *;go_simp
theorem qp0z{n k m:Int}(hx:a.eval (.tmp x)=.int .i64 n)(hy:a.eval (.tmp y)=.int .i64 k)(hm:IntKind.i64.wrap (n-k)=m) :
 (execOp a.eval {dst:=d,op := .binOp .sub 3 (.tmp x) (.tmp y) 3,type:=r,pos:=p,after:=af,guard:=gd}).run prog w=.ok (.value (.int .i64 m)) w:=by
 subst hm;generalize a.eval=f at *;go_simp
end
theorem qda1{Q:Exit->Act->World->Prop}{S:World->Prop}{W:World}{b h g m:Nat}{k f l4 l5:Int}{A B:ByteArray}{C:Array Value}{x0 x2 x4 x6 x8 x11 x13 x14 x15 x16 x17 x18 x19 x20 x21 x22 x23 x24 x25 x26 x27 x28 x29 x30 x31 x32 x33 x34 x35 x36 x37 x38 x39 x40 x41 x42 x43 x44 x45 x46 x47 x48 x49 x50 x51 x52 x53 x54 x55 x56 x57 x58 x59 x60 x61 x62 x63 x64 x65 x66 x67 x68 x69 x70 x71 x72 x73 x74 x75 x76 x77 x78 x79 x80 x81 x82 x83 x84 x85 x86 x87 x88 x89 x90 x91 x92 x93 x94 x95 x96 x97 x98 x99 x100 x101 x102 x103 x104:Value}
 (hS:S W.drew)
 (hC:C.size=25) (KC:∀w,S w->w.heap[b]?=some (.cells C 32 (0,0))) (hm:IntKind.i64.wrap (l5-l4)=(m:Int)) (h0:decide ((0:Int)<(m:Int))=true)
 (H0:∀w,S w->w.cell? ⟨h,0,none⟩=some (.int .i64 k)) (H1:∀w,S w->w.cell? ⟨h,1,none⟩=some (.int .i64 f)) (H2:∀w,S w->w.cell? ⟨h,2,none⟩=some (.int .i64 l4))
 (G0:∀w,S w->w.cell? ⟨g,0,none⟩=some (.int .i64 k)) (G1:∀w,S w->w.cell? ⟨g,1,none⟩=some (.int .i64 f)) (G2:∀w,S w->w.cell? ⟨g,2,none⟩=some (.int .i64 l5))
 (MO:∀w,S w->Calls prog 21 #[.agg C] w fun e w'=>e=.returned (.int .i64 (m:Int))/\S w')
 (fin:∀w:World,S w->Q .normal ⟨#[x0,(.pointer (some ⟨b,0,none⟩)),(.bool true),(.string A),x4,(.string B),x6,(.pointer (some ⟨h,0,none⟩)),x8,(.int .i64 0),(.pointer (some ⟨g,0,none⟩)),x11,(.int .i64 0),x13,x14,x15,x16,x17,x18,x19,x20,x21,x22,x23,x24,x25,x26,x27,x28,x29,x30,x31,x32,x33,x34,x35,x36,x37,x38,x39,x40,x41,x42,x43,x44,x45,x46,x47,x48,x49,x50,x51,x52,x53,x54,x55,x56,x57,x58,x59,x60,x61,x62,x63,x64,(.int .i64 0),(.bool true),(.bool true),(.int .i64 0),(.bool true),(.bool true),(.bool true),(.pointer (some ⟨h,0,none⟩)),(.int .i64 k),(.pointer (some ⟨g,0,none⟩)),(.int .i64 k),(.bool true),(.bool true),(.bool true),(.pointer (some ⟨h,1,none⟩)),(.int .i64 f),(.pointer (some ⟨g,1,none⟩)),(.int .i64 f),(.bool true),(.bool true),(.bool true),(.pointer (some ⟨g,2,none⟩)),(.int .i64 l5),(.pointer (some ⟨h,2,none⟩)),(.int .i64 l4),(.int .i64 (m:Int)),(.agg C),(.int .i64 (m:Int)),(.bool true),(.bool true),(.bool true),(.agg C),(.int .i64 (m:Int)),(.bool true),(.bool true),undef,undef,undef,(.bool true),(.bool true)],[]⟩ w) :
 (Code.region 13 (qfhu.opsAt 13 Tryz.f7.body) true).wp prog Q ⟨#[x0,(.pointer (some ⟨b,0,none⟩)),x2,(.string A),x4,(.string B),x6,(.pointer (some ⟨h,0,none⟩)),x8,(.int .i64 0),(.pointer (some ⟨g,0,none⟩)),x11,(.int .i64 0),x13,x14,x15,x16,x17,x18,x19,x20,x21,x22,x23,x24,x25,x26,x27,x28,x29,x30,x31,x32,x33,x34,x35,x36,x37,x38,x39,x40,x41,x42,x43,x44,x45,x46,x47,x48,x49,x50,x51,x52,x53,x54,x55,x56,x57,x58,x59,x60,x61,x62,x63,x64,x65,x66,x67,x68,x69,x70,x71,x72,x73,x74,x75,x76,x77,x78,x79,x80,x81,x82,x83,x84,x85,x86,x87,x88,x89,x90,x91,x92,x93,x94,x95,x96,x97,x98,x99,x100,x101,x102,x103,x104],[]⟩ W:=by
 refine qfhu.wp_in (ds:=[65,66,67,68,69,70,71,72,73,74,75,76,77,78,79,80,81,82,83,84,85,86,87,88,89,90,91,92,93,94,95,96,97,98,99,100,101,102,103,104,2]) (B:=[x0,(.pointer (some ⟨b,0,none⟩)),(.bool true),(.string A),x4,(.string B),x6,(.pointer (some ⟨h,0,none⟩)),x8,(.int .i64 0),(.pointer (some ⟨g,0,none⟩)),x11,(.int .i64 0),x13,x14,x15,x16,x17,x18,x19,x20,x21,x22,x23,x24,x25,x26,x27,x28,x29,x30,x31,x32,x33,x34,x35,x36,x37,x38,x39,x40,x41,x42,x43,x44,x45,x46,x47,x48,x49,x50,x51,x52,x53,x54,x55,x56,x57,x58,x59,x60,x61,x62,x63,x64,(.int .i64 0),(.bool true),(.bool true),(.int .i64 0),(.bool true),(.bool true),(.bool true),(.pointer (some ⟨h,0,none⟩)),(.int .i64 k),(.pointer (some ⟨g,0,none⟩)),(.int .i64 k),(.bool true),(.bool true),(.bool true),(.pointer (some ⟨h,1,none⟩)),(.int .i64 f),(.pointer (some ⟨g,1,none⟩)),(.int .i64 f),(.bool true),(.bool true),(.bool true),(.pointer (some ⟨g,2,none⟩)),(.int .i64 l5),(.pointer (some ⟨h,2,none⟩)),(.int .i64 l4),(.int .i64 (m:Int)),(.agg C),(.int .i64 (m:Int)),(.bool true),(.bool true),(.bool true),(.agg C),(.int .i64 (m:Int)),(.bool true),(.bool true),undef,undef,undef,(.bool true),(.bool true)]) (D:=[]) (by kernel_rfl) (by kernel_rfl) (by kernel_rfl) ?_ hS ?_ fin
 ·exact(by repeat (first|exact trivial|refine⟨.inr rfl,?_⟩|refine⟨.inl rfl,?_⟩))
 refine qfhu.pu rfl rfl rfl rfl (fun w hS=>rfl) ?_;refine qfhu.pu rfl rfl rfl rfl (fun w hS=>qii7 rfl) ?_;refine qfhu.pu rfl rfl rfl rfl (fun w hS=>rfl) ?_;refine qfhu.pu rfl rfl rfl rfl (fun w hS=>rfl) ?_;refine qfhu.pu rfl rfl rfl rfl (fun w hS=>qii7 rfl) ?_;refine qfhu.pu rfl rfl rfl rfl (fun w hS=>rfl) ?_;refine qfhu.pu rfl rfl rfl rfl (fun w hS=>rfl) ?_;refine qfhu.pu rfl rfl rfl rfl (fun w hS=>qh6i rfl) ?_;refine qfhu.pu rfl rfl rfl rfl (fun w hS=>qkcv rfl (H0 w hS)) ?_;refine qfhu.pu rfl rfl rfl rfl (fun w hS=>qh6i rfl) ?_;refine qfhu.pu rfl rfl rfl rfl (fun w hS=>qkcv rfl (G0 w hS)) ?_;refine qfhu.pu rfl rfl rfl rfl (fun w hS=>qur7 rfl rfl) ?_;refine qfhu.pu rfl rfl rfl rfl (fun w hS=>rfl) ?_;refine qfhu.pu rfl rfl rfl rfl (fun w hS=>rfl) ?_;refine qfhu.pu rfl rfl rfl rfl (fun w hS=>q7ab rfl) ?_;refine qfhu.pu rfl rfl rfl rfl (fun w hS=>qkcv rfl (H1 w hS)) ?_;refine qfhu.pu rfl rfl rfl rfl (fun w hS=>q7ab rfl) ?_;refine qfhu.pu rfl rfl rfl rfl (fun w hS=>qkcv rfl (G1 w hS)) ?_;refine qfhu.pu rfl rfl rfl rfl (fun w hS=>qur7 rfl rfl) ?_;refine qfhu.pu rfl rfl rfl rfl (fun w hS=>rfl) ?_;refine qfhu.pu rfl rfl rfl rfl (fun w hS=>rfl) ?_;refine qfhu.pu rfl rfl rfl rfl (fun w hS=>qlgx rfl) ?_;refine qfhu.pu rfl rfl rfl rfl (fun w hS=>qkcv rfl (G2 w hS)) ?_;refine qfhu.pu rfl rfl rfl rfl (fun w hS=>qlgx rfl) ?_;refine qfhu.pu rfl rfl rfl rfl (fun w hS=>qkcv rfl (H2 w hS)) ?_;refine qfhu.pu rfl rfl rfl rfl (fun w hS=>qp0z rfl rfl hm) ?_;refine qfhu.pu rfl rfl rfl rfl (fun w hS=>qjuh rfl hC (KC w hS)) ?_;refine qfhu.ca rfl rfl rfl rfl (fun w=>qpjl.enter1 func21 rfl rfl) MO ?_;refine qfhu.pu rfl rfl rfl rfl (fun w hS=>qur7 rfl rfl) ?_;refine qfhu.pu rfl rfl rfl rfl (fun w hS=>rfl) ?_;refine qfhu.pu rfl rfl rfl rfl (fun w hS=>rfl) ?_;refine qfhu.pu rfl rfl rfl rfl (fun w hS=>qjuh rfl hC (KC w hS)) ?_;refine qfhu.ca rfl rfl rfl rfl (fun w=>qpjl.enter1 func21 rfl rfl) MO ?_;refine qfhu.pu rfl rfl rfl rfl (fun w hS=>qyhu rfl h0) ?_;refine qfhu.pu rfl rfl rfl rfl (fun w hS=>rfl) ?_;refine qfhu.sk rfl rfl rfl rfl ?_;refine qfhu.sk rfl rfl rfl rfl ?_;refine qfhu.sk rfl rfl rfl rfl ?_;refine qfhu.pu rfl rfl rfl rfl (fun w hS=>rfl) ?_;refine qfhu.pu rfl rfl rfl rfl (fun w hS=>rfl) ?_;refine qfhu.pu rfl rfl rfl rfl (fun w hS=>rfl) ?_;exact qfhu.All.fin rfl
theorem qary{Q:Exit->Act->World->Prop}{S:World->Prop}{W:World}{b h g m:Nat}{k f l4 l5:Int}{A:ByteArray}{C:Array Value}{x0 x2 x4 x6 x8 x11 x13 x14 x15 x16 x17 x18 x19 x20 x21 x22 x23 x24 x25 x26 x27 x28 x29 x30 x31 x32 x33 x34 x35 x36 x37 x38 x39 x40 x41 x42 x43 x44 x45 x46 x47 x48 x49 x50 x51 x52 x53 x54 x55 x56 x57 x58 x59 x60 x61 x62 x63 x64 x65 x66 x67 x68 x69 x70 x71 x72 x73 x74 x75 x76 x77 x78 x79 x80 x81 x82 x83 x84 x85 x86 x87 x88 x89 x90 x91 x92 x93 x94 x95 x96 x97 x98 x99 x100 x101 x102 x103 x104:Value}
 (hS:S W.drew)
 (hC:C.size=25) (KC:∀w,S w->w.heap[b]?=some (.cells C 32 (0,0))) (hm:IntKind.i64.wrap (l5-l4)=(m:Int)) (h0:decide ((0:Int)<(m:Int))=false)
 (H0:∀w,S w->w.cell? ⟨h,0,none⟩=some (.int .i64 k)) (H1:∀w,S w->w.cell? ⟨h,1,none⟩=some (.int .i64 f)) (H2:∀w,S w->w.cell? ⟨h,2,none⟩=some (.int .i64 l4))
 (G0:∀w,S w->w.cell? ⟨g,0,none⟩=some (.int .i64 k)) (G1:∀w,S w->w.cell? ⟨g,1,none⟩=some (.int .i64 f)) (G2:∀w,S w->w.cell? ⟨g,2,none⟩=some (.int .i64 l5))
 (MO:∀w,S w->Calls prog 21 #[.agg C] w fun e w'=>e=.returned (.int .i64 (m:Int))/\S w')
 (fin:∀w:World,S w->Q .normal ⟨#[x0,(.pointer (some ⟨b,0,none⟩)),(.bool true),(.string A),x4,(.string A),x6,(.pointer (some ⟨h,0,none⟩)),x8,(.int .i64 0),(.pointer (some ⟨g,0,none⟩)),x11,(.int .i64 0),x13,x14,x15,x16,x17,x18,x19,x20,x21,x22,x23,x24,x25,x26,x27,x28,x29,x30,x31,x32,x33,x34,x35,x36,x37,x38,x39,x40,x41,x42,x43,x44,x45,x46,x47,x48,x49,x50,x51,x52,x53,x54,x55,x56,x57,x58,x59,x60,x61,x62,x63,x64,(.int .i64 0),(.bool true),(.bool true),(.int .i64 0),(.bool true),(.bool true),(.bool true),(.pointer (some ⟨h,0,none⟩)),(.int .i64 k),(.pointer (some ⟨g,0,none⟩)),(.int .i64 k),(.bool true),(.bool true),(.bool true),(.pointer (some ⟨h,1,none⟩)),(.int .i64 f),(.pointer (some ⟨g,1,none⟩)),(.int .i64 f),(.bool true),(.bool true),(.bool true),(.pointer (some ⟨g,2,none⟩)),(.int .i64 l5),(.pointer (some ⟨h,2,none⟩)),(.int .i64 l4),(.int .i64 (m:Int)),(.agg C),(.int .i64 (m:Int)),(.bool true),(.bool true),(.bool true),(.agg C),(.int .i64 (m:Int)),(.bool false),(.bool false),(.string A),(.string A),(.bool true),(.bool true),(.bool true)],[]⟩ w) :
 (Code.region 13 (qfhu.opsAt 13 Tryz.f7.body) true).wp prog Q ⟨#[x0,(.pointer (some ⟨b,0,none⟩)),x2,(.string A),x4,(.string A),x6,(.pointer (some ⟨h,0,none⟩)),x8,(.int .i64 0),(.pointer (some ⟨g,0,none⟩)),x11,(.int .i64 0),x13,x14,x15,x16,x17,x18,x19,x20,x21,x22,x23,x24,x25,x26,x27,x28,x29,x30,x31,x32,x33,x34,x35,x36,x37,x38,x39,x40,x41,x42,x43,x44,x45,x46,x47,x48,x49,x50,x51,x52,x53,x54,x55,x56,x57,x58,x59,x60,x61,x62,x63,x64,x65,x66,x67,x68,x69,x70,x71,x72,x73,x74,x75,x76,x77,x78,x79,x80,x81,x82,x83,x84,x85,x86,x87,x88,x89,x90,x91,x92,x93,x94,x95,x96,x97,x98,x99,x100,x101,x102,x103,x104],[]⟩ W:=by
 refine qfhu.wp_in (ds:=[65,66,67,68,69,70,71,72,73,74,75,76,77,78,79,80,81,82,83,84,85,86,87,88,89,90,91,92,93,94,95,96,97,98,99,100,101,102,103,104,2]) (B:=[x0,(.pointer (some ⟨b,0,none⟩)),(.bool true),(.string A),x4,(.string A),x6,(.pointer (some ⟨h,0,none⟩)),x8,(.int .i64 0),(.pointer (some ⟨g,0,none⟩)),x11,(.int .i64 0),x13,x14,x15,x16,x17,x18,x19,x20,x21,x22,x23,x24,x25,x26,x27,x28,x29,x30,x31,x32,x33,x34,x35,x36,x37,x38,x39,x40,x41,x42,x43,x44,x45,x46,x47,x48,x49,x50,x51,x52,x53,x54,x55,x56,x57,x58,x59,x60,x61,x62,x63,x64,(.int .i64 0),(.bool true),(.bool true),(.int .i64 0),(.bool true),(.bool true),(.bool true),(.pointer (some ⟨h,0,none⟩)),(.int .i64 k),(.pointer (some ⟨g,0,none⟩)),(.int .i64 k),(.bool true),(.bool true),(.bool true),(.pointer (some ⟨h,1,none⟩)),(.int .i64 f),(.pointer (some ⟨g,1,none⟩)),(.int .i64 f),(.bool true),(.bool true),(.bool true),(.pointer (some ⟨g,2,none⟩)),(.int .i64 l5),(.pointer (some ⟨h,2,none⟩)),(.int .i64 l4),(.int .i64 (m:Int)),(.agg C),(.int .i64 (m:Int)),(.bool true),(.bool true),(.bool true),(.agg C),(.int .i64 (m:Int)),(.bool false),(.bool false),(.string A),(.string A),(.bool true),(.bool true),(.bool true)]) (D:=[]) (by kernel_rfl) (by kernel_rfl) (by kernel_rfl) ?_ hS ?_ fin
 ·exact(by repeat (first|exact trivial|refine⟨.inr rfl,?_⟩|refine⟨.inl rfl,?_⟩))
 refine qfhu.pu rfl rfl rfl rfl (fun w hS=>rfl) ?_;refine qfhu.pu rfl rfl rfl rfl (fun w hS=>qii7 rfl) ?_;refine qfhu.pu rfl rfl rfl rfl (fun w hS=>rfl) ?_;refine qfhu.pu rfl rfl rfl rfl (fun w hS=>rfl) ?_;refine qfhu.pu rfl rfl rfl rfl (fun w hS=>qii7 rfl) ?_;refine qfhu.pu rfl rfl rfl rfl (fun w hS=>rfl) ?_;refine qfhu.pu rfl rfl rfl rfl (fun w hS=>rfl) ?_;refine qfhu.pu rfl rfl rfl rfl (fun w hS=>qh6i rfl) ?_;refine qfhu.pu rfl rfl rfl rfl (fun w hS=>qkcv rfl (H0 w hS)) ?_;refine qfhu.pu rfl rfl rfl rfl (fun w hS=>qh6i rfl) ?_;refine qfhu.pu rfl rfl rfl rfl (fun w hS=>qkcv rfl (G0 w hS)) ?_;refine qfhu.pu rfl rfl rfl rfl (fun w hS=>qur7 rfl rfl) ?_;refine qfhu.pu rfl rfl rfl rfl (fun w hS=>rfl) ?_;refine qfhu.pu rfl rfl rfl rfl (fun w hS=>rfl) ?_;refine qfhu.pu rfl rfl rfl rfl (fun w hS=>q7ab rfl) ?_;refine qfhu.pu rfl rfl rfl rfl (fun w hS=>qkcv rfl (H1 w hS)) ?_;refine qfhu.pu rfl rfl rfl rfl (fun w hS=>q7ab rfl) ?_;refine qfhu.pu rfl rfl rfl rfl (fun w hS=>qkcv rfl (G1 w hS)) ?_;refine qfhu.pu rfl rfl rfl rfl (fun w hS=>qur7 rfl rfl) ?_;refine qfhu.pu rfl rfl rfl rfl (fun w hS=>rfl) ?_;refine qfhu.pu rfl rfl rfl rfl (fun w hS=>rfl) ?_;refine qfhu.pu rfl rfl rfl rfl (fun w hS=>qlgx rfl) ?_;refine qfhu.pu rfl rfl rfl rfl (fun w hS=>qkcv rfl (G2 w hS)) ?_;refine qfhu.pu rfl rfl rfl rfl (fun w hS=>qlgx rfl) ?_;refine qfhu.pu rfl rfl rfl rfl (fun w hS=>qkcv rfl (H2 w hS)) ?_;refine qfhu.pu rfl rfl rfl rfl (fun w hS=>qp0z rfl rfl hm) ?_;refine qfhu.pu rfl rfl rfl rfl (fun w hS=>qjuh rfl hC (KC w hS)) ?_;refine qfhu.ca rfl rfl rfl rfl (fun w=>qpjl.enter1 func21 rfl rfl) MO ?_;refine qfhu.pu rfl rfl rfl rfl (fun w hS=>qur7 rfl rfl) ?_;refine qfhu.pu rfl rfl rfl rfl (fun w hS=>rfl) ?_;refine qfhu.pu rfl rfl rfl rfl (fun w hS=>rfl) ?_;refine qfhu.pu rfl rfl rfl rfl (fun w hS=>qjuh rfl hC (KC w hS)) ?_;refine qfhu.ca rfl rfl rfl rfl (fun w=>qpjl.enter1 func21 rfl rfl) MO ?_;refine qfhu.pu rfl rfl rfl rfl (fun w hS=>qyhu rfl h0) ?_;refine qfhu.pu rfl rfl rfl rfl (fun w hS=>rfl) ?_;refine qfhu.pu rfl rfl rfl rfl (fun w hS=>rfl) ?_;refine qfhu.pu rfl rfl rfl rfl (fun w hS=>rfl) ?_;refine qfhu.pu rfl rfl rfl rfl (fun w hS=>q4nq rfl rfl) ?_;refine qfhu.pu rfl rfl rfl rfl (fun w hS=>rfl) ?_;refine qfhu.pu rfl rfl rfl rfl (fun w hS=>rfl) ?_;refine qfhu.pu rfl rfl rfl rfl (fun w hS=>rfl) ?_;exact qfhu.All.fin rfl
end Go.Proofs.YtombgnfedafkjaaGreatDoor
