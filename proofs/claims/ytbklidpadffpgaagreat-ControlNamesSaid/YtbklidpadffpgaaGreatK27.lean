/- The contract of head.Same: whether two packets are equal. Condition: at most 70,000 elements a list. -/
import Derived.Test.YtbklidpadffpgaaGreatK26
import Derived.Test.YtbklidpadffpgaaGreatK20
import Derived.Test.YtbklidpadffpgaaGreatK24
import Derived.Test.YtbklidpadffpgaaGreatK16
set_option maxHeartbeats 4000000
set_option maxRecDepth 100000
namespace Go.Proofs.YtbklidpadffpgaaGreat
open Go.RowKit
structure SmS(w:World)(p:Pk)(a:Ad)(q:Pk)(b:Ad)(W:World):Prop where
 low:Below w.heap.size w W
 p:W.heap[w.heap.size]? = some (.cells (pkC p a) 35 (0,0))
 q:W.heap[w.heap.size+1]? = some (.cells (pkC q b) 35 (0,0))
theorem SmS.call{w W W':World}{p q:Pk}{a b:Ad}(h:SmS w p a q b W)(hb:Below W.heap.size W W'):SmS w p a q b W':=
 ⟨qxh2 h.low hb,(hb.block _ (lt_of_block h.p)).trans h.p,(hb.block _ (lt_of_block h.q)).trans h.q⟩
theorem qyk8(p q:Pk)(a b:Ad)(w:World)(hp:PkAt w p a)(hq:PkAt w q b)(sp:q21o p)(sq:q21o q) :
 Calls Tryz.prog 51 #[pkV p a,pkV q b] w fun e w'=>e = .returned (.bool (decide (p=q)))∧Below w.heap.size w w':=by
 have S0:SmS w p a q b ((w.alloc (.cells (pkC p a) 35)).alloc (.cells (pkC q b) 35)):=⟨qxh2 (qybm _) (qybm _),heap_alloc2_old _ _ _,heap_alloc2_new _ _ _⟩
 have S0:SmS w p a q b (((w.alloc (.cells (pkC p a) 35)).alloc (.cells (pkC q b) 35))).drew:=⟨S0.low.drew,S0.p,S0.q⟩
 have CE:∀(x:Pk) (c:Ad),(∀(B j:Nat) (u:Value) (W:World),W.heap[B]? = some (.cells (pkC x c) 35 (0,0))→(pkC x c)[j]? = some u→W.cell? ⟨B,j,none⟩=some u):=fun x c B j u W h hu=>(cell_of_row _ _ j _ _ _ h).trans hu
 have N1:∀(x:Pk) (c:Ad) W,SmS w p a q b W→Calls Tryz.prog 81 #[.agg (pkC x c)] W fun e w'=>e = .returned (.agg (q3zb x))∧SmS w p a q b w':=fun x c W h=>(qi7b x c W).mono fun e w' ⟨he,hb⟩=>⟨he,h.call hb⟩
 have N2:∀(x:Pk) (c:Ad) W,SmS w p a q b W→Calls Tryz.prog 82 #[.agg (pkC x c)] W fun e w'=>e = .returned (.agg (qjjk x))∧SmS w p a q b w':=fun x c W h=>(qu0d x c W).mono fun e w' ⟨he,hb⟩=>⟨he,h.call hb⟩
 have N3:∀(x:Pk) (c:Ad) W,SmS w p a q b W→Calls Tryz.prog 83 #[.agg (pkC x c)] W fun e w'=>e = .returned (.agg (q5cx x))∧SmS w p a q b w':=fun x c W h=>(quge x c W).mono fun e w' ⟨he,hb⟩=>⟨he,h.call hb⟩
 have F3:∀W,SmS w p a q b W→Calls Tryz.prog 84 #[(.slice a.cs p.codes.length a.cc),(.slice b.cs q.codes.length b.cc),.func (.func 85) #[] #[]] W fun e w'=>e = .returned (.bool (decide (p.codes=q.codes)))∧SmS w p a q b w':=fun W h=>(q5se _ _ _ _ _ _ p.codes q.codes W (hp.cs.below (h.low)) (hq.cs.below (h.low)) rfl rfl (by have:=sp;unfold q21o at this;omega) (by have:=sq;unfold q21o at this;omega)).mono fun e w' ⟨he,hb⟩=>⟨he,h.call hb⟩
 have F4:∀W,SmS w p a q b W→Calls Tryz.prog 86 #[(.slice a.fs p.filters.length a.fc),(.slice b.fs q.filters.length b.fc),.func (.func 87) #[] #[]] W fun e w'=>e = .returned (.bool (decide (p.filters=q.filters)))∧SmS w p a q b w':=fun W h=>(qm9z _ _ _ _ _ _ p.filters q.filters W (hp.fs.below (h.low)) (hq.fs.below (h.low)) rfl rfl (by have:=sp;unfold q21o at this;omega) (by have:=sq;unfold q21o at this;omega)).mono fun e w' ⟨he,hb⟩=>⟨he,h.call hb⟩
 have F5:∀W,SmS w p a q b W→Calls Tryz.prog 88 #[(.slice a.ps p.props.length a.pc),(.slice b.ps q.props.length b.pc),.func (.func 89) #[] #[]] W fun e w'=>e = .returned (.bool (decide (p.props=q.props)))∧SmS w p a q b w':=fun W h=>(qk57 _ _ _ _ _ _ p.props q.props W (hp.ps.below (h.low)) (hq.ps.below (h.low)) rfl rfl (by have:=sp;unfold q21o at this;omega) (by have:=sq;unfold q21o at this;omega)).mono fun e w' ⟨he,hb⟩=>⟨he,h.call hb⟩
 have F6:∀W,SmS w p a q b W→Calls Tryz.prog 88 #[(.slice a.w p.wProps.length a.wc),(.slice b.w q.wProps.length b.wc),.func (.func 89) #[] #[]] W fun e w'=>e = .returned (.bool (decide (p.wProps=q.wProps)))∧SmS w p a q b w':=fun W h=>(qk57 _ _ _ _ _ _ p.wProps q.wProps W (hp.w.below (h.low)) (hq.w.below (h.low)) rfl rfl (by have:=sp;unfold q21o at this;omega) (by have:=sq;unfold q21o at this;omega)).mono fun e w' ⟨he,hb⟩=>⟨he,h.call hb⟩
 have C1:=qwmp p a
 have C2:=qwmp q b
 have cp22:∀W,SmS w p a q b W→W.cell? ⟨w.heap.size,22,none⟩=some (.slice a.cs p.codes.length a.cc):=fun W h=>CE p a _ 22 _ W h.p rfl
 have cp23:∀W,SmS w p a q b W→W.cell? ⟨w.heap.size,23,none⟩=some (.slice a.fs p.filters.length a.fc):=fun W h=>CE p a _ 23 _ W h.p rfl
 have cp24:∀W,SmS w p a q b W→W.cell? ⟨w.heap.size,24,none⟩=some (.slice a.ps p.props.length a.pc):=fun W h=>CE p a _ 24 _ W h.p rfl
 have cp19:∀W,SmS w p a q b W→W.cell? ⟨w.heap.size,19,none⟩=some (.slice a.w p.wProps.length a.wc):=fun W h=>CE p a _ 19 _ W h.p rfl
 have cq22:∀W,SmS w p a q b W→W.cell? ⟨w.heap.size+1,22,none⟩=some (.slice b.cs q.codes.length b.cc):=fun W h=>CE q b _ 22 _ W h.q rfl
 have cq23:∀W,SmS w p a q b W→W.cell? ⟨w.heap.size+1,23,none⟩=some (.slice b.fs q.filters.length b.fc):=fun W h=>CE q b _ 23 _ W h.q rfl
 have cq24:∀W,SmS w p a q b W→W.cell? ⟨w.heap.size+1,24,none⟩=some (.slice b.ps q.props.length b.pc):=fun W h=>CE q b _ 24 _ W h.q rfl
 have cq19:∀W,SmS w p a q b W→W.cell? ⟨w.heap.size+1,19,none⟩=some (.slice b.w q.wProps.length b.wc):=fun W h=>CE q b _ 19 _ W h.q rfl
 have K1:=N1 p a
 have K2:=N1 q b
 have K3:=N2 p a
 have K4:=N2 q b
 have K5:=N3 p a
 have K6:=N3 q b
 have P1:∀W,SmS w p a q b W→W.heap[w.heap.size]? = some (.cells (pkC p a) 35 (0,0)):=fun W h=>h.p
 have P2:∀W,SmS w p a q b W→W.heap[w.heap.size+1]? = some (.cells (pkC q b) 35 (0,0)):=fun W h=>h.q
 have LO:∀W,SmS w p a q b W→Below w.heap.size w W:=fun W h=>h.low
 have I51:=qpgn p q
 unfold pkV
 clear CE N1 N2 N3 hp hq sp sq
 generalize pkC p a=C at *
 generalize pkC q b=E at *
 generalize hSS:SmS w p a q b=S at *
 have HS:=Lib.hid hSS
 clear hSS
 have hS0:=Lib.hid S0
 have hC1:=Lib.hid C1
 have hC2:=Lib.hid C2
 have hP1:=Lib.hid P1
 have hP2:=Lib.hid P2
 have hLO:=Lib.hid LO
 have hK1:=Lib.hid K1
 have hK2:=Lib.hid K2
 have hK3:=Lib.hid K3
 have hK4:=Lib.hid K4
 have hK5:=Lib.hid K5
 have hK6:=Lib.hid K6
 have hF3:=Lib.hid F3
 have hF4:=Lib.hid F4
 have hF5:=Lib.hid F5
 have hF6:=Lib.hid F6
 have hcp22:=Lib.hid cp22
 have hcp23:=Lib.hid cp23
 have hcp24:=Lib.hid cp24
 have hcp19:=Lib.hid cp19
 have hcq22:=Lib.hid cq22
 have hcq23:=Lib.hid cq23
 have hcq24:=Lib.hid cq24
 have hcq19:=Lib.hid cq19
 have HI:=Lib.hid I51
 clear I51 S0 C1 C2 P1 P2 LO K1 K2 K3 K4 K5 K6 F3 F4 F5 F6 cp22 cp23 cp24 cp19 cq22 cq23 cq24 cq19
 obtain⟨R,hR⟩:∃R,decide (p=q)=R:=⟨_,rfl⟩
 rw[hR]
 have HR:=Lib.hid hR
 clear hR
 go_enter Tryz.func51,Tryz.ntmps51
 go_wp2_with fail
 refine qw00 (S:=S) (p:=p) (q:=q) (a:=a) (b:=b) (C:=C) (E:=E) (B:=w.heap.size) hS0.out hC1.out hC2.out hP1.out hP2.out hK1.out hK2.out hK3.out hK4.out hK5.out hK6.out hcp22.out hcq22.out hF3.out hcp23.out hcq23.out hF4.out hcp24.out hcq24.out hF5.out hcp19.out hcq19.out hF6.out ?_
 intro r W hr hW
 have BW:=Lib.hid (hLO.out W hW)
 obtain rfl:R=r:=by
  rw[←hr,←HR.out,Bool.eq_iff_iff]
  simp only[Bool.and_eq_true,decide_eq_true_eq,HI.out,and_assoc]
 clear hW hr
 intros
 go_wp2_with fail
 go_ret
 exact⟨rfl,BW.out⟩
section
variable{a:Act}{w:World}{d:Option Tmp}{p:String}{af:Array Edge}{gd:Option (Nat×Bool)}{x y z:Tmp}{r:TypeId}
theorem qn4o{g:Nat}{D old:Array Value}(hx:a.eval (.tmp x) = .pointer (some ⟨g,0,none⟩))(hy:a.eval (.tmp y) = .agg D)(hD:D.size=25)(h1:D.all (·.oneCell')=true)(hg:w.heap[g]? = some (.cells old 35 (0,0)))(ho:old.size=25) :
 (execOp a.eval {dst:=d,op := .store 35 (.tmp x) (.tmp y),type:=r,pos:=p,after:=af,guard:=gd}).run Tryz.prog w = .ok .skip (w.setRow g D):=by
 unfold execOp
 simp only[hx,hy,Instr.storeAt,Instr.sureAddr,Sem.run_bind,Sem.run_pure,Result.andThen_ok,run_storeVar_row w g 35 35 old D hg (by rw[hD];exact q5nr) (by rw[ho,hD]) h1]
end
theorem qeqd{Q:Exit→Act→World→Prop}{S:World→Prop}{W:World}{b B cb:Nat}{f:Int}{C:Array Value}{x0 x1 x2 x3 x5 x8 x9 x10 x11 x12 x13 x14 x15 x16 x17 x18 x19 x20 x21 x22 x23 x24 x25 x26 x27 x28 x29 x30 x31 x32 x33 x34 x35 x36 x37 x38 x39 x40 x41 x42 x43 x44 x45 x46 x47 x48 x49 x50 x51 x52:Value}
 (hS:S W.drew) (hC:C.size=25) (h1:C.all (·.oneCell')=true) (hb:B≠b) (KB:∀w,S w→w.heap[B]? = some (.cells C 35 (0,0))) (KR:∀w,S w→∃old,w.heap[b]? = some (.cells old 35 (0,0))∧old.size=25)
 (H0:∀w,S w→Calls Tryz.prog 50 #[(.pointer (some ⟨cb,0,none⟩))] w fun e w'=>e = .returned (.int .i64 f)∧w=w')
 (H1:∀w,S w→Calls Tryz.prog 50 #[(.pointer (some ⟨cb,0,none⟩))] (w.setRow b C) fun e w'=>e = .returned (.int .i64 f)∧w.setRow b C=w')
 (fin:∀w,S w→Q .normal ⟨#[x0,x1,x2,x3,(.pointer (some ⟨b,0,none⟩)),(.int .i64 f),(.pointer (some ⟨cb,0,none⟩)),(.pointer (some ⟨B,0,none⟩)),x8,x9,x10,x11,x12,x13,x14,x15,x16,x17,x18,x19,x20,x21,x22,x23,x24,x25,x26,x27,x28,x29,x30,x31,x32,x33,x34,x35,x36,x37,x38,x39,x40,x41,x42,x43,x44,x45,x46,x47,x48,x49,(.agg C),(.pointer (some ⟨cb,0,none⟩)),(.int .i64 f)],[]⟩ (w.setRow b C)) :
 (Code.region 11 (qfhu.opsAt 11 Tryz.f21.body) true).wp Tryz.prog Q ⟨#[x0,x1,x2,x3,(.pointer (some ⟨b,0,none⟩)),x5,(.pointer (some ⟨cb,0,none⟩)),(.pointer (some ⟨B,0,none⟩)),x8,x9,x10,x11,x12,x13,x14,x15,x16,x17,x18,x19,x20,x21,x22,x23,x24,x25,x26,x27,x28,x29,x30,x31,x32,x33,x34,x35,x36,x37,x38,x39,x40,x41,x42,x43,x44,x45,x46,x47,x48,x49,x50,x51,x52],[]⟩ W:=by
 refine q2y4.wp (x:=false) (S:=fun x W=>∃V,S V∧W=if x=true then V.setRow b C else V) (made:=fun i x=>i=3→x=true) (war:=[]) (ds:=[50,51,52,5]) (A:=[x0,x1,x2,x3,(.pointer (some ⟨b,0,none⟩)),x5,(.pointer (some ⟨cb,0,none⟩)),(.pointer (some ⟨B,0,none⟩)),x8,x9,x10,x11,x12,x13,x14,x15,x16,x17,x18,x19,x20,x21,x22,x23,x24,x25,x26,x27,x28,x29,x30,x31,x32,x33,x34,x35,x36,x37,x38,x39,x40,x41,x42,x43,x44,x45,x46,x47,x48,x49,x50,x51,x52]) (B:=fun x=>[x0,x1,x2,x3,(.pointer (some ⟨b,0,none⟩)),(.int .i64 f),(.pointer (some ⟨cb,0,none⟩)),(.pointer (some ⟨B,0,none⟩)),x8,x9,x10,x11,x12,x13,x14,x15,x16,x17,x18,x19,x20,x21,x22,x23,x24,x25,x26,x27,x28,x29,x30,x31,x32,x33,x34,x35,x36,x37,x38,x39,x40,x41,x42,x43,x44,x45,x46,x47,x48,x49,(.agg C),(.pointer (some ⟨cb,0,none⟩)),(.int .i64 f)]) (D:=[]) (by kernel_rfl) (by kernel_rfl) (by kernel_rfl) ?_ ⟨_,hS,rfl⟩ ?_ ?fin
 case refine_1=>exact fun x=>(by repeat (first | exact trivial | refine⟨.inr rfl,?_⟩ | refine⟨.inl rfl,?_⟩))
 refine q2y4.All.step rfl (q2y4.Does.pure (val:=fun x=>(.agg C)) rfl (fun x h=>absurd h (by decide)) (fun x w hm hS=>⟨rfl,rfl,qjuh rfl hC (by
  obtain⟨V,hV,hw⟩:=hS
  subst hw
  cases x
  ·exact KB V hV
  ·exact(setRow_other V b B C hb).trans (KB V hV))⟩)) ?_
 refine q2y4.All.step rfl (q2y4.Does.pure (val:=fun x=>(.pointer (some ⟨cb,0,none⟩))) rfl (fun x h=>absurd h (by decide)) (fun x w hm hS=>⟨rfl,rfl,rfl⟩)) ?_
 refine q2y4.All.step rfl (q2y4.Does.call (val:=fun x=>(.int .i64 f)) rfl (fun x h=>absurd h (by decide)) (fun x w hm hS=>⟨rfl,rfl,qpjl.enter1 Tryz.func50 rfl rfl,by
  obtain⟨V,hV,hw⟩:=hS
  subst hw
  cases x
  ·exact(H0 V hV).mono fun e w' ⟨he,hk⟩=>⟨he,V,hV,hk.symm⟩
  ·exact(H1 V hV).mono fun e w' ⟨he,hk⟩=>⟨he,V,hV,hk.symm⟩⟩)) ?_
 refine q2y4.All.step rfl (fun x w hm hS=>by
  obtain⟨V,hV,hw⟩:=hS
  obtain⟨old,ho,hs⟩:=KR V hV
  refine .inl ⟨rfl,.skip true (V.setRow b C) ?_ ⟨fun d hd=>(by cases hd),⟨V,hV,rfl⟩,fun _=>rfl,fun i h e=>rfl,[],rfl,q2y4.off_refl 0 _⟩⟩
  subst hw
  cases x
  ·exact qn4o rfl rfl hC h1 ho hs
  ·exact(qn4o rfl rfl hC h1 (setRow_heap V b old C _ _ ho) hC).trans (by rw[setRow_setRow])) ?_
 refine q2y4.All.step rfl (q2y4.Does.pure (val:=fun x=>(.int .i64 f)) rfl (fun x h=>absurd h (by decide)) (fun x w hm hS=>⟨rfl,rfl,rfl⟩)) ?_
 exact q2y4.All.fin rfl
 case fin=>
  intro x w hm hS
  obtain⟨V,hV,hw⟩:=hS
  obtain rfl:=hm 3 (by decide+kernel) rfl
  subst hw
  exact fin V hV
end Go.Proofs.YtbklidpadffpgaaGreat
