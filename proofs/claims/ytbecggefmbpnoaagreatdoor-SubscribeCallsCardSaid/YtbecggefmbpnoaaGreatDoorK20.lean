/- The contract of head.Same: whether two packets are equal. Condition: at most 70,000 elements a list. -/
import Derived.Great.BuildSlice
import Derived.Deep.DeepCutAuto
import Derived.Deep.RegionWith
import Derived.Test.YtbecggefmbpnoaaGreatDoorK19
import Derived.Test.YtbecggefmbpnoaaGreatDoorK18
import Derived.Test.YtbecggefmbpnoaaGreatDoorK12
import Derived.Test.YtbecggefmbpnoaaGreatDoorK16
import Derived.Test.YtbecggefmbpnoaaGreatDoorK17
import Derived.Test.YtbecggefmbpnoaaGreatDoorK08
import Derived.Test.YtbecggefmbpnoaaGreatDoorK02
set_option maxHeartbeats 8000000
set_option maxRecDepth 100000
namespace Go.Proofs.YtbecggefmbpnoaaGreatDoor
open Go.RowKit
structure SmS(w:World)(p:Pk)(a:Ad)(q:Pk)(b:Ad)(W:World):Prop where
 low:Below w.heap.size w W
 p:W.heap[w.heap.size]? = some (.cells (pkC p a) 29 (0,0))
 q:W.heap[w.heap.size+1]? = some (.cells (pkC q b) 29 (0,0))
theorem SmS.call{w W W':World}{p q:Pk}{a b:Ad}(h:SmS w p a q b W)(hb:Below W.heap.size W W'):SmS w p a q b W':=
 ⟨qxh2 h.low hb,(hb.block _ (lt_of_block h.p)).trans h.p,(hb.block _ (lt_of_block h.q)).trans h.q⟩
theorem qyk8(p q:Pk)(a b:Ad)(w:World)(hp:PkAt w p a)(hq:PkAt w q b)(sp:q21o p)(sq:q21o q) :
 Calls Tryz.prog 84 #[pkV p a,pkV q b] w fun e w'=>e = .returned (.bool (decide (p=q)))∧Below w.heap.size w w':=by
 have S0:SmS w p a q b ((w.alloc (.cells (pkC p a) 29)).alloc (.cells (pkC q b) 29)):=⟨qxh2 (qybm _) (qybm _),heap_alloc2_old _ _ _,heap_alloc2_new _ _ _⟩
 have S0:SmS w p a q b (((w.alloc (.cells (pkC p a) 29)).alloc (.cells (pkC q b) 29))).drew:=⟨S0.low.drew,S0.p,S0.q⟩
 have CE:∀(x:Pk) (c:Ad),(∀(B j:Nat) (u:Value) (W:World),W.heap[B]? = some (.cells (pkC x c) 29 (0,0))→(pkC x c)[j]? = some u→W.cell? ⟨B,j,none⟩=some u):=fun x c B j u W h hu=>(cell_of_row _ _ j _ _ _ h).trans hu
 have N1:∀(x:Pk) (c:Ad) W,SmS w p a q b W→Calls Tryz.prog 118 #[.agg (pkC x c)] W fun e w'=>e = .returned (.agg (q3zb x))∧SmS w p a q b w':=fun x c W h=>(qi7b x c W).mono fun e w' ⟨he,hb⟩=>⟨he,h.call hb⟩
 have N2:∀(x:Pk) (c:Ad) W,SmS w p a q b W→Calls Tryz.prog 119 #[.agg (pkC x c)] W fun e w'=>e = .returned (.agg (qjjk x))∧SmS w p a q b w':=fun x c W h=>(qu0d x c W).mono fun e w' ⟨he,hb⟩=>⟨he,h.call hb⟩
 have N3:∀(x:Pk) (c:Ad) W,SmS w p a q b W→Calls Tryz.prog 120 #[.agg (pkC x c)] W fun e w'=>e = .returned (.agg (q5cx x))∧SmS w p a q b w':=fun x c W h=>(quge x c W).mono fun e w' ⟨he,hb⟩=>⟨he,h.call hb⟩
 have F3:∀W,SmS w p a q b W→Calls Tryz.prog 121 #[(.slice a.cs p.codes.length a.cc),(.slice b.cs q.codes.length b.cc),.func (.func 122) #[] #[]] W fun e w'=>e = .returned (.bool (decide (p.codes=q.codes)))∧SmS w p a q b w':=fun W h=>(q5se _ _ _ _ _ _ p.codes q.codes W (hp.cs.below (h.low)) (hq.cs.below (h.low)) rfl rfl (by have:=sp;unfold q21o at this;omega) (by have:=sq;unfold q21o at this;omega)).mono fun e w' ⟨he,hb⟩=>⟨he,h.call hb⟩
 have F4:∀W,SmS w p a q b W→Calls Tryz.prog 123 #[(.slice a.fs p.filters.length a.fc),(.slice b.fs q.filters.length b.fc),.func (.func 124) #[] #[]] W fun e w'=>e = .returned (.bool (decide (p.filters=q.filters)))∧SmS w p a q b w':=fun W h=>(qm9z _ _ _ _ _ _ p.filters q.filters W (hp.fs.below (h.low)) (hq.fs.below (h.low)) rfl rfl (by have:=sp;unfold q21o at this;omega) (by have:=sq;unfold q21o at this;omega)).mono fun e w' ⟨he,hb⟩=>⟨he,h.call hb⟩
 have F5:∀W,SmS w p a q b W→Calls Tryz.prog 125 #[(.slice a.ps p.props.length a.pc),(.slice b.ps q.props.length b.pc),.func (.func 126) #[] #[]] W fun e w'=>e = .returned (.bool (decide (p.props=q.props)))∧SmS w p a q b w':=fun W h=>(qk57 _ _ _ _ _ _ p.props q.props W (hp.ps.below (h.low)) (hq.ps.below (h.low)) rfl rfl (by have:=sp;unfold q21o at this;omega) (by have:=sq;unfold q21o at this;omega)).mono fun e w' ⟨he,hb⟩=>⟨he,h.call hb⟩
 have F6:∀W,SmS w p a q b W→Calls Tryz.prog 125 #[(.slice a.w p.wProps.length a.wc),(.slice b.w q.wProps.length b.wc),.func (.func 126) #[] #[]] W fun e w'=>e = .returned (.bool (decide (p.wProps=q.wProps)))∧SmS w p a q b w':=fun W h=>(qk57 _ _ _ _ _ _ p.wProps q.wProps W (hp.w.below (h.low)) (hq.w.below (h.low)) rfl rfl (by have:=sp;unfold q21o at this;omega) (by have:=sq;unfold q21o at this;omega)).mono fun e w' ⟨he,hb⟩=>⟨he,h.call hb⟩
 have C1:=qwmp p a
 have C2:=qwmp q b
 have cp22:∀W,SmS w p a q b W→W.cell? ⟨w.heap.size,22,none⟩=some (.slice a.cs p.codes.length a.cc):=fun W h=>CE p a _ 22 _ W h.p rfl
 have cp23:∀W,SmS w p a q b W→W.cell? ⟨w.heap.size,23,none⟩=some (.slice a.fs p.filters.length a.fc):=fun W h=>CE p a _ 23 _ W h.p rfl
 have cp24:∀W,SmS w p a q b W→W.cell? ⟨w.heap.size,24,none⟩=some (.slice a.ps p.props.length a.pc):=fun W h=>CE p a _ 24 _ W h.p rfl
 have cp19:∀W,SmS w p a q b W→W.cell? ⟨w.heap.size,19,none⟩=some (.slice a.w p.wProps.length a.wc):=fun W h=>CE p a _ 19 _ W h.p rfl
 have cq22:∀W,SmS w p a q b W→W.cell? ⟨w.heap.size+1,22,none⟩=some (.slice b.cs q.codes.length b.cc):=fun W h=>CE q b _ 22 _ W h.q rfl
 have cq23:∀W,SmS w p a q b W→W.cell? ⟨w.heap.size+1,23,none⟩=some (.slice b.fs q.filters.length b.fc):=fun W h=>CE q b _ 23 _ W h.q rfl
 have cq24:∀W,SmS w p a q b W→W.cell? ⟨w.heap.size+1,24,none⟩=some (.slice b.ps q.props.length b.pc):=fun W h=>CE q b _ 24 _ W h.q rfl
 have cq19:∀W,SmS w p a q b W→W.cell? ⟨w.heap.size+1,19,none⟩=some (.slice b.w q.wProps.length b.wc):=fun W h=>CE q b _ 19 _ W h.q rfl
 have K1:=N1 p a
 have K2:=N1 q b
 have K3:=N2 p a
 have K4:=N2 q b
 have K5:=N3 p a
 have K6:=N3 q b
 have P1:∀W,SmS w p a q b W→W.heap[w.heap.size]? = some (.cells (pkC p a) 29 (0,0)):=fun W h=>h.p
 have P2:∀W,SmS w p a q b W→W.heap[w.heap.size+1]? = some (.cells (pkC q b) 29 (0,0)):=fun W h=>h.q
 have LO:∀W,SmS w p a q b W→Below w.heap.size w W:=fun W h=>h.low
 have I84:=qpgn p q
 unfold pkV
 clear CE N1 N2 N3 hp hq sp sq
 generalize pkC p a=C at *
 generalize pkC q b=E at *
 generalize hSS:SmS w p a q b=S at *
 have HS:=Lib.hid hSS
 clear hSS
 have hS0:=Lib.hid S0
 have hC1:=Lib.hid C1
 have hC2:=Lib.hid C2
 have hP1:=Lib.hid P1
 have hP2:=Lib.hid P2
 have hLO:=Lib.hid LO
 have hK1:=Lib.hid K1
 have hK2:=Lib.hid K2
 have hK3:=Lib.hid K3
 have hK4:=Lib.hid K4
 have hK5:=Lib.hid K5
 have hK6:=Lib.hid K6
 have hF3:=Lib.hid F3
 have hF4:=Lib.hid F4
 have hF5:=Lib.hid F5
 have hF6:=Lib.hid F6
 have hcp22:=Lib.hid cp22
 have hcp23:=Lib.hid cp23
 have hcp24:=Lib.hid cp24
 have hcp19:=Lib.hid cp19
 have hcq22:=Lib.hid cq22
 have hcq23:=Lib.hid cq23
 have hcq24:=Lib.hid cq24
 have hcq19:=Lib.hid cq19
 have HI:=Lib.hid I84
 clear I84 S0 C1 C2 P1 P2 LO K1 K2 K3 K4 K5 K6 F3 F4 F5 F6 cp22 cp23 cp24 cp19 cq22 cq23 cq24 cq19
 obtain⟨R,hR⟩:∃R,decide (p=q)=R:=⟨_,rfl⟩
 rw[hR]
 have HR:=Lib.hid hR
 clear hR
 go_enter Tryz.func84,Tryz.ntmps84
 go_wp2_with fail
 refine qw00 (S:=S) (p:=p) (q:=q) (a:=a) (b:=b) (C:=C) (E:=E) (B:=w.heap.size) hS0.out hC1.out hC2.out hP1.out hP2.out hK1.out hK2.out hK3.out hK4.out hK5.out hK6.out hcp22.out hcq22.out hF3.out hcp23.out hcq23.out hF4.out hcp24.out hcq24.out hF5.out hcp19.out hcq19.out hF6.out ?_
 intro r W hr hW
 have BW:=Lib.hid (hLO.out W hW)
 obtain rfl:R=r:=by
  rw[←hr,←HR.out,Bool.eq_iff_iff]
  simp only[Bool.and_eq_true,decide_eq_true_eq,HI.out,and_assoc]
 clear hW hr
 intros
 go_wp2_with fail
 go_ret
 exact⟨rfl,BW.out⟩
theorem qmrg:(Tryz.prog.info? 73).map (·.size)=some 3:=by kernel_rfl
section
variable{a:Act}{w:World}{d:Option Tmp}{p:String}{af:Array Edge}{gd:Option (Nat×Bool)}{x y z:Tmp}{r:TypeId}
theorem qxjc{g:Nat}(hx:a.eval (.tmp x) = .pointer (some ⟨g,0,none⟩)) :
 (execOp a.eval {dst:=d,op := .fieldAddr 73 (.tmp x) 2,type:=r,pos:=p,after:=af,guard:=gd}).run Tryz.prog w = .ok (.value (.pointer (some ⟨g,2,none⟩))) w:=by
 generalize a.eval=f at *
 go_simp
theorem qtbf{g:Nat}{u0 u1 u2:Value}(hx:a.eval (.tmp x) = .pointer (some ⟨g,0,none⟩))(hg:w.heap[g]? = some (.cells #[u0,u1,u2] 73 (0,0))) :
 (execOp a.eval {dst:=d,op := .load 73 (.tmp x),type:=73,pos:=p,after:=af,guard:=gd}).run Tryz.prog w = .ok (.value (.agg #[u0,u1,u2])) w:=by
 unfold execOp
 simp only[hx,Instr.loadAt,Instr.sureAddr,Sem.run_bind,Sem.run_pure,Result.andThen_ok,run_loadVar_row w g 73 73 #[u0,u1,u2] (0,0) _ hg Tryz.underlying73 rfl qmrg]
end
theorem qje9{Q:Exit→Act→World→Prop}{S:Option (Option Addr×Nat)→World→Prop}{W:World}{B cb n:Nat}{v kind k f:Int}{t:ByteArray}{x0 x2 x3 x4 x5 x6 x7 x8 x9 x10 x11 x12 x13 x14 x15 x16 x17 x18 x19 x20 x21 x22:Value}
 (hS:S none W.drew) (KR:∀x w,S x w→w.heap[B]? = some (.cells #[(.pointer (some ⟨cb,0,none⟩)),.int .i64 v,.int .i64 kind] 73 (0,0))) (K2:∀x w,S x w→w.cell? ⟨B,2,none⟩=some (.int .i64 kind))
 (H0:∀x w,S x w→Calls Tryz.prog 114 #[(.agg #[(.pointer (some ⟨cb,0,none⟩)),.int .i64 v,.int .i64 kind])] w fun e w'=>e = .returned (.string t)∧S x w')
 (H1:∀x w,S x w→Calls Tryz.prog 113 #[.int .i64 kind,.string t] w fun e w'=>∃A c,e = .returned (.tuple #[.slice A n c,.int .i64 k,.int .i64 f])∧S (some (A,c)) w')
 (fin:∀x w,x.isSome=true→S x w→Q .normal ⟨#[x0,(.pointer (some ⟨B,0,none⟩)),x2,(.slice (gA x) n (gC x)),(.int .i64 k),(.int .i64 f),x6,x7,x8,(.tuple #[(.slice (gA x) n (gC x)),(.int .i64 k),(.int .i64 f)]),(.pointer (some ⟨B,2,none⟩)),(.int .i64 kind),(.agg #[(.pointer (some ⟨cb,0,none⟩)),.int .i64 v,.int .i64 kind]),(.string t),(.tuple #[(.slice (gA x) n (gC x)),(.int .i64 k),(.int .i64 f)]),(.slice (gA x) n (gC x)),(.int .i64 k),(.int .i64 f),x18,x19,x20,x21,x22],[]⟩ w) :
 (Code.region 3 (qfhu.opsAt 3 Tryz.f80.body) true).wp Tryz.prog Q ⟨#[x0,(.pointer (some ⟨B,0,none⟩)),x2,x3,x4,x5,x6,x7,x8,x9,x10,x11,x12,x13,x14,x15,x16,x17,x18,x19,x20,x21,x22],[]⟩ W:=by
 refine q2y4.wp (x:=none) (S:=S) (made:=fun i x=>i=4→x.isSome=true) (war:=[]) (ds:=[10,11,12,13,14,9,15,16,17,3,4,5]) (A:=[x0,(.pointer (some ⟨B,0,none⟩)),x2,x3,x4,x5,x6,x7,x8,x9,x10,x11,x12,x13,x14,x15,x16,x17,x18,x19,x20,x21,x22]) (B:=fun x=>[x0,(.pointer (some ⟨B,0,none⟩)),x2,(.slice (gA x) n (gC x)),(.int .i64 k),(.int .i64 f),x6,x7,x8,(.tuple #[(.slice (gA x) n (gC x)),(.int .i64 k),(.int .i64 f)]),(.pointer (some ⟨B,2,none⟩)),(.int .i64 kind),(.agg #[(.pointer (some ⟨cb,0,none⟩)),.int .i64 v,.int .i64 kind]),(.string t),(.tuple #[(.slice (gA x) n (gC x)),(.int .i64 k),(.int .i64 f)]),(.slice (gA x) n (gC x)),(.int .i64 k),(.int .i64 f),x18,x19,x20,x21,x22]) (D:=[]) (by kernel_rfl) (by kernel_rfl) (by kernel_rfl) ?_ hS ?_ (fun x w hm hS=>fin x w (hm 4 (by decide+kernel) rfl) hS)
 ·exact fun x=>(by repeat (first | exact trivial | refine⟨.inr rfl,?_⟩ | refine⟨.inl rfl,?_⟩))
 refine q2y4.All.step rfl (q2y4.Does.pure (val:=fun x=>(.pointer (some ⟨B,2,none⟩))) rfl (fun x h=>absurd h (by decide)) (fun x w hm hS=>⟨rfl,rfl,qxjc rfl⟩)) ?_
 refine q2y4.All.step rfl (q2y4.Does.pure (val:=fun x=>(.int .i64 kind)) rfl (fun x h=>absurd h (by decide)) (fun x w hm hS=>⟨rfl,rfl,qkcv rfl (K2 x w hS)⟩)) ?_
 refine q2y4.All.step rfl (q2y4.Does.pure (val:=fun x=>(.agg #[(.pointer (some ⟨cb,0,none⟩)),.int .i64 v,.int .i64 kind])) rfl (fun x h=>absurd h (by decide)) (fun x w hm hS=>⟨rfl,rfl,qtbf rfl (KR x w hS)⟩)) ?_
 refine q2y4.All.step rfl (q2y4.Does.call (val:=fun x=>(.string t)) rfl (fun x h=>absurd h (by decide)) (fun x w hm hS=>⟨rfl,rfl,qpjl.enter1 Tryz.func114 rfl rfl,H0 x w hS⟩)) ?_
 refine q2y4.All.step rfl (fun x w hm hS => .inl ⟨rfl,.call _ _ (qpjl.enter2 Tryz.func113 rfl rfl rfl) ((H1 x w hS).mono fun e w' ⟨A,c,he,h1⟩=>⟨_,some (A,c),he,(fun d hd=>by cases hd;rfl),h1,(fun _=>rfl),(fun i _ _=>rfl),[14,9,15,3],by kernel_rfl,(by repeat (first | exact trivial | refine⟨.inr rfl,?_⟩ | refine⟨.inl rfl,?_⟩))⟩)⟩) ?_
 refine q2y4.All.step rfl (q2y4.Does.pure (val:=fun x=>(.tuple #[(.slice (gA x) n (gC x)),(.int .i64 k),(.int .i64 f)])) rfl (fun x h=>absurd h (by decide)) (fun x w hm hS=>⟨rfl,rfl,rfl⟩)) ?_
 refine q2y4.All.step rfl (q2y4.Does.pure (val:=fun x=>(.slice (gA x) n (gC x))) rfl (fun x h=>absurd h (by decide)) (fun x w hm hS=>⟨rfl,rfl,rfl⟩)) ?_
 refine q2y4.All.step rfl (q2y4.Does.pure (val:=fun x=>(.int .i64 k)) rfl (fun x h=>absurd h (by decide)) (fun x w hm hS=>⟨rfl,rfl,rfl⟩)) ?_
 refine q2y4.All.step rfl (q2y4.Does.pure (val:=fun x=>(.int .i64 f)) rfl (fun x h=>absurd h (by decide)) (fun x w hm hS=>⟨rfl,rfl,rfl⟩)) ?_
 refine q2y4.All.step rfl (q2y4.Does.pure (val:=fun x=>(.slice (gA x) n (gC x))) rfl (fun x h=>absurd h (by decide)) (fun x w hm hS=>⟨rfl,rfl,rfl⟩)) ?_
 refine q2y4.All.step rfl (q2y4.Does.pure (val:=fun x=>(.int .i64 k)) rfl (fun x h=>absurd h (by decide)) (fun x w hm hS=>⟨rfl,rfl,rfl⟩)) ?_
 refine q2y4.All.step rfl (q2y4.Does.pure (val:=fun x=>(.int .i64 f)) rfl (fun x h=>absurd h (by decide)) (fun x w hm hS=>⟨rfl,rfl,rfl⟩)) ?_
 exact q2y4.All.fin rfl
section
variable{a:Act}{w:World}{d:Option Tmp}{p:String}{af:Array Edge}{gd:Option (Nat×Bool)}{x y z:Tmp}{r:TypeId}
theorem qxwk{g:Nat}(hx:a.eval (.tmp x) = .pointer (some ⟨g,0,none⟩)) :
 (execOp a.eval {dst:=d,op := .fieldAddr 73 (.tmp x) 0,type:=r,pos:=p,after:=af,guard:=gd}).run Tryz.prog w = .ok (.value (.pointer (some ⟨g,0,none⟩))) w:=by
 generalize a.eval=f at *
 go_simp
theorem qswu{g j:Nat}{q:Option Addr}(hx:a.eval (.tmp x) = .pointer (some ⟨g,j,none⟩))(hc:w.cell? ⟨g,j,none⟩=some (.pointer q)) :
 (execOp a.eval {dst:=d,op := .load 70 (.tmp x),type:=70,pos:=p,after:=af,guard:=gd}).run Tryz.prog w = .ok (.value (.pointer q)) w:=by
 generalize a.eval=f at *
 go_simp
end
theorem qf2v{Q:Exit→Act→World→Prop}{S:Nat→World→Prop}{W:World}{B cb:Nat}{n:Int}{t:ByteArray}{x0 x2 x3 x4 x5 x6 x7 x8 x9 x10 x11 x12 x13 x14 x15 x16 x17 x18 x19 x20 x21 x22 x23 x24 x25:Value}
 (hS:S 0 W.drew) (K0:∀x w,S x w→w.cell? ⟨B,0,none⟩=some (.pointer (some ⟨cb,0,none⟩)))
 (H0:∀w,S 0 w→Calls Tryz.prog 116 #[(.pointer (some ⟨cb,0,none⟩))] w fun e w'=>e = .returned (.int .i64 n)∧S 1 w')
 (H1:∀w,S 1 w→Calls Tryz.prog 112 #[(.pointer (some ⟨cb,0,none⟩)),.int .i64 n] w fun e w'=>e = .returned (.string t)∧S 2 w')
 (fin:∀w,S 2 w→Q .normal ⟨#[x0,(.pointer (some ⟨B,0,none⟩)),x2,x3,(.string t),x5,(.pointer (some ⟨B,0,none⟩)),(.pointer (some ⟨cb,0,none⟩)),(.pointer (some ⟨B,0,none⟩)),(.pointer (some ⟨cb,0,none⟩)),(.int .i64 n),(.string t),x12,x13,x14,x15,x16,x17,x18,x19,x20,x21,x22,x23,x24,x25],[]⟩ w) :
 (Code.region 2 (qfhu.opsAt 2 Tryz.f82.body) true).wp Tryz.prog Q ⟨#[x0,(.pointer (some ⟨B,0,none⟩)),x2,x3,x4,x5,x6,x7,x8,x9,x10,x11,x12,x13,x14,x15,x16,x17,x18,x19,x20,x21,x22,x23,x24,x25],[]⟩ W:=by
 refine qu7n.wp (fresh:=fun i x=>(i=4→x=0)∧(i=5→x≤1)) (hf0:=fun i=>⟨fun _=>rfl,fun _=>Nat.zero_le _⟩) (x:=0) (S:=S) (made:=fun i x=>(i=4→1≤x)∧(i=5→x=2)) (war:=[]) (ds:=[6,7,8,9,10,11,4]) (A:=[x0,(.pointer (some ⟨B,0,none⟩)),x2,x3,x4,x5,x6,x7,x8,x9,x10,x11,x12,x13,x14,x15,x16,x17,x18,x19,x20,x21,x22,x23,x24,x25]) (B:=fun _=>[x0,(.pointer (some ⟨B,0,none⟩)),x2,x3,(.string t),x5,(.pointer (some ⟨B,0,none⟩)),(.pointer (some ⟨cb,0,none⟩)),(.pointer (some ⟨B,0,none⟩)),(.pointer (some ⟨cb,0,none⟩)),(.int .i64 n),(.string t),x12,x13,x14,x15,x16,x17,x18,x19,x20,x21,x22,x23,x24,x25]) (D:=[]) (by kernel_rfl) (by kernel_rfl) (by kernel_rfl) ?_ hS ?_ (fun x w hm hS=>fin w (by have h:=(hm 5 (by decide)).2 rfl;rw[←h];exact hS))
 ·exact fun x=>(by repeat (first | exact trivial | refine⟨.inr rfl,?_⟩ | refine⟨.inl rfl,?_⟩))
 refine q2y4.All.step rfl (qu7n.Does.pure (val:=fun x=>(.pointer (some ⟨B,0,none⟩))) rfl (fun x=>⟨fun h=>absurd h (by decide),fun h=>absurd h (by decide)⟩) (fun x w hm hS=>⟨rfl,rfl,qxwk rfl⟩)) ?_
 refine q2y4.All.step rfl (qu7n.Does.pure (val:=fun x=>(.pointer (some ⟨cb,0,none⟩))) rfl (fun x=>⟨fun h=>absurd h (by decide),fun h=>absurd h (by decide)⟩) (fun x w hm hS=>⟨rfl,rfl,qswu rfl (K0 x w hS)⟩)) ?_
 refine q2y4.All.step rfl (qu7n.Does.pure (val:=fun x=>(.pointer (some ⟨B,0,none⟩))) rfl (fun x=>⟨fun h=>absurd h (by decide),fun h=>absurd h (by decide)⟩) (fun x w hm hS=>⟨rfl,rfl,qxwk rfl⟩)) ?_
 refine q2y4.All.step rfl (qu7n.Does.pure (val:=fun x=>(.pointer (some ⟨cb,0,none⟩))) rfl (fun x=>⟨fun h=>absurd h (by decide),fun h=>absurd h (by decide)⟩) (fun x w hm hS=>⟨rfl,rfl,qswu rfl (K0 x w hS)⟩)) ?_
 refine q2y4.All.step rfl (fun x w hp hf hS => .inl ⟨rfl,.call _ _ (qpjl.enter1 Tryz.func116 rfl rfl) (by
  obtain rfl:x=0:=hf.1 rfl
  exact(H0 w hS).mono fun e w' ⟨he,h1⟩=>⟨_,1,he,(fun d hd=>by cases hd;rfl),h1,⟨fun _=>Nat.le_refl _,fun h=>absurd h (by decide)⟩,(fun i h=>⟨fun _=>Nat.le_refl _,fun e=>absurd (h.2 e) (by decide)⟩),(fun i hi _=>⟨fun e=>absurd e hi,fun _=>Nat.le_refl _⟩),[],rfl,q2y4.off_refl 0 _⟩)⟩) ?_
 refine q2y4.All.step rfl (fun x w hp hf hS => .inl ⟨rfl,.call _ _ (qpjl.enter2 Tryz.func112 rfl rfl rfl) (by
  have h1:1≤x:=(hp 4 (by decide+kernel) (by decide)).1 rfl
  have h2:x≤1:=hf.2 rfl
  obtain rfl:x=1:=by omega
  exact(H1 w hS).mono fun e w' ⟨he,h1⟩=>⟨_,2,he,(fun d hd=>by cases hd;rfl),h1,⟨fun h=>absurd h (by decide),fun _=>rfl⟩,(fun i _=>⟨fun _=>by decide,fun _=>rfl⟩),(fun i hi h=>⟨fun e=>absurd (h.1 e) (by decide),fun e=>absurd e hi⟩),[],rfl,q2y4.off_refl 0 _⟩)⟩) ?_
 refine q2y4.All.step rfl (qu7n.Does.pure (val:=fun x=>(.string t)) rfl (fun x=>⟨fun h=>absurd h (by decide),fun h=>absurd h (by decide)⟩) (fun x w hm hS=>⟨rfl,rfl,rfl⟩)) ?_
 exact q2y4.All.fin rfl
def XG:=Bool×Option Nat×Bool
def xn(x:XG):Bool:=x.1
def xa(x:XG):Option Nat:=x.2.1
def xg(x:XG):Nat:=x.2.1.getD 0
def xs(x:XG):Bool:=x.2.2
section
variable{a:Act}{w:World}{d:Option Tmp}{p:String}{af:Array Edge}{gd:Option (Nat×Bool)}{x y z:Tmp}{r:TypeId}
theorem q0mg:(execOp a.eval {dst:=d,op := .alloc 29,type:=r,pos:=p,after:=af,guard:=gd}).run Tryz.prog w = .ok (.value (.pointer (some ⟨w.heap.size,0,none⟩))) (w.alloc (.cells pkZ 29)):=by
 have hzv:=qrai w
 generalize a.eval=f at *
 go_simp
theorem q654{n:Int}(hx:a.eval (.tmp x) = .int .u64 n)(h0:0≤n)(h1:n < 65536) :
 (execOp a.eval {dst:=d,op := .convert 66 3 (.tmp x),type:=3,pos:=p,after:=af,guard:=gd}).run Tryz.prog w = .ok (.value (.int .i64 n)) w:=by
 generalize a.eval=f at *
 go_simp
 rw[IntKind.wrap_i64];omega
theorem quib{D:Array Value}{k i:Int}(hx:a.eval (.tmp x) = .int .i64 k)(hy:a.eval (.tmp y) = .int .i64 i)(hD:pkC {Pk.zero with kind:=k,id:=i} adZ=D) :
 (execOp a.eval {dst:=d,op := .build 29 #[(0,.tmp x),(4,.tmp y)],type:=29,pos:=p,after:=af,guard:=gd}).run Tryz.prog w = .ok (.value (.agg D)) w:=by
 generalize a.eval=f at *
 go_simp
 exact hD
theorem q2e0{g:Nat}{D old:Array Value}(hx:a.eval (.tmp x) = .pointer (some ⟨g,0,none⟩))(hy:a.eval (.tmp y) = .agg D)(hD:D.size=25)(h1:D.all (·.oneCell')=true)(hg:w.heap[g]? = some (.cells old 29 (0,0)))(ho:old.size=25) :
 (execOp a.eval {dst:=d,op := .store 29 (.tmp x) (.tmp y),type:=r,pos:=p,after:=af,guard:=gd}).run Tryz.prog w = .ok .skip (w.setRow g D):=by
 unfold execOp
 simp only[hx,hy,Instr.storeAt,Instr.sureAddr,Sem.run_bind,Sem.run_pure,Result.andThen_ok,run_storeVar_row w g 29 29 old D hg (by rw[hD];exact q5nr) (by rw[ho,hD]) h1]
end
theorem q3p3{Q:Exit→Act→World→Prop}{S:XG→World→Prop}{W:World}{B cb:Nat}{kind i:Int}{D:Array Value}{x0 x2 x3 x4 x5 x6 x7 x8 x9 x10 x11 x12 x13 x14 x15 x16 x17 x18 x19 x20 x21 x22 x23:Value}
 (hS:S (false,none,false) W.drew) (hD:D.size=25) (hD1:D.all (·.oneCell')=true) (hDb:pkC {Pk.zero with kind:=kind,id:=i} adZ=D) (i0:0≤i) (i1:i < 65536)
 (K0:∀x w,S x w→w.cell? ⟨B,0,none⟩=some (.pointer (some ⟨cb,0,none⟩))) (K2:∀x w,S x w→w.cell? ⟨B,2,none⟩=some (.int .i64 kind))
 (H0:∀g w,S (false,g,false) w→Calls Tryz.prog 79 #[(.pointer (some ⟨cb,0,none⟩)),.int .i64 2] w fun e w'=>e = .returned (.int .u64 i)∧S (true,g,false) w')
 (H1:∀n w,S (n,none,false) w→S (n,some w.heap.size,false) (w.alloc (.cells pkZ 29)))
 (H2:∀g w,S (true,some g,false) w→w.heap[g]? = some (.cells pkZ 29 (0,0))∧S (true,some g,true) (w.setRow g D))
 (fin:∀g w,S (true,some g,true) w→Q .normal ⟨#[x0,(.pointer (some ⟨B,0,none⟩)),x2,(.pointer (some ⟨g,0,none⟩)),(.pointer (some ⟨B,2,none⟩)),(.int .i64 kind),(.pointer (some ⟨B,0,none⟩)),(.pointer (some ⟨cb,0,none⟩)),(.int .u64 i),(.int .i64 i),(.agg D),x11,x12,x13,x14,x15,x16,x17,x18,x19,x20,x21,x22,x23],[]⟩ w) :
 (Code.region 1 (qfhu.opsAt 1 Tryz.f37.body) true).wp Tryz.prog Q ⟨#[x0,(.pointer (some ⟨B,0,none⟩)),x2,x3,x4,x5,x6,x7,x8,x9,x10,x11,x12,x13,x14,x15,x16,x17,x18,x19,x20,x21,x22,x23],[]⟩ W:=by
 refine qu7n.wp (fresh:=fun i x=>(i=4→xn x=false)∧(i=7→xa x=none)∧(i≤8→i=4∨i=7∨i=8→xs x=false)) (hf0:=fun i=>⟨fun _=>rfl,fun _=>rfl,fun _ _=>rfl⟩) (x:=(false,none,false)) (S:=S) (made:=fun i x=>(i=4→xn x=true)∧(i=7→(xa x).isSome=true)∧(i=8→xs x=true)) (war:=[]) (ds:=[4,5,6,7,8,9,10,3]) (A:=[x0,(.pointer (some ⟨B,0,none⟩)),x2,x3,x4,x5,x6,x7,x8,x9,x10,x11,x12,x13,x14,x15,x16,x17,x18,x19,x20,x21,x22,x23]) (B:=fun x=>[x0,(.pointer (some ⟨B,0,none⟩)),x2,(.pointer (some ⟨xg x,0,none⟩)),(.pointer (some ⟨B,2,none⟩)),(.int .i64 kind),(.pointer (some ⟨B,0,none⟩)),(.pointer (some ⟨cb,0,none⟩)),(.int .u64 i),(.int .i64 i),(.agg D),x11,x12,x13,x14,x15,x16,x17,x18,x19,x20,x21,x22,x23]) (D:=[]) (by kernel_rfl) (by kernel_rfl) (by kernel_rfl) ?_ hS ?_ (fun x w hm hS=>by
  obtain⟨n,g,s⟩:=x
  obtain rfl:n=true:=(hm 4 (by decide)).1 rfl
  obtain⟨g,rfl⟩:=Option.isSome_iff_exists.1 ((hm 7 (by decide)).2.1 rfl:g.isSome=true)
  obtain rfl:s=true:=(hm 8 (by decide)).2.2 rfl
  exact fin g w hS)
 ·exact fun x=>(by repeat (first | exact trivial | refine⟨.inr rfl,?_⟩ | refine⟨.inl rfl,?_⟩))
 refine q2y4.All.step rfl (qu7n.Does.pure (val:=fun x=>(.pointer (some ⟨B,2,none⟩))) rfl (fun x=>⟨fun h=>absurd h (by decide),fun h=>absurd h (by decide),fun h=>absurd h (by decide)⟩) (fun x w hm hS=>⟨rfl,rfl,qxjc rfl⟩)) ?_
 refine q2y4.All.step rfl (qu7n.Does.pure (val:=fun x=>(.int .i64 kind)) rfl (fun x=>⟨fun h=>absurd h (by decide),fun h=>absurd h (by decide),fun h=>absurd h (by decide)⟩) (fun x w hm hS=>⟨rfl,rfl,qkcv rfl (K2 x w hS)⟩)) ?_
 refine q2y4.All.step rfl (qu7n.Does.pure (val:=fun x=>(.pointer (some ⟨B,0,none⟩))) rfl (fun x=>⟨fun h=>absurd h (by decide),fun h=>absurd h (by decide),fun h=>absurd h (by decide)⟩) (fun x w hm hS=>⟨rfl,rfl,qxwk rfl⟩)) ?_
 refine q2y4.All.step rfl (qu7n.Does.pure (val:=fun x=>(.pointer (some ⟨cb,0,none⟩))) rfl (fun x=>⟨fun h=>absurd h (by decide),fun h=>absurd h (by decide),fun h=>absurd h (by decide)⟩) (fun x w hm hS=>⟨rfl,rfl,qswu rfl (K0 x w hS)⟩)) ?_
 refine q2y4.All.step rfl (fun x w hp hf hS => .inl ⟨rfl,.call _ _ (qpjl.enter2 Tryz.func79 rfl rfl rfl) (by
  obtain⟨n,g,s⟩:=x
  obtain rfl:n=false:=hf.1 rfl
  obtain rfl:s=false:=hf.2.2 (by decide) (by decide)
  exact(H0 g w hS).mono fun e w' ⟨he,h1⟩=>⟨_,(true,g,false),he,(fun d hd=>by cases hd;rfl),h1,⟨fun _=>rfl,fun h=>absurd h (by decide),fun h=>absurd h (by decide)⟩,(fun i h=>⟨fun _=>rfl,h.2.1,h.2.2⟩),(fun i hi h=>⟨fun e=>absurd e hi,h.2.1,h.2.2⟩),[],rfl,q2y4.off_refl 0 _⟩)⟩) ?_
 refine q2y4.All.step rfl (qu7n.Does.pure (val:=fun x=>(.int .i64 i)) rfl (fun x=>⟨fun h=>absurd h (by decide),fun h=>absurd h (by decide),fun h=>absurd h (by decide)⟩) (fun x w hm hS=>⟨rfl,rfl,q654 rfl i0 i1⟩)) ?_
 refine q2y4.All.step rfl (qu7n.Does.pure (val:=fun x=>(.agg D)) rfl (fun x=>⟨fun h=>absurd h (by decide),fun h=>absurd h (by decide),fun h=>absurd h (by decide)⟩) (fun x w hm hS=>⟨rfl,rfl,quib rfl rfl hDb⟩)) ?_
 refine q2y4.All.step rfl (fun x w hp hf hS => .inl ⟨rfl,.value _ (xn x,some w.heap.size,false) _ q0mg (by
  obtain⟨n,g,s⟩:=x
  obtain rfl:g=none:=hf.2.1 rfl
  obtain rfl:s=false:=hf.2.2 (by decide) (by decide)
  exact⟨(fun d hd=>by cases hd;rfl),H1 n w hS,⟨fun h=>absurd h (by decide),fun _=>rfl,fun h=>absurd h (by decide)⟩,(fun i h=>⟨h.1,fun _=>rfl,h.2.2⟩),(fun i hi h=>⟨h.1,fun e=>absurd e hi,h.2.2⟩),[3],by kernel_rfl,(by repeat (first | exact trivial | refine⟨.inr rfl,?_⟩ | refine⟨.inl rfl,?_⟩))⟩)⟩) ?_
 refine q2y4.All.step rfl (fun x w hp hf hS=>by
  obtain⟨n,g,s⟩:=x
  obtain rfl:n=true:=(hp 4 (by decide+kernel) (by decide)).1 rfl
  obtain⟨g,rfl⟩:=Option.isSome_iff_exists.1 ((hp 7 (by decide+kernel) (by decide)).2.1 rfl:g.isSome=true)
  obtain rfl:s=false:=hf.2.2 (by decide) (by decide)
  obtain⟨h1,h2⟩:=H2 g w hS
  exact .inl ⟨rfl,.skip (true,some g,true) _ (q2e0 rfl rfl hD hD1 h1 qbwp) ⟨(fun d hd=>by cases hd),h2,⟨fun _=>rfl,fun _=>rfl,fun _=>rfl⟩,(fun i h=>⟨fun _=>rfl,fun _=>rfl,fun _=>rfl⟩),(fun i hi h=>⟨h.1,h.2.1,fun _ e=>by
   rcases e with rfl | rfl | rfl
   ·exact absurd (h.1 rfl) (by simp[xn])
   ·exact absurd (h.2.1 rfl) (by simp[xa])
   ·exact absurd rfl hi⟩),[],rfl,q2y4.off_refl 0 _⟩⟩) ?_
 exact q2y4.All.fin rfl
def q2v7(p:Pk)(a:Ad):Array Value:=#[.string (bs p.wTopic),.string (bs p.wPayload),.int .i64 p.wQos,.bool p.wRetain,.slice a.w p.wProps.length a.wc]
theorem qfa9{p q:Pk}{α:Type}(f:Pk→α)(h:f p≠f q):decide (p=q)=false:=decide_eq_false fun e=>h (by rw[e])
theorem qkl7(p q:Pk)(a b:Ad)(w:World)(hp:PkAt w p a)(hq:PkAt w q b)(sp:q21o p)(sq:q21o q) :
 Calls Tryz.prog 66 #[pkV p a,pkV q b] w fun e w'=>e = .returned (.bool (decide (p=q)))∧Below w.heap.size w w':=by
 have S0:SmS w p a q b ((w.alloc (.cells (pkC p a) 29)).alloc (.cells (pkC q b) 29)):=⟨qxh2 (qybm _) (qybm _),heap_alloc2_old _ _ _,heap_alloc2_new _ _ _⟩
 unfold q21o at sp sq
 have WP:=Lib.hid (fun W (h:SmS w p a q b W)=>q8eh a.w b.w _ _ a.wc b.wc p.wProps q.wProps W (hp.w.below h.low) (hq.w.below h.low) rfl rfl (by omega) (by omega))
 have CP:=Lib.hid (fun W (h:SmS w p a q b W)=>qjlq a.cs b.cs _ _ a.cc b.cc p.codes q.codes W (hp.cs.below h.low) (hq.cs.below h.low) rfl rfl (by omega) (by omega))
 have FP:=Lib.hid (fun W (h:SmS w p a q b W)=>qogp a.fs b.fs _ _ a.fc b.fc p.filters q.filters W (hp.fs.below h.low) (hq.fs.below h.low) rfl rfl (by omega) (by omega))
 have PP:=Lib.hid (fun W (h:SmS w p a q b W)=>q8eh a.ps b.ps _ _ a.pc b.pc p.props q.props W (hp.ps.below h.low) (hq.ps.below h.low) rfl rfl (by omega) (by omega))
 have CC:=Lib.hid (show ∀(x:Pk) (c:Ad) (B:Nat) (j:Nat) (u:Value) (W:World),W.heap[B]? = some (.cells (pkC x c) 29 (0,0))→(pkC x c)[j]? = some u→W.cell? ⟨B,j,none⟩=some u from fun x c B j u W h hu=>(cell_of_row _ _ j _ _ _ h).trans hu)
 have HS0:=Lib.hid S0
 have HI:=Lib.hid (fun(h:p.nums=q.nums∧p.marks=q.marks∧p.texts=q.texts∧p.codes=q.codes∧p.filters=q.filters∧p.props=q.props∧p.wProps=q.wProps)=>(qpgn p q).2 h)
 clear S0 hp hq sp sq
 obtain⟨D,hD⟩:∃D,decide (p=q)=D:=⟨_,rfl⟩
 rw[hD]
 have HD:=Lib.hid hD
 clear hD
 unfold pkV
 have P0:((w.alloc (.cells (pkC p a) 29)).alloc (.cells (pkC q b) 29)).cell? ⟨w.heap.size,15,none⟩=some (.string (bs p.wTopic)):=CC.out p a _ 15 _ _ HS0.out.p rfl
 have P1:((w.alloc (.cells (pkC p a) 29)).alloc (.cells (pkC q b) 29)).cell? ⟨w.heap.size,16,none⟩=some (.string (bs p.wPayload)):=CC.out p a _ 16 _ _ HS0.out.p rfl
 have P2:((w.alloc (.cells (pkC p a) 29)).alloc (.cells (pkC q b) 29)).cell? ⟨w.heap.size,17,none⟩=some (.int .i64 p.wQos):=CC.out p a _ 17 _ _ HS0.out.p rfl
 have P3:((w.alloc (.cells (pkC p a) 29)).alloc (.cells (pkC q b) 29)).cell? ⟨w.heap.size,18,none⟩=some (.bool p.wRetain):=CC.out p a _ 18 _ _ HS0.out.p rfl
 have P4:((w.alloc (.cells (pkC p a) 29)).alloc (.cells (pkC q b) 29)).cell? ⟨w.heap.size,19,none⟩=some (.slice a.w p.wProps.length a.wc):=CC.out p a _ 19 _ _ HS0.out.p rfl
 have Q0:((w.alloc (.cells (pkC p a) 29)).alloc (.cells (pkC q b) 29)).cell? ⟨w.heap.size+1,15,none⟩=some (.string (bs q.wTopic)):=CC.out q b _ 15 _ _ HS0.out.q rfl
 have Q1:((w.alloc (.cells (pkC p a) 29)).alloc (.cells (pkC q b) 29)).cell? ⟨w.heap.size+1,16,none⟩=some (.string (bs q.wPayload)):=CC.out q b _ 16 _ _ HS0.out.q rfl
 have Q2:((w.alloc (.cells (pkC p a) 29)).alloc (.cells (pkC q b) 29)).cell? ⟨w.heap.size+1,17,none⟩=some (.int .i64 q.wQos):=CC.out q b _ 17 _ _ HS0.out.q rfl
 have Q3:((w.alloc (.cells (pkC p a) 29)).alloc (.cells (pkC q b) 29)).cell? ⟨w.heap.size+1,18,none⟩=some (.bool q.wRetain):=CC.out q b _ 18 _ _ HS0.out.q rfl
 have Q4:((w.alloc (.cells (pkC p a) 29)).alloc (.cells (pkC q b) 29)).cell? ⟨w.heap.size+1,19,none⟩=some (.slice b.w q.wProps.length b.wc):=CC.out q b _ 19 _ _ HS0.out.q rfl
 have hsz:((w.alloc (.cells (pkC p a) 29)).alloc (.cells (pkC q b) 29)).heap.size=w.heap.size+2:=by simp
 have HSZ:=Lib.hid hsz
 clear hsz
 generalize hw0:(w.alloc (.cells (pkC p a) 29)).alloc (.cells (pkC q b) 29)=w0 at *
 have HW:=Lib.hid hw0
 clear hw0
 have g1:w.heap.size+1 < w0.heap.size:=by have:=HSZ.out;omega
 have g0:w.heap.size < w0.heap.size:=by have:=HSZ.out;omega
 go_enter Tryz.func66,Tryz.ntmps66
 go_upto_region 1 with fail
 rw[HW.out]
 go_cut [5,6] (fun s5 s6 wx=>∃X Y:Nat,s5 = .pointer (some ⟨X,0,none⟩)∧s6 = .pointer (some ⟨Y,0,none⟩)∧wx.heap[X]? = some (.cells (q2v7 p a) 25 (0,0))∧wx.heap[Y]? = some (.cells (q2v7 q b) 25 (0,0))∧SmS w p a q b wx)
 case first=>
  have SX:∀o o' n,SmS w p a q b (((w0.alloc o).alloc o').drewN n):=fun o o' n=>HS0.out.call (qnpu (qxh2 (qybm _) (qybm _)) n)
  have HX:=Lib.hid SX
  clear SX
  go_region
  ·go_wp2_with fail
   go_meet
   exact⟨_,_,rfl,rfl,heap_alloc2_old w0 _ _,heap_alloc2_new w0 _ _,HX.out _ _ 1⟩
  ·go_wp2_with fail
   go_meet
   exact⟨_,_,rfl,rfl,heap_alloc2_new w0 _ _,heap_alloc2_old w0 _ _,HX.out _ _ 1⟩
 case rest=>
  obtain⟨X,Y,rfl,rfl,hX,hY,hS⟩:=hcut
  have GX:=Lib.hid hX
  have GY:=Lib.hid hY
  have SS:=Lib.hid hS
  clear P0 P1 P2 P3 P4 Q0 Q1 Q2 Q3 Q4 g0 g1 hX hY hS
  have x0:wc.cell? ⟨X,0,none⟩=some (.string (bs p.wTopic)):=cell_of_row _ _ 0 _ _ _ GX.out
  have y0:wc.cell? ⟨Y,0,none⟩=some (.string (bs q.wTopic)):=cell_of_row _ _ 0 _ _ _ GY.out
  have x1:wc.cell? ⟨X,1,none⟩=some (.string (bs p.wPayload)):=cell_of_row _ _ 1 _ _ _ GX.out
  have y1:wc.cell? ⟨Y,1,none⟩=some (.string (bs q.wPayload)):=cell_of_row _ _ 1 _ _ _ GY.out
  have x2:wc.cell? ⟨X,2,none⟩=some (.int .i64 p.wQos):=cell_of_row _ _ 2 _ _ _ GX.out
  have y2:wc.cell? ⟨Y,2,none⟩=some (.int .i64 q.wQos):=cell_of_row _ _ 2 _ _ _ GY.out
  have x3:wc.cell? ⟨X,3,none⟩=some (.bool p.wRetain):=cell_of_row _ _ 3 _ _ _ GX.out
  have y3:wc.cell? ⟨Y,3,none⟩=some (.bool q.wRetain):=cell_of_row _ _ 3 _ _ _ GY.out
  have x4:wc.cell? ⟨X,4,none⟩=some (.slice a.w p.wProps.length a.wc):=cell_of_row _ _ 4 _ _ _ GX.out
  have y4:wc.cell? ⟨Y,4,none⟩=some (.slice b.w q.wProps.length b.wc):=cell_of_row _ _ 4 _ _ _ GY.out
  by_cases e_wTopic:p.wTopic=q.wTopic
  ·rw[←e_wTopic] at y0
   have E_wTopic:=Lib.hid e_wTopic
   clear e_wTopic
   by_cases e_wPayload:p.wPayload=q.wPayload
   ·rw[←e_wPayload] at y1
    have E_wPayload:=Lib.hid e_wPayload
    clear e_wPayload
    by_cases e_wQos:p.wQos=q.wQos
    ·rw[←e_wQos] at y2
     have E_wQos:=Lib.hid e_wQos
     clear e_wQos
     by_cases e_wRetain:p.wRetain=q.wRetain
     ·rw[←e_wRetain] at y3
      have E_wRetain:=Lib.hid e_wRetain
      clear e_wRetain
      by_cases e_wProps:p.wProps=q.wProps
      ·have WQ:=Lib.hid (WP.out _ SS.out)
       rw[decide_eq_true e_wProps] at WQ
       have E_wProps:=Lib.hid e_wProps
       clear e_wProps
       have L0:=Lib.hid SS.out
       generalize bs p.wTopic=u_wTopic at x0 y0
       generalize bs p.wPayload=u_wPayload at x1 y1
       generalize p.wQos=u_wQos at x2 y2
       generalize p.wRetain=u_wRetain at x3 y3
       go_wp2_with fail
       refine(WQ.out).mono ?_
       rintro e w1 ⟨rfl,m,hw1⟩
       have S1:=Lib.hid (show SmS w p a q b w1 by rw[hw1];exact SS.out.call (qnpu (Below.refl _ _) m))
       clear hw1 x0 x1 x2 x3 x4 y0 y1 y2 y3 y4
       have x0:w1.cell? ⟨w.heap.size,0,none⟩=some (.int .i64 p.kind):=CC.out p a _ 0 _ _ S1.out.p rfl
       have y0:w1.cell? ⟨w.heap.size+1,0,none⟩=some (.int .i64 q.kind):=CC.out q b _ 0 _ _ S1.out.q rfl
       have x1:w1.cell? ⟨w.heap.size,1,none⟩=some (.bool p.dup):=CC.out p a _ 1 _ _ S1.out.p rfl
       have y1:w1.cell? ⟨w.heap.size+1,1,none⟩=some (.bool q.dup):=CC.out q b _ 1 _ _ S1.out.q rfl
       have x2:w1.cell? ⟨w.heap.size,2,none⟩=some (.bool p.retain):=CC.out p a _ 2 _ _ S1.out.p rfl
       have y2:w1.cell? ⟨w.heap.size+1,2,none⟩=some (.bool q.retain):=CC.out q b _ 2 _ _ S1.out.q rfl
       have x3:w1.cell? ⟨w.heap.size,3,none⟩=some (.int .i64 p.qos):=CC.out p a _ 3 _ _ S1.out.p rfl
       have y3:w1.cell? ⟨w.heap.size+1,3,none⟩=some (.int .i64 q.qos):=CC.out q b _ 3 _ _ S1.out.q rfl
       have x4:w1.cell? ⟨w.heap.size,4,none⟩=some (.int .i64 p.id):=CC.out p a _ 4 _ _ S1.out.p rfl
       have y4:w1.cell? ⟨w.heap.size+1,4,none⟩=some (.int .i64 q.id):=CC.out q b _ 4 _ _ S1.out.q rfl
       have x5:w1.cell? ⟨w.heap.size,5,none⟩=some (.string (bs p.topic)):=CC.out p a _ 5 _ _ S1.out.p rfl
       have y5:w1.cell? ⟨w.heap.size+1,5,none⟩=some (.string (bs q.topic)):=CC.out q b _ 5 _ _ S1.out.q rfl
       have x6:w1.cell? ⟨w.heap.size,6,none⟩=some (.string (bs p.payload)):=CC.out p a _ 6 _ _ S1.out.p rfl
       have y6:w1.cell? ⟨w.heap.size+1,6,none⟩=some (.string (bs q.payload)):=CC.out q b _ 6 _ _ S1.out.q rfl
       have x7:w1.cell? ⟨w.heap.size,7,none⟩=some (.bool p.clean):=CC.out p a _ 7 _ _ S1.out.p rfl
       have y7:w1.cell? ⟨w.heap.size+1,7,none⟩=some (.bool q.clean):=CC.out q b _ 7 _ _ S1.out.q rfl
       have x8:w1.cell? ⟨w.heap.size,8,none⟩=some (.int .i64 p.keep):=CC.out p a _ 8 _ _ S1.out.p rfl
       have y8:w1.cell? ⟨w.heap.size+1,8,none⟩=some (.int .i64 q.keep):=CC.out q b _ 8 _ _ S1.out.q rfl
       have x9:w1.cell? ⟨w.heap.size,9,none⟩=some (.string (bs p.client)):=CC.out p a _ 9 _ _ S1.out.p rfl
       have y9:w1.cell? ⟨w.heap.size+1,9,none⟩=some (.string (bs q.client)):=CC.out q b _ 9 _ _ S1.out.q rfl
       have x10:w1.cell? ⟨w.heap.size,10,none⟩=some (.bool p.hasUser):=CC.out p a _ 10 _ _ S1.out.p rfl
       have y10:w1.cell? ⟨w.heap.size+1,10,none⟩=some (.bool q.hasUser):=CC.out q b _ 10 _ _ S1.out.q rfl
       have x11:w1.cell? ⟨w.heap.size,11,none⟩=some (.string (bs p.user)):=CC.out p a _ 11 _ _ S1.out.p rfl
       have y11:w1.cell? ⟨w.heap.size+1,11,none⟩=some (.string (bs q.user)):=CC.out q b _ 11 _ _ S1.out.q rfl
       have x12:w1.cell? ⟨w.heap.size,12,none⟩=some (.bool p.hasPass):=CC.out p a _ 12 _ _ S1.out.p rfl
       have y12:w1.cell? ⟨w.heap.size+1,12,none⟩=some (.bool q.hasPass):=CC.out q b _ 12 _ _ S1.out.q rfl
       have x13:w1.cell? ⟨w.heap.size,13,none⟩=some (.string (bs p.pass)):=CC.out p a _ 13 _ _ S1.out.p rfl
       have y13:w1.cell? ⟨w.heap.size+1,13,none⟩=some (.string (bs q.pass)):=CC.out q b _ 13 _ _ S1.out.q rfl
       have x14:w1.cell? ⟨w.heap.size,14,none⟩=some (.bool p.hasWill):=CC.out p a _ 14 _ _ S1.out.p rfl
       have y14:w1.cell? ⟨w.heap.size+1,14,none⟩=some (.bool q.hasWill):=CC.out q b _ 14 _ _ S1.out.q rfl
       have x20:w1.cell? ⟨w.heap.size,20,none⟩=some (.bool p.session):=CC.out p a _ 20 _ _ S1.out.p rfl
       have y20:w1.cell? ⟨w.heap.size+1,20,none⟩=some (.bool q.session):=CC.out q b _ 20 _ _ S1.out.q rfl
       have x21:w1.cell? ⟨w.heap.size,21,none⟩=some (.int .i64 p.code):=CC.out p a _ 21 _ _ S1.out.p rfl
       have y21:w1.cell? ⟨w.heap.size+1,21,none⟩=some (.int .i64 q.code):=CC.out q b _ 21 _ _ S1.out.q rfl
       have x22:w1.cell? ⟨w.heap.size,22,none⟩=some (.slice a.cs p.codes.length a.cc):=CC.out p a _ 22 _ _ S1.out.p rfl
       have y22:w1.cell? ⟨w.heap.size+1,22,none⟩=some (.slice b.cs q.codes.length b.cc):=CC.out q b _ 22 _ _ S1.out.q rfl
       have x23:w1.cell? ⟨w.heap.size,23,none⟩=some (.slice a.fs p.filters.length a.fc):=CC.out p a _ 23 _ _ S1.out.p rfl
       have y23:w1.cell? ⟨w.heap.size+1,23,none⟩=some (.slice b.fs q.filters.length b.fc):=CC.out q b _ 23 _ _ S1.out.q rfl
       have x24:w1.cell? ⟨w.heap.size,24,none⟩=some (.slice a.ps p.props.length a.pc):=CC.out p a _ 24 _ _ S1.out.p rfl
       have y24:w1.cell? ⟨w.heap.size+1,24,none⟩=some (.slice b.ps q.props.length b.pc):=CC.out q b _ 24 _ _ S1.out.q rfl
       by_cases e_kind:p.kind=q.kind
       ·rw[←e_kind] at y0
        have E_kind:=Lib.hid e_kind
        clear e_kind
        by_cases e_dup:p.dup=q.dup
        ·rw[←e_dup] at y1
         have E_dup:=Lib.hid e_dup
         clear e_dup
         by_cases e_retain:p.retain=q.retain
         ·rw[←e_retain] at y2
          have E_retain:=Lib.hid e_retain
          clear e_retain
          by_cases e_qos:p.qos=q.qos
          ·rw[←e_qos] at y3
           have E_qos:=Lib.hid e_qos
           clear e_qos
           by_cases e_id:p.id=q.id
           ·rw[←e_id] at y4
            have E_id:=Lib.hid e_id
            clear e_id
            by_cases e_topic:p.topic=q.topic
            ·rw[←e_topic] at y5
             have E_topic:=Lib.hid e_topic
             clear e_topic
             by_cases e_payload:p.payload=q.payload
             ·rw[←e_payload] at y6
              have E_payload:=Lib.hid e_payload
              clear e_payload
              by_cases e_clean:p.clean=q.clean
              ·rw[←e_clean] at y7
               have E_clean:=Lib.hid e_clean
               clear e_clean
               by_cases e_keep:p.keep=q.keep
               ·rw[←e_keep] at y8
                have E_keep:=Lib.hid e_keep
                clear e_keep
                by_cases e_client:p.client=q.client
                ·rw[←e_client] at y9
                 have E_client:=Lib.hid e_client
                 clear e_client
                 by_cases e_hasUser:p.hasUser=q.hasUser
                 ·rw[←e_hasUser] at y10
                  have E_hasUser:=Lib.hid e_hasUser
                  clear e_hasUser
                  by_cases e_user:p.user=q.user
                  ·rw[←e_user] at y11
                   have E_user:=Lib.hid e_user
                   clear e_user
                   by_cases e_hasPass:p.hasPass=q.hasPass
                   ·rw[←e_hasPass] at y12
                    have E_hasPass:=Lib.hid e_hasPass
                    clear e_hasPass
                    by_cases e_pass:p.pass=q.pass
                    ·rw[←e_pass] at y13
                     have E_pass:=Lib.hid e_pass
                     clear e_pass
                     by_cases e_hasWill:p.hasWill=q.hasWill
                     ·rw[←e_hasWill] at y14
                      have E_hasWill:=Lib.hid e_hasWill
                      clear e_hasWill
                      by_cases e_session:p.session=q.session
                      ·rw[←e_session] at y20
                       have E_session:=Lib.hid e_session
                       clear e_session
                       by_cases e_code:p.code=q.code
                       ·rw[←e_code] at y21
                        have E_code:=Lib.hid e_code
                        clear e_code
                        have HA:p.codes=q.codes→p.filters=q.filters→p.props=q.props→D=true:=fun h1 h2 h3=>by
                         rw[←HD.out]
                         refine decide_eq_true (HI.out ⟨?_,?_,?_,h1,h2,h3,E_wProps.out⟩)
                         ·simp only[Pk.nums,E_kind.out,E_qos.out,E_id.out,E_keep.out,E_code.out,E_wQos.out]
                         ·simp only[Pk.marks,E_dup.out,E_retain.out,E_clean.out,E_hasUser.out,E_hasPass.out,E_hasWill.out,E_session.out,E_wRetain.out]
                         ·simp only[Pk.texts,E_topic.out,E_payload.out,E_client.out,E_user.out,E_pass.out,E_wTopic.out,E_wPayload.out]
                        have HA:=Lib.hid HA
                        generalize p.kind=u_kind at x0 y0
                        generalize p.dup=u_dup at x1 y1
                        generalize p.retain=u_retain at x2 y2
                        generalize p.qos=u_qos at x3 y3
                        generalize p.id=u_id at x4 y4
                        generalize bs p.topic=u_topic at x5 y5
                        generalize bs p.payload=u_payload at x6 y6
                        generalize p.clean=u_clean at x7 y7
                        generalize p.keep=u_keep at x8 y8
                        generalize bs p.client=u_client at x9 y9
                        generalize p.hasUser=u_hasUser at x10 y10
                        generalize bs p.user=u_user at x11 y11
                        generalize p.hasPass=u_hasPass at x12 y12
                        generalize bs p.pass=u_pass at x13 y13
                        generalize p.hasWill=u_hasWill at x14 y14
                        generalize p.session=u_session at x20 y20
                        generalize p.code=u_code at x21 y21
                        by_cases e_codes:p.codes=q.codes
                        ·have K_codes:=Lib.hid (CP.out _ S1.out)
                         rw[decide_eq_true e_codes] at K_codes
                         have E_codes:=Lib.hid e_codes
                         clear e_codes
                         go_wp2_with fail
                         refine(K_codes.out).mono ?_
                         rintro e w2 ⟨rfl,m2,rfl⟩
                         have S2:=Lib.hid (S1.out.call (qnpu (Below.refl _ _) m2))
                         by_cases e_filters:p.filters=q.filters
                         ·have K_filters:=Lib.hid (FP.out _ S2.out)
                          rw[decide_eq_true e_filters] at K_filters
                          have E_filters:=Lib.hid e_filters
                          clear e_filters
                          go_wp2_with fail
                          refine(K_filters.out).mono ?_
                          rintro e w3 ⟨rfl,m3,rfl⟩
                          have S3:=Lib.hid (S2.out.call (qnpu (Below.refl _ _) m3))
                          by_cases e_props:p.props=q.props
                          ·have hd:D=true:=HA.out E_codes.out E_filters.out e_props
                           subst hd
                           have K_props:=Lib.hid (PP.out _ (S1.out.call (qnpu (Below.refl _ _) (m2+m3))))
                           rw[decide_eq_true e_props] at K_props
                           have E_props:=Lib.hid e_props
                           clear e_props
                           go_wp2_with fail
                           refine(K_props.out).mono ?_
                           rintro e w4 ⟨rfl,m4,rfl⟩
                           have S4:=Lib.hid (S3.out.call (qnpu (Below.refl _ _) m4))
                           go_wp2_with fail
                           go_ret
                           exact⟨rfl,(S1.out.call (qnpu (Below.refl _ _) _)).low⟩
                          ·have K_props:=Lib.hid (PP.out _ (S1.out.call (qnpu (Below.refl _ _) (m2+m3))))
                           rw[decide_eq_false e_props] at K_props
                           have E_props:=Lib.hid e_props
                           clear e_props
                           go_wp2_with fail
                           refine(K_props.out).mono ?_
                           rintro e w4 ⟨rfl,m4,rfl⟩
                           have S4:=Lib.hid (S3.out.call (qnpu (Below.refl _ _) m4))
                           have hd:D=false:=by rw[←HD.out];exact qfa9 (·.props) E_props.out
                           subst hd
                           go_wp2_with fail
                           go_ret
                           exact⟨rfl,(S1.out.call (qnpu (Below.refl _ _) _)).low⟩
                         ·have K_filters:=Lib.hid (FP.out _ S2.out)
                          rw[decide_eq_false e_filters] at K_filters
                          have E_filters:=Lib.hid e_filters
                          clear e_filters
                          go_wp2_with fail
                          refine(K_filters.out).mono ?_
                          rintro e w3 ⟨rfl,m3,rfl⟩
                          have S3:=Lib.hid (S2.out.call (qnpu (Below.refl _ _) m3))
                          have hd:D=false:=by rw[←HD.out];exact qfa9 (·.filters) E_filters.out
                          subst hd
                          go_wp2_with fail
                          go_ret
                          exact⟨rfl,(S1.out.call (qnpu (Below.refl _ _) _)).low⟩
                        ·have K_codes:=Lib.hid (CP.out _ S1.out)
                         rw[decide_eq_false e_codes] at K_codes
                         have E_codes:=Lib.hid e_codes
                         clear e_codes
                         go_wp2_with fail
                         refine(K_codes.out).mono ?_
                         rintro e w2 ⟨rfl,m2,rfl⟩
                         have S2:=Lib.hid (S1.out.call (qnpu (Below.refl _ _) m2))
                         have hd:D=false:=by rw[←HD.out];exact qfa9 (·.codes) E_codes.out
                         subst hd
                         go_wp2_with fail
                         go_ret
                         exact⟨rfl,(S1.out.call (qnpu (Below.refl _ _) _)).low⟩
                       ·have hd:D=false:=by rw[←HD.out];exact qfa9 (·.code) e_code
                        subst hd
                        have n0:(p.code==q.code)=false:=by rw[beq_eq_false_iff_ne];exact e_code
                        have n1:(p.code != q.code)=true:=by rw[bne_iff_ne];exact e_code
                        clear e_code
                        generalize bs p.client=u_client at x9 y9
                        generalize p.hasUser=u_hasUser at x10 y10
                        generalize bs p.user=u_user at x11 y11
                        generalize p.hasPass=u_hasPass at x12 y12
                        generalize bs p.pass=u_pass at x13 y13
                        generalize p.hasWill=u_hasWill at x14 y14
                        generalize p.session=u_session at x20 y20
                        generalize p.code=u_code at x21 n0 n1
                        generalize q.code=v_code at y21 n0 n1
                        go_wp2_with fail
                        go_ret
                        exact⟨rfl,S1.out.low⟩
                      ·have hd:D=false:=by rw[←HD.out];exact qfa9 (·.session) e_session
                       subst hd
                       have n0:(p.session==q.session)=false:=by rw[beq_eq_false_iff_ne];exact e_session
                       have n1:(p.session != q.session)=true:=by rw[bne_iff_ne];exact e_session
                       clear e_session
                       generalize bs p.client=u_client at x9 y9
                       generalize p.hasUser=u_hasUser at x10 y10
                       generalize bs p.user=u_user at x11 y11
                       generalize p.hasPass=u_hasPass at x12 y12
                       generalize bs p.pass=u_pass at x13 y13
                       generalize p.hasWill=u_hasWill at x14 y14
                       generalize p.session=u_session at x20 n0 n1
                       generalize q.session=v_session at y20 n0 n1
                       go_wp2_with fail
                       go_ret
                       exact⟨rfl,S1.out.low⟩
                     ·have hd:D=false:=by rw[←HD.out];exact qfa9 (·.hasWill) e_hasWill
                      subst hd
                      have n0:(p.hasWill==q.hasWill)=false:=by rw[beq_eq_false_iff_ne];exact e_hasWill
                      have n1:(p.hasWill != q.hasWill)=true:=by rw[bne_iff_ne];exact e_hasWill
                      clear e_hasWill
                      generalize bs p.client=u_client at x9 y9
                      generalize p.hasUser=u_hasUser at x10 y10
                      generalize bs p.user=u_user at x11 y11
                      generalize p.hasPass=u_hasPass at x12 y12
                      generalize bs p.pass=u_pass at x13 y13
                      generalize p.hasWill=u_hasWill at x14 n0 n1
                      generalize q.hasWill=v_hasWill at y14 n0 n1
                      go_wp2_with fail
                      go_ret
                      exact⟨rfl,S1.out.low⟩
                    ·have hd:D=false:=by rw[←HD.out];exact qfa9 (·.pass) e_pass
                     subst hd
                     have n0:((bs p.pass).toList==(bs q.pass).toList)=false:=by rw[q0c6,q0c6,beq_eq_false_iff_ne];exact e_pass
                     have n1:((bs p.pass).toList != (bs q.pass).toList)=true:=by rw[q0c6,q0c6,bne_iff_ne];exact e_pass
                     clear e_pass
                     generalize bs p.client=u_client at x9 y9
                     generalize p.hasUser=u_hasUser at x10 y10
                     generalize bs p.user=u_user at x11 y11
                     generalize p.hasPass=u_hasPass at x12 y12
                     generalize bs p.pass=u_pass at x13 n0 n1
                     generalize bs q.pass=v_pass at y13 n0 n1
                     go_wp2_with fail
                     go_ret
                     exact⟨rfl,S1.out.low⟩
                   ·have hd:D=false:=by rw[←HD.out];exact qfa9 (·.hasPass) e_hasPass
                    subst hd
                    have n0:(p.hasPass==q.hasPass)=false:=by rw[beq_eq_false_iff_ne];exact e_hasPass
                    have n1:(p.hasPass != q.hasPass)=true:=by rw[bne_iff_ne];exact e_hasPass
                    clear e_hasPass
                    generalize bs p.client=u_client at x9 y9
                    generalize p.hasUser=u_hasUser at x10 y10
                    generalize bs p.user=u_user at x11 y11
                    generalize p.hasPass=u_hasPass at x12 n0 n1
                    generalize q.hasPass=v_hasPass at y12 n0 n1
                    go_wp2_with fail
                    go_ret
                    exact⟨rfl,S1.out.low⟩
                  ·have hd:D=false:=by rw[←HD.out];exact qfa9 (·.user) e_user
                   subst hd
                   have n0:((bs p.user).toList==(bs q.user).toList)=false:=by rw[q0c6,q0c6,beq_eq_false_iff_ne];exact e_user
                   have n1:((bs p.user).toList != (bs q.user).toList)=true:=by rw[q0c6,q0c6,bne_iff_ne];exact e_user
                   clear e_user
                   generalize bs p.client=u_client at x9 y9
                   generalize p.hasUser=u_hasUser at x10 y10
                   generalize bs p.user=u_user at x11 n0 n1
                   generalize bs q.user=v_user at y11 n0 n1
                   go_wp2_with fail
                   go_ret
                   exact⟨rfl,S1.out.low⟩
                 ·have hd:D=false:=by rw[←HD.out];exact qfa9 (·.hasUser) e_hasUser
                  subst hd
                  have n0:(p.hasUser==q.hasUser)=false:=by rw[beq_eq_false_iff_ne];exact e_hasUser
                  have n1:(p.hasUser != q.hasUser)=true:=by rw[bne_iff_ne];exact e_hasUser
                  clear e_hasUser
                  generalize bs p.client=u_client at x9 y9
                  generalize p.hasUser=u_hasUser at x10 n0 n1
                  generalize q.hasUser=v_hasUser at y10 n0 n1
                  go_wp2_with fail
                  go_ret
                  exact⟨rfl,S1.out.low⟩
                ·have hd:D=false:=by rw[←HD.out];exact qfa9 (·.client) e_client
                 subst hd
                 have n0:((bs p.client).toList==(bs q.client).toList)=false:=by rw[q0c6,q0c6,beq_eq_false_iff_ne];exact e_client
                 have n1:((bs p.client).toList != (bs q.client).toList)=true:=by rw[q0c6,q0c6,bne_iff_ne];exact e_client
                 clear e_client
                 generalize bs p.client=u_client at x9 n0 n1
                 generalize bs q.client=v_client at y9 n0 n1
                 go_wp2_with fail
                 go_ret
                 exact⟨rfl,S1.out.low⟩
               ·have hd:D=false:=by rw[←HD.out];exact qfa9 (·.keep) e_keep
                subst hd
                have n0:(p.keep==q.keep)=false:=by rw[beq_eq_false_iff_ne];exact e_keep
                have n1:(p.keep != q.keep)=true:=by rw[bne_iff_ne];exact e_keep
                clear e_keep
                generalize p.kind=u_kind at x0 y0
                generalize p.dup=u_dup at x1 y1
                generalize p.retain=u_retain at x2 y2
                generalize p.qos=u_qos at x3 y3
                generalize p.id=u_id at x4 y4
                generalize bs p.topic=u_topic at x5 y5
                generalize bs p.payload=u_payload at x6 y6
                generalize p.clean=u_clean at x7 y7
                generalize p.keep=u_keep at x8 n0 n1
                generalize q.keep=v_keep at y8 n0 n1
                go_wp2_with fail
                go_ret
                exact⟨rfl,S1.out.low⟩
              ·have hd:D=false:=by rw[←HD.out];exact qfa9 (·.clean) e_clean
               subst hd
               have n0:(p.clean==q.clean)=false:=by rw[beq_eq_false_iff_ne];exact e_clean
               have n1:(p.clean != q.clean)=true:=by rw[bne_iff_ne];exact e_clean
               clear e_clean
               generalize p.kind=u_kind at x0 y0
               generalize p.dup=u_dup at x1 y1
               generalize p.retain=u_retain at x2 y2
               generalize p.qos=u_qos at x3 y3
               generalize p.id=u_id at x4 y4
               generalize bs p.topic=u_topic at x5 y5
               generalize bs p.payload=u_payload at x6 y6
               generalize p.clean=u_clean at x7 n0 n1
               generalize q.clean=v_clean at y7 n0 n1
               go_wp2_with fail
               go_ret
               exact⟨rfl,S1.out.low⟩
             ·have hd:D=false:=by rw[←HD.out];exact qfa9 (·.payload) e_payload
              subst hd
              have n0:((bs p.payload).toList==(bs q.payload).toList)=false:=by rw[q0c6,q0c6,beq_eq_false_iff_ne];exact e_payload
              have n1:((bs p.payload).toList != (bs q.payload).toList)=true:=by rw[q0c6,q0c6,bne_iff_ne];exact e_payload
              clear e_payload
              generalize p.kind=u_kind at x0 y0
              generalize p.dup=u_dup at x1 y1
              generalize p.retain=u_retain at x2 y2
              generalize p.qos=u_qos at x3 y3
              generalize p.id=u_id at x4 y4
              generalize bs p.topic=u_topic at x5 y5
              generalize bs p.payload=u_payload at x6 n0 n1
              generalize bs q.payload=v_payload at y6 n0 n1
              go_wp2_with fail
              go_ret
              exact⟨rfl,S1.out.low⟩
            ·have hd:D=false:=by rw[←HD.out];exact qfa9 (·.topic) e_topic
             subst hd
             have n0:((bs p.topic).toList==(bs q.topic).toList)=false:=by rw[q0c6,q0c6,beq_eq_false_iff_ne];exact e_topic
             have n1:((bs p.topic).toList != (bs q.topic).toList)=true:=by rw[q0c6,q0c6,bne_iff_ne];exact e_topic
             clear e_topic
             generalize p.kind=u_kind at x0 y0
             generalize p.dup=u_dup at x1 y1
             generalize p.retain=u_retain at x2 y2
             generalize p.qos=u_qos at x3 y3
             generalize p.id=u_id at x4 y4
             generalize bs p.topic=u_topic at x5 n0 n1
             generalize bs q.topic=v_topic at y5 n0 n1
             go_wp2_with fail
             go_ret
             exact⟨rfl,S1.out.low⟩
           ·have hd:D=false:=by rw[←HD.out];exact qfa9 (·.id) e_id
            subst hd
            have n0:(p.id==q.id)=false:=by rw[beq_eq_false_iff_ne];exact e_id
            have n1:(p.id != q.id)=true:=by rw[bne_iff_ne];exact e_id
            clear e_id
            generalize p.kind=u_kind at x0 y0
            generalize p.dup=u_dup at x1 y1
            generalize p.retain=u_retain at x2 y2
            generalize p.qos=u_qos at x3 y3
            generalize p.id=u_id at x4 n0 n1
            generalize q.id=v_id at y4 n0 n1
            go_wp2_with fail
            go_ret
            exact⟨rfl,S1.out.low⟩
          ·have hd:D=false:=by rw[←HD.out];exact qfa9 (·.qos) e_qos
           subst hd
           have n0:(p.qos==q.qos)=false:=by rw[beq_eq_false_iff_ne];exact e_qos
           have n1:(p.qos != q.qos)=true:=by rw[bne_iff_ne];exact e_qos
           clear e_qos
           generalize p.kind=u_kind at x0 y0
           generalize p.dup=u_dup at x1 y1
           generalize p.retain=u_retain at x2 y2
           generalize p.qos=u_qos at x3 n0 n1
           generalize q.qos=v_qos at y3 n0 n1
           go_wp2_with fail
           go_ret
           exact⟨rfl,S1.out.low⟩
         ·have hd:D=false:=by rw[←HD.out];exact qfa9 (·.retain) e_retain
          subst hd
          have n0:(p.retain==q.retain)=false:=by rw[beq_eq_false_iff_ne];exact e_retain
          have n1:(p.retain != q.retain)=true:=by rw[bne_iff_ne];exact e_retain
          clear e_retain
          generalize p.kind=u_kind at x0 y0
          generalize p.dup=u_dup at x1 y1
          generalize p.retain=u_retain at x2 n0 n1
          generalize q.retain=v_retain at y2 n0 n1
          go_wp2_with fail
          go_ret
          exact⟨rfl,S1.out.low⟩
        ·have hd:D=false:=by rw[←HD.out];exact qfa9 (·.dup) e_dup
         subst hd
         have n0:(p.dup==q.dup)=false:=by rw[beq_eq_false_iff_ne];exact e_dup
         have n1:(p.dup != q.dup)=true:=by rw[bne_iff_ne];exact e_dup
         clear e_dup
         generalize p.kind=u_kind at x0 y0
         generalize p.dup=u_dup at x1 n0 n1
         generalize q.dup=v_dup at y1 n0 n1
         go_wp2_with fail
         go_ret
         exact⟨rfl,S1.out.low⟩
       ·have hd:D=false:=by rw[←HD.out];exact qfa9 (·.kind) e_kind
        subst hd
        have n0:(p.kind==q.kind)=false:=by rw[beq_eq_false_iff_ne];exact e_kind
        have n1:(p.kind != q.kind)=true:=by rw[bne_iff_ne];exact e_kind
        clear e_kind
        generalize p.kind=u_kind at x0 n0 n1
        generalize q.kind=v_kind at y0 n0 n1
        go_wp2_with fail
        go_ret
        exact⟨rfl,S1.out.low⟩
      ·have WQ:=Lib.hid (WP.out _ SS.out)
       rw[decide_eq_false e_wProps] at WQ
       have hd:D=false:=by rw[←HD.out];exact qfa9 (·.wProps) e_wProps
       subst hd
       clear e_wProps
       have L0:=Lib.hid SS.out
       generalize bs p.wTopic=u_wTopic at x0 y0
       generalize bs p.wPayload=u_wPayload at x1 y1
       generalize p.wQos=u_wQos at x2 y2
       generalize p.wRetain=u_wRetain at x3 y3
       go_wp2_with fail
       refine(WQ.out).mono ?_
       rintro e w1 ⟨rfl,m,hw1⟩
       have S1:=Lib.hid (show SmS w p a q b w1 by rw[hw1];exact SS.out.call (qnpu (Below.refl _ _) m))
       clear hw1 x0 x1 x2 x3 x4 y0 y1 y2 y3 y4
       go_wp2_with fail
       go_ret
       exact⟨rfl,S1.out.low⟩
     ·have hd:D=false:=by rw[←HD.out];exact qfa9 (·.wRetain) e_wRetain
      subst hd
      have n0:(p.wRetain==q.wRetain)=false:=by rw[beq_eq_false_iff_ne];exact e_wRetain
      have n1:(p.wRetain != q.wRetain)=true:=by rw[bne_iff_ne];exact e_wRetain
      clear e_wRetain
      generalize bs p.wTopic=u_wTopic at x0 y0
      generalize bs p.wPayload=u_wPayload at x1 y1
      generalize p.wQos=u_wQos at x2 y2
      generalize p.wRetain=u_wRetain at x3 n0 n1
      generalize q.wRetain=v_wRetain at y3 n0 n1
      go_wp2_with fail
      go_ret
      exact⟨rfl,SS.out.low⟩
    ·have hd:D=false:=by rw[←HD.out];exact qfa9 (·.wQos) e_wQos
     subst hd
     have n0:(p.wQos==q.wQos)=false:=by rw[beq_eq_false_iff_ne];exact e_wQos
     have n1:(p.wQos != q.wQos)=true:=by rw[bne_iff_ne];exact e_wQos
     clear e_wQos
     generalize bs p.wTopic=u_wTopic at x0 y0
     generalize bs p.wPayload=u_wPayload at x1 y1
     generalize p.wQos=u_wQos at x2 n0 n1
     generalize q.wQos=v_wQos at y2 n0 n1
     go_wp2_with fail
     go_ret
     exact⟨rfl,SS.out.low⟩
   ·have hd:D=false:=by rw[←HD.out];exact qfa9 (·.wPayload) e_wPayload
    subst hd
    have n0:((bs p.wPayload).toList==(bs q.wPayload).toList)=false:=by rw[q0c6,q0c6,beq_eq_false_iff_ne];exact e_wPayload
    have n1:((bs p.wPayload).toList != (bs q.wPayload).toList)=true:=by rw[q0c6,q0c6,bne_iff_ne];exact e_wPayload
    clear e_wPayload
    generalize bs p.wTopic=u_wTopic at x0 y0
    generalize bs p.wPayload=u_wPayload at x1 n0 n1
    generalize bs q.wPayload=v_wPayload at y1 n0 n1
    go_wp2_with fail
    go_ret
    exact⟨rfl,SS.out.low⟩
  ·have hd:D=false:=by rw[←HD.out];exact qfa9 (·.wTopic) e_wTopic
   subst hd
   have n0:((bs p.wTopic).toList==(bs q.wTopic).toList)=false:=by rw[q0c6,q0c6,beq_eq_false_iff_ne];exact e_wTopic
   have n1:((bs p.wTopic).toList != (bs q.wTopic).toList)=true:=by rw[q0c6,q0c6,bne_iff_ne];exact e_wTopic
   clear e_wTopic
   generalize bs p.wTopic=u_wTopic at x0 n0 n1
   generalize bs q.wTopic=v_wTopic at y0 n0 n1
   go_wp2_with fail
   go_ret
   exact⟨rfl,SS.out.low⟩
section
variable{a:Act}{w:World}{d:Option Tmp}{p:String}{af:Array Edge}{gd:Option (Nat×Bool)}{x y z:Tmp}{r:TypeId}
theorem qz6v{u v z:ByteArray}(hx:a.eval (.tmp x) = .string u)(hy:a.eval (.tmp y) = .string v)(hz:u++v=z)(hn:z.size≤9223372036854775807) :
 (execOp a.eval {dst:=d,op := .binOp .add 9 (.tmp x) (.tmp y) 9,type:=r,pos:=p,after:=af,guard:=gd}).run Tryz.prog w = .ok (.value (.string z)) w:=by
 have hn:¬9223372036854775807 < u.size+v.size:=by rw[←hz,ByteArray.size_append] at hn;omega
 generalize a.eval=f at *
 rw[←hz]
 go_simp
theorem qnse{v:Int}{u:Int}(hx:a.eval (.tmp x) = .int .i64 v)(hw:IntKind.u64.wrap v=u) :
 (execOp a.eval {dst:=d,op := .convert 3 66 (.tmp x),type:=r,pos:=p,after:=af,guard:=gd}).run Tryz.prog w = .ok (.value (.int .u64 u)) w:=by
 generalize a.eval=f at *
 go_simp
end
theorem qbhr{Q:Exit→Act→World→Prop}{S:World→Prop}{W:World}{B n cp:Nat}{v k i:Int}{A:Option Addr}{X Y Z:ByteArray}{x1 x2 x4 x5 x6 x7 x8 x9 x10 x11 x12 x13 x14 x15 x16 x17 x18 x19 x20 x21 x22 x23 x24 x25 x26 x27 x28 x29 x30 x31 x32 x33 x34 x35 x36 x37 x38 x39 x40 x41 x42 x43 x44 x45 x46 x47 x48 x49 x50 x51 x52 x53 x54 x55 x56 x57 x58 x59 x60 x61 x62 x63 x64 x65 x66 x67 x68 x69 x70 x71 x72 x73 x74 x75 x76 x77 x78 x79 x80:Value}
 (hS:S W.drew)
 (hi:IntKind.u64.wrap i=i) (hz:X++Y=Z) (hn:Z.size≤9223372036854775807) (K0:∀w,S w→w.cell? ⟨B,0,none⟩=some (.int .i64 k)) (K4:∀w,S w→w.cell? ⟨B,4,none⟩=some (.int .i64 i)) (K24:∀w,S w→w.cell? ⟨B,24,none⟩=some (.slice A n cp))
 (H0:∀w,S w→Calls Tryz.prog 54 #[.int .u64 i,.int .i64 2] w fun e w'=>e = .returned (.string X)∧S w')
 (H1:∀w,S w→Calls Tryz.prog 55 #[.int .i64 v,.int .i64 k,.slice A n cp] w fun e w'=>e = .returned (.string Y)∧S w')
 (fin:∀w:World,S w→Q .normal ⟨#[(.int .i64 v),x1,x2,(.pointer (some ⟨B,0,none⟩)),x4,x5,x6,(.string Z),x8,x9,x10,x11,x12,x13,x14,x15,x16,x17,(.pointer (some ⟨B,4,none⟩)),(.int .i64 i),(.int .u64 i),(.string X),(.int .i64 v),(.pointer (some ⟨B,0,none⟩)),(.int .i64 k),(.pointer (some ⟨B,24,none⟩)),(.slice A n cp),(.string Y),(.string Z),x29,x30,x31,x32,x33,x34,x35,x36,x37,x38,x39,x40,x41,x42,x43,x44,x45,x46,x47,x48,x49,x50,x51,x52,x53,x54,x55,x56,x57,x58,x59,x60,x61,x62,x63,x64,x65,x66,x67,x68,x69,x70,x71,x72,x73,x74,x75,x76,x77,x78,x79,x80],[]⟩ w) :
 (Code.region 4 (qfhu.opsAt 4 Tryz.f19.body) true).wp Tryz.prog Q ⟨#[(.int .i64 v),x1,x2,(.pointer (some ⟨B,0,none⟩)),x4,x5,x6,x7,x8,x9,x10,x11,x12,x13,x14,x15,x16,x17,x18,x19,x20,x21,x22,x23,x24,x25,x26,x27,x28,x29,x30,x31,x32,x33,x34,x35,x36,x37,x38,x39,x40,x41,x42,x43,x44,x45,x46,x47,x48,x49,x50,x51,x52,x53,x54,x55,x56,x57,x58,x59,x60,x61,x62,x63,x64,x65,x66,x67,x68,x69,x70,x71,x72,x73,x74,x75,x76,x77,x78,x79,x80],[]⟩ W:=by
 refine qfhu.wp_in (ds:=[18,19,20,21,22,23,24,25,26,27,28,7]) (B:=[(.int .i64 v),x1,x2,(.pointer (some ⟨B,0,none⟩)),x4,x5,x6,(.string Z),x8,x9,x10,x11,x12,x13,x14,x15,x16,x17,(.pointer (some ⟨B,4,none⟩)),(.int .i64 i),(.int .u64 i),(.string X),(.int .i64 v),(.pointer (some ⟨B,0,none⟩)),(.int .i64 k),(.pointer (some ⟨B,24,none⟩)),(.slice A n cp),(.string Y),(.string Z),x29,x30,x31,x32,x33,x34,x35,x36,x37,x38,x39,x40,x41,x42,x43,x44,x45,x46,x47,x48,x49,x50,x51,x52,x53,x54,x55,x56,x57,x58,x59,x60,x61,x62,x63,x64,x65,x66,x67,x68,x69,x70,x71,x72,x73,x74,x75,x76,x77,x78,x79,x80]) (D:=[]) (by kernel_rfl) (by kernel_rfl) (by kernel_rfl) ?_ hS ?_ fin
 ·exact(by repeat (first | exact trivial | refine⟨.inr rfl,?_⟩ | refine⟨.inl rfl,?_⟩))
 refine qfhu.pu rfl rfl rfl rfl (fun w hS=>q43k rfl) ?_
 refine qfhu.pu rfl rfl rfl rfl (fun w hS=>qkcv rfl (K4 w hS)) ?_
 refine qfhu.pu rfl rfl rfl rfl (fun w hS=>qnse rfl hi) ?_
 refine qfhu.ca rfl rfl rfl rfl (fun w=>qpjl.enter2 Tryz.func54 rfl rfl rfl) H0 ?_
 refine qfhu.pu rfl rfl rfl rfl (fun w hS=>rfl) ?_
 refine qfhu.pu rfl rfl rfl rfl (fun w hS=>qd7q rfl) ?_
 refine qfhu.pu rfl rfl rfl rfl (fun w hS=>qkcv rfl (K0 w hS)) ?_
 refine qfhu.pu rfl rfl rfl rfl (fun w hS=>q8kw rfl) ?_
 refine qfhu.pu rfl rfl rfl rfl (fun w hS=>q8ba rfl (K24 w hS)) ?_
 refine qfhu.ca rfl rfl rfl rfl (fun w=>qpjl.enter3 Tryz.func55 rfl rfl rfl rfl) H1 ?_
 refine qfhu.pu rfl rfl rfl rfl (fun w hS=>qz6v rfl rfl hz hn) ?_
 refine qfhu.pu rfl rfl rfl rfl (fun w hS=>rfl) ?_
 exact qfhu.All.fin rfl
structure QG where
 ld:Bool
 st:Nat
 n:Nat
 g:Nat
 c:Nat
section
variable{a:Act}{w:World}{d:Option Tmp}{p:String}{af:Array Edge}{gd:Option (Nat×Bool)}{x y z:Tmp}{r:TypeId}
theorem qadh{f:Fi}(hx:a.eval (.tmp x) = .agg (fiC f)) :
 (execOp a.eval {dst:=d,op := .buildSlice 27 1 #[(0,.tmp x)],type:=r,pos:=p,after:=af,guard:=gd}).run Tryz.prog w = .ok (.value (.slice (some ⟨w.heap.size,0,none⟩) 1 1)) (w.alloc (.cells (fiC f) 32)):=by
 unfold fiC at *
 generalize bs f.topic=q0 at *
 generalize f.qos=q1 at *
 generalize f.noLocal=q2 at *
 generalize f.asPub=q3 at *
 generalize f.handling=q4 at *
 generalize a.eval=f at *
 go_simp
theorem qpux{z:Int}(hx:a.eval (.tmp x) = .int .i64 z) :
 (execOp a.eval {dst:=d,op := .buildSlice 26 1 #[(0,.tmp x)],type:=r,pos:=p,after:=af,guard:=gd}).run Tryz.prog w = .ok (.value (.slice (some ⟨w.heap.size,0,none⟩) 1 1)) (w.alloc (.cells #[.int .i64 z] 3)):=by
 generalize a.eval=f at *
 go_simp
theorem qp20{n:Int}(hx:a.eval (.tmp x) = .int .u64 n)(h:0≤n∧n < 65536) :
 (execOp a.eval {dst:=d,op := .convert 66 3 (.tmp x),type:=r,pos:=p,after:=af,guard:=gd}).run Tryz.prog w = .ok (.value (.int .i64 n)) w:=by
 generalize a.eval=f at *
 go_simp
 rw[IntKind.wrap_i64];omega
theorem q962{t:TypeId}{u s v':Value}{w':World}(hx:a.eval (.tmp x)=u)(hy:a.eval (.tmp y)=s)(hr:(Builtin.append_ #[t,t] r #[u,s]).run Tryz.prog w = .ok v' w') :
 (execOp a.eval {dst:=d,op := .call {callee := .builtin .append,args:=#[.tmp x,.tmp y],argTypes:=#[t,t]},type:=r,pos:=p,after:=af,guard:=gd}).run Tryz.prog w = .ok (.value v') w':=by
 unfold execOp
 simp only[resolve,invoke,builtin,Sem.run_bind,Sem.run_pure,Result.andThen_ok,List.map_toArray,List.map_cons,List.map_nil,hx,hy,hr]
theorem q7aa{B j n c:Nat}{A:Option Addr}{old:Value}(hx:a.eval (.tmp x) = .pointer (some ⟨B,j,none⟩))(hy:a.eval (.tmp y) = .slice A n c)(hc:w.cell? ⟨B,j,none⟩=some old)(hf:w.frozen? ⟨B,j,none⟩=false) :
 (execOp a.eval {dst:=d,op := .store 27 (.tmp x) (.tmp y),type:=r,pos:=p,after:=af,guard:=gd}).run Tryz.prog w = .ok .skip (w.setCell ⟨B,j,none⟩ (.slice A n c)):=by
 generalize a.eval=f at *
 go_simp
theorem qkvt{B j n c:Nat}{A:Option Addr}{old:Value}(hx:a.eval (.tmp x) = .pointer (some ⟨B,j,none⟩))(hy:a.eval (.tmp y) = .slice A n c)(hc:w.cell? ⟨B,j,none⟩=some old)(hf:w.frozen? ⟨B,j,none⟩=false) :
 (execOp a.eval {dst:=d,op := .store 26 (.tmp x) (.tmp y),type:=r,pos:=p,after:=af,guard:=gd}).run Tryz.prog w = .ok .skip (w.setCell ⟨B,j,none⟩ (.slice A n c)):=by
 generalize a.eval=f at *
 go_simp
end
theorem qb94{Q:Exit→Act→World→Prop}{T:Nat→Nat→Nat→Nat→World→Prop}{W:World}{B cb k:Nat}{v kind:Int}{vA:Option Addr}{vn vc:Nat}{f:Fi}{x2 x3 x4 x5 x6 x7 x10 x11 x12 x13 x14 x15 x16 x17 x18 x19 x20 x21 x22 x23 x24 x25 x26 x27 x28 x29 x30 x31 x32 x33 x34 x35 x36 x37 x38 x39 x40 x41 x42 x43 x44 x45 x46 x47 x48 x49 x50 x51 x52 x53 x54 x55 x56 x57 x58 x59 x60 x61 x62 x63 x64 x65 x66 x67:Value}
 (hS:T 0 0 0 0 W.drew) (K:∀st n g c w,st≤2→T st n g c w→w.cell? ⟨B,23,none⟩=some (.slice vA vn vc))
 (H0:∀n g c w,T 0 n g c w→Calls Tryz.prog 64 #[.int .i64 v,.int .i64 kind,.pointer (some ⟨cb,0,none⟩)] w fun e w'=>e = .returned (.agg (fiC f))∧T 1 n g c w')
 (H1:∀n g c w,T 1 n g c w→T 2 w.heap.size g c (w.alloc (.cells (fiC f) 32)))
 (H2:∀n g c w,T 2 n g c w→∃g' c' w',(Builtin.append_ #[27,27] 27 #[.slice vA vn vc,.slice (some ⟨n,0,none⟩) 1 1]).run Tryz.prog w = .ok (.slice (some ⟨g',0,none⟩) k c') w'∧T 3 n g' c' w')
 (H3:∀n g c w,T 3 n g c w→w.cell? ⟨B,23,none⟩=some (.slice vA vn vc)∧w.frozen? ⟨B,23,none⟩=false∧T 4 n g c (w.setCell ⟨B,23,none⟩ (.slice (some ⟨g,0,none⟩) k c)))
 (fin:∀n g c w,T 4 n g c w→Q .normal ⟨#[(.int .i64 v),(.int .i64 kind),x2,x3,x4,x5,x6,x7,(.pointer (some ⟨cb,0,none⟩)),(.pointer (some ⟨B,0,none⟩)),x10,x11,x12,x13,x14,x15,x16,x17,x18,x19,x20,x21,x22,x23,x24,x25,x26,x27,x28,x29,x30,x31,x32,x33,x34,x35,x36,x37,x38,x39,x40,x41,x42,(.pointer (some ⟨B,23,none⟩)),(.slice vA vn vc),(.int .i64 v),(.int .i64 kind),(.pointer (some ⟨cb,0,none⟩)),(.agg (fiC f)),(.slice (some ⟨n,0,none⟩) 1 1),(.slice (some ⟨g,0,none⟩) k c),(.pointer (some ⟨B,23,none⟩)),x52,x53,x54,x55,x56,x57,x58,x59,x60,x61,x62,x63,x64,x65,x66,x67],[]⟩ w) :
 (Code.region 8 (qfhu.opsAt 8 Tryz.f20.body) true).wp Tryz.prog Q ⟨#[(.int .i64 v),(.int .i64 kind),x2,x3,x4,x5,x6,x7,(.pointer (some ⟨cb,0,none⟩)),(.pointer (some ⟨B,0,none⟩)),x10,x11,x12,x13,x14,x15,x16,x17,x18,x19,x20,x21,x22,x23,x24,x25,x26,x27,x28,x29,x30,x31,x32,x33,x34,x35,x36,x37,x38,x39,x40,x41,x42,x43,x44,x45,x46,x47,x48,x49,x50,x51,x52,x53,x54,x55,x56,x57,x58,x59,x60,x61,x62,x63,x64,x65,x66,x67],[]⟩ W:=by
 refine qu7n.wp (fresh:=fun i x=>(i=1→x.ld=false)∧(i=5→x.st=0)∧(i=6→x.st≤1)∧(i=7→x.st≤2)∧(i=9→x.st≤3)) (hf0:=fun i=>⟨fun _=>rfl,fun _=>rfl,fun _=>Nat.zero_le _,fun _=>Nat.zero_le _,fun _=>Nat.zero_le _⟩) (x:=(⟨false,0,0,0,0⟩:QG)) (S:=fun x w=>(x.ld=false→x.st≤2)∧T x.st x.n x.g x.c w) (made:=fun i x=>(i=1→x.ld=true)∧(i=5→1≤x.st)∧(i=6→2≤x.st)∧(i=7→3≤x.st)∧(i=9→x.st=4)) (war:=[]) (ds:=[43,44,45,46,47,48,49,50,51]) (A:=[(.int .i64 v),(.int .i64 kind),x2,x3,x4,x5,x6,x7,(.pointer (some ⟨cb,0,none⟩)),(.pointer (some ⟨B,0,none⟩)),x10,x11,x12,x13,x14,x15,x16,x17,x18,x19,x20,x21,x22,x23,x24,x25,x26,x27,x28,x29,x30,x31,x32,x33,x34,x35,x36,x37,x38,x39,x40,x41,x42,x43,x44,x45,x46,x47,x48,x49,x50,x51,x52,x53,x54,x55,x56,x57,x58,x59,x60,x61,x62,x63,x64,x65,x66,x67]) (B:=fun x=>[(.int .i64 v),(.int .i64 kind),x2,x3,x4,x5,x6,x7,(.pointer (some ⟨cb,0,none⟩)),(.pointer (some ⟨B,0,none⟩)),x10,x11,x12,x13,x14,x15,x16,x17,x18,x19,x20,x21,x22,x23,x24,x25,x26,x27,x28,x29,x30,x31,x32,x33,x34,x35,x36,x37,x38,x39,x40,x41,x42,(.pointer (some ⟨B,23,none⟩)),(.slice vA vn vc),(.int .i64 v),(.int .i64 kind),(.pointer (some ⟨cb,0,none⟩)),(.agg (fiC f)),(.slice (some ⟨x.n,0,none⟩) 1 1),(.slice (some ⟨x.g,0,none⟩) k x.c),(.pointer (some ⟨B,23,none⟩)),x52,x53,x54,x55,x56,x57,x58,x59,x60,x61,x62,x63,x64,x65,x66,x67]) (D:=[]) (by kernel_rfl) (by kernel_rfl) (by kernel_rfl) ?_ ⟨fun _=>Nat.zero_le _,hS⟩ ?_ ?_
 ·exact fun x=>(by repeat (first | exact trivial | refine⟨.inr rfl,?_⟩ | refine⟨.inl rfl,?_⟩))
 refine q2y4.All.step rfl (qu7n.Does.pure (val:=fun x=>(.pointer (some ⟨B,23,none⟩))) rfl (fun x=>⟨fun h=>absurd h (by decide),fun h=>absurd h (by decide),fun h=>absurd h (by decide),fun h=>absurd h (by decide),fun h=>absurd h (by decide)⟩) (fun x w hm hS=>⟨rfl,rfl,qvcr rfl⟩)) ?_
 refine q2y4.All.step rfl (fun x w hp hf hS => .inl ⟨rfl,.value (.slice vA vn vc) ⟨true,x.st,x.n,x.g,x.c⟩ w (qdeq rfl (K x.st x.n x.g x.c w (hS.1 (hf.1 rfl)) hS.2)) ⟨(fun d hd=>by cases hd;rfl),⟨fun h=>(by cases h),hS.2⟩,⟨fun _=>rfl,fun h=>absurd h (by decide),fun h=>absurd h (by decide),fun h=>absurd h (by decide),fun h=>absurd h (by decide)⟩,(fun i h=>⟨fun _=>rfl,h.2⟩),(fun i hi h=>⟨fun e=>absurd e hi,h.2⟩),[],rfl,q2y4.off_refl 0 _⟩⟩) ?_
 refine q2y4.All.step rfl (qu7n.Does.pure (val:=fun x=>(.int .i64 v)) rfl (fun x=>⟨fun h=>absurd h (by decide),fun h=>absurd h (by decide),fun h=>absurd h (by decide),fun h=>absurd h (by decide),fun h=>absurd h (by decide)⟩) (fun x w hm hS=>⟨rfl,rfl,rfl⟩)) ?_
 refine q2y4.All.step rfl (qu7n.Does.pure (val:=fun x=>(.int .i64 kind)) rfl (fun x=>⟨fun h=>absurd h (by decide),fun h=>absurd h (by decide),fun h=>absurd h (by decide),fun h=>absurd h (by decide),fun h=>absurd h (by decide)⟩) (fun x w hm hS=>⟨rfl,rfl,rfl⟩)) ?_
 refine q2y4.All.step rfl (qu7n.Does.pure (val:=fun x=>(.pointer (some ⟨cb,0,none⟩))) rfl (fun x=>⟨fun h=>absurd h (by decide),fun h=>absurd h (by decide),fun h=>absurd h (by decide),fun h=>absurd h (by decide),fun h=>absurd h (by decide)⟩) (fun x w hm hS=>⟨rfl,rfl,rfl⟩)) ?_
 refine q2y4.All.step rfl (fun x w hp hf hS => .inl ⟨rfl,.call _ _ (qpjl.enter3 Tryz.func64 rfl rfl rfl rfl) (by
  obtain⟨ld,st,n,g,c⟩:=x
  obtain rfl:st=0:=hf.2.1 rfl
  exact(H0 n g c w hS.2).mono fun e w' ⟨he,h1⟩=>⟨_,⟨ld,1,n,g,c⟩,he,(fun d hd=>by cases hd;rfl),⟨fun _=>(by show 1≤2;decide),h1⟩,⟨fun h=>absurd h (by decide),fun _=>Nat.le_refl 1,fun h=>absurd h (by decide),fun h=>absurd h (by decide),fun h=>absurd h (by decide)⟩,(fun i h=>⟨h.1,fun _=>Nat.le_refl 1,fun e=>absurd (show 2≤0 from h.2.2.1 e) (by decide),fun e=>absurd (show 3≤0 from h.2.2.2.1 e) (by decide),fun e=>absurd (show 0=4 from h.2.2.2.2 e) (by decide)⟩),
   (fun i hi h=>⟨h.1,fun e=>absurd e hi,fun _=>Nat.le_refl 1,fun _=>(by show 1≤2;decide),fun _=>(by show 1≤3;decide)⟩),[],rfl,q2y4.off_refl 0 _⟩)⟩) ?_
 refine q2y4.All.step rfl (fun x w hp hf hS => .inl ⟨rfl,.value _ ⟨x.ld,2,w.heap.size,x.g,x.c⟩ _ (qadh rfl) (by
  obtain⟨ld,st,n,g,c⟩:=x
  have h1:1≤st:=(hp 5 (by decide+kernel) (by decide)).2.1 rfl
  have h2:st≤1:=hf.2.2.1 rfl
  obtain rfl:st=1:=by omega
  exact⟨(fun d hd=>by cases hd;rfl),⟨fun _=>Nat.le_refl 2,H1 n g c w hS.2⟩,⟨fun h=>absurd h (by decide),fun h=>absurd h (by decide),fun _=>Nat.le_refl 2,fun h=>absurd h (by decide),fun h=>absurd h (by decide)⟩,(fun i h=>⟨h.1,fun _=>(by show 1≤2;decide),fun _=>Nat.le_refl 2,fun e=>absurd (show 3≤1 from h.2.2.2.1 e) (by decide),fun e=>absurd (show 1=4 from h.2.2.2.2 e) (by decide)⟩),
   (fun i hi h=>⟨h.1,fun e=>absurd (show 1=0 from h.2.1 e) (by decide),fun e=>absurd e hi,fun _=>Nat.le_refl 2,fun _=>(by show 2≤3;decide)⟩),[49],by kernel_rfl,(by repeat (first | exact trivial | refine⟨.inr rfl,?_⟩ | refine⟨.inl rfl,?_⟩))⟩)⟩) ?_
 refine q2y4.All.step rfl (fun x w hp hf hS=>by
  obtain⟨ld,st,n,g,c⟩:=x
  have h1:2≤st:=(hp 6 (by decide+kernel) (by decide)).2.2.1 rfl
  have h2:st≤2:=hf.2.2.2.1 rfl
  obtain rfl:st=2:=by omega
  obtain rfl:ld=true:=(hp 1 (by decide+kernel) (by decide)).1 rfl
  obtain⟨g',c',w',hr,h3⟩:=H2 n g c w hS.2
  exact .inl ⟨rfl,.value (.slice (some ⟨g',0,none⟩) k c') ⟨true,3,n,g',c'⟩ w' (q962 rfl rfl hr) ⟨(fun d hd=>by cases hd;rfl),⟨fun h=>(by cases h),h3⟩,⟨fun h=>absurd h (by decide),fun h=>absurd h (by decide),fun h=>absurd h (by decide),fun _=>Nat.le_refl 3,fun h=>absurd h (by decide)⟩,(fun i h=>⟨h.1,fun _=>(by show 1≤3;decide),fun _=>(by show 2≤3;decide),fun _=>Nat.le_refl 3,fun e=>absurd (show 2=4 from h.2.2.2.2 e) (by decide)⟩),
   (fun i hi h=>⟨h.1,fun e=>absurd (show 2=0 from h.2.1 e) (by decide),fun e=>absurd (show 2≤1 from h.2.2.1 e) (by decide),fun e=>absurd e hi,fun _=>Nat.le_refl 3⟩),[50],by kernel_rfl,(by repeat (first | exact trivial | refine⟨.inr rfl,?_⟩ | refine⟨.inl rfl,?_⟩))⟩⟩) ?_
 refine q2y4.All.step rfl (qu7n.Does.pure (val:=fun x=>(.pointer (some ⟨B,23,none⟩))) rfl (fun x=>⟨fun h=>absurd h (by decide),fun h=>absurd h (by decide),fun h=>absurd h (by decide),fun h=>absurd h (by decide),fun h=>absurd h (by decide)⟩) (fun x w hm hS=>⟨rfl,rfl,qvcr rfl⟩)) ?_
 refine q2y4.All.step rfl (fun x w hp hf hS=>by
  obtain⟨ld,st,n,g,c⟩:=x
  have h1:3≤st:=(hp 7 (by decide+kernel) (by decide)).2.2.2.1 rfl
  have h2:st≤3:=hf.2.2.2.2 rfl
  obtain rfl:st=3:=by omega
  obtain rfl:ld=true:=(hp 1 (by decide+kernel) (by decide)).1 rfl
  obtain⟨h4,h5,h6⟩:=H3 n g c w hS.2
  exact .inl ⟨rfl,.skip ⟨true,4,n,g,c⟩ _ (q7aa rfl rfl h4 h5) ⟨(fun d hd=>by cases hd),⟨fun h=>(by cases h),h6⟩,⟨fun h=>absurd h (by decide),fun h=>absurd h (by decide),fun h=>absurd h (by decide),fun h=>absurd h (by decide),fun _=>rfl⟩,(fun i h=>⟨h.1,fun _=>(by show 1≤4;decide),fun _=>(by show 2≤4;decide),fun _=>(by show 3≤4;decide),fun _=>rfl⟩),
   (fun i hi h=>⟨h.1,fun e=>absurd (show 3=0 from h.2.1 e) (by decide),fun e=>absurd (show 3≤1 from h.2.2.1 e) (by decide),fun e=>absurd (show 3≤2 from h.2.2.2.1 e) (by decide),fun e=>absurd e hi⟩),[],rfl,q2y4.off_refl 0 _⟩⟩) ?_
 ·exact q2y4.All.fin rfl
 intro x w hm hS
 obtain⟨ld,st,n,g,c⟩:=x
 obtain rfl:st=4:=(hm 9 (by decide+kernel)).2.2.2.2 rfl
 exact fin n g c w hS.2
theorem qh1o0{Q:Exit→Act→World→Prop}{T:Nat→Nat→Nat→Nat→World→Prop}{W:World}{B cb k:Nat}{v kind:Int}{vA:Option Addr}{vn vc:Nat}{z:Int}{x2 x3 x4 x5 x6 x7 x10 x11 x12 x13 x14 x15 x16 x17 x18 x19 x20 x21 x22 x23 x24 x25 x26 x27 x28 x29 x30 x31 x32 x33 x34 x35 x36 x37 x38 x39 x40 x41 x42 x43 x44 x45 x46 x47 x48 x49 x50 x51 x52 x53 x54 x55 x56 x57 x58 x59 x60 x61 x62 x63 x64 x65 x66 x67:Value}
 (hS:T 0 0 0 0 W.drew) (hz:0≤z∧z < 65536) (K:∀st n g c w,st≤2→T st n g c w→w.cell? ⟨B,22,none⟩=some (.slice vA vn vc))
 (H0:∀n g c w,T 0 n g c w→Calls Tryz.prog 60 #[.pointer (some ⟨cb,0,none⟩),.int .i64 1] w fun e w'=>e = .returned (.int .u64 z)∧T 1 n g c w')
 (H1:∀n g c w,T 1 n g c w→T 2 w.heap.size g c (w.alloc (.cells #[.int .i64 z] 3)))
 (H2:∀n g c w,T 2 n g c w→∃g' c' w',(Builtin.append_ #[26,26] 26 #[.slice vA vn vc,.slice (some ⟨n,0,none⟩) 1 1]).run Tryz.prog w = .ok (.slice (some ⟨g',0,none⟩) k c') w'∧T 3 n g' c' w')
 (H3:∀n g c w,T 3 n g c w→w.cell? ⟨B,22,none⟩=some (.slice vA vn vc)∧w.frozen? ⟨B,22,none⟩=false∧T 4 n g c (w.setCell ⟨B,22,none⟩ (.slice (some ⟨g,0,none⟩) k c)))
 (fin:∀n g c w,T 4 n g c w→Q .normal ⟨#[(.int .i64 v),(.int .i64 kind),x2,x3,x4,x5,x6,x7,(.pointer (some ⟨cb,0,none⟩)),(.pointer (some ⟨B,0,none⟩)),x10,x11,x12,x13,x14,x15,x16,x17,x18,x19,x20,x21,x22,x23,x24,x25,x26,x27,x28,x29,x30,x31,x32,x33,x34,x35,x36,x37,x38,x39,x40,x41,x42,x43,x44,x45,x46,x47,x48,x49,x50,x51,(.pointer (some ⟨B,22,none⟩)),(.slice vA vn vc),(.pointer (some ⟨cb,0,none⟩)),(.int .u64 z),(.int .i64 z),(.slice (some ⟨n,0,none⟩) 1 1),(.slice (some ⟨g,0,none⟩) k c),(.pointer (some ⟨B,22,none⟩)),x60,x61,x62,x63,x64,x65,x66,x67],[]⟩ w) :
 (Code.region 9 (qfhu.opsAt 9 Tryz.f20.body) true).wp Tryz.prog Q ⟨#[(.int .i64 v),(.int .i64 kind),x2,x3,x4,x5,x6,x7,(.pointer (some ⟨cb,0,none⟩)),(.pointer (some ⟨B,0,none⟩)),x10,x11,x12,x13,x14,x15,x16,x17,x18,x19,x20,x21,x22,x23,x24,x25,x26,x27,x28,x29,x30,x31,x32,x33,x34,x35,x36,x37,x38,x39,x40,x41,x42,x43,x44,x45,x46,x47,x48,x49,x50,x51,x52,x53,x54,x55,x56,x57,x58,x59,x60,x61,x62,x63,x64,x65,x66,x67],[]⟩ W:=by
 refine qu7n.wp (fresh:=fun i x=>(i=1→x.ld=false)∧(i=3→x.st=0)∧(i=5→x.st≤1)∧(i=6→x.st≤2)∧(i=8→x.st≤3)) (hf0:=fun i=>⟨fun _=>rfl,fun _=>rfl,fun _=>Nat.zero_le _,fun _=>Nat.zero_le _,fun _=>Nat.zero_le _⟩) (x:=(⟨false,0,0,0,0⟩:QG)) (S:=fun x w=>(x.ld=false→x.st≤2)∧T x.st x.n x.g x.c w) (made:=fun i x=>(i=1→x.ld=true)∧(i=3→1≤x.st)∧(i=5→2≤x.st)∧(i=6→3≤x.st)∧(i=8→x.st=4)) (war:=[]) (ds:=[52,53,54,55,56,57,58,59]) (A:=[(.int .i64 v),(.int .i64 kind),x2,x3,x4,x5,x6,x7,(.pointer (some ⟨cb,0,none⟩)),(.pointer (some ⟨B,0,none⟩)),x10,x11,x12,x13,x14,x15,x16,x17,x18,x19,x20,x21,x22,x23,x24,x25,x26,x27,x28,x29,x30,x31,x32,x33,x34,x35,x36,x37,x38,x39,x40,x41,x42,x43,x44,x45,x46,x47,x48,x49,x50,x51,x52,x53,x54,x55,x56,x57,x58,x59,x60,x61,x62,x63,x64,x65,x66,x67]) (B:=fun x=>[(.int .i64 v),(.int .i64 kind),x2,x3,x4,x5,x6,x7,(.pointer (some ⟨cb,0,none⟩)),(.pointer (some ⟨B,0,none⟩)),x10,x11,x12,x13,x14,x15,x16,x17,x18,x19,x20,x21,x22,x23,x24,x25,x26,x27,x28,x29,x30,x31,x32,x33,x34,x35,x36,x37,x38,x39,x40,x41,x42,x43,x44,x45,x46,x47,x48,x49,x50,x51,(.pointer (some ⟨B,22,none⟩)),(.slice vA vn vc),(.pointer (some ⟨cb,0,none⟩)),(.int .u64 z),(.int .i64 z),(.slice (some ⟨x.n,0,none⟩) 1 1),(.slice (some ⟨x.g,0,none⟩) k x.c),(.pointer (some ⟨B,22,none⟩)),x60,x61,x62,x63,x64,x65,x66,x67]) (D:=[]) (by kernel_rfl) (by kernel_rfl) (by kernel_rfl) ?_ ⟨fun _=>Nat.zero_le _,hS⟩ ?_ ?_
 ·exact fun x=>(by repeat (first | exact trivial | refine⟨.inr rfl,?_⟩ | refine⟨.inl rfl,?_⟩))
 refine q2y4.All.step rfl (qu7n.Does.pure (val:=fun x=>(.pointer (some ⟨B,22,none⟩))) rfl (fun x=>⟨fun h=>absurd h (by decide),fun h=>absurd h (by decide),fun h=>absurd h (by decide),fun h=>absurd h (by decide),fun h=>absurd h (by decide)⟩) (fun x w hm hS=>⟨rfl,rfl,qxyk rfl⟩)) ?_
 refine q2y4.All.step rfl (fun x w hp hf hS => .inl ⟨rfl,.value (.slice vA vn vc) ⟨true,x.st,x.n,x.g,x.c⟩ w (qag2 rfl (K x.st x.n x.g x.c w (hS.1 (hf.1 rfl)) hS.2)) ⟨(fun d hd=>by cases hd;rfl),⟨fun h=>(by cases h),hS.2⟩,⟨fun _=>rfl,fun h=>absurd h (by decide),fun h=>absurd h (by decide),fun h=>absurd h (by decide),fun h=>absurd h (by decide)⟩,(fun i h=>⟨fun _=>rfl,h.2⟩),(fun i hi h=>⟨fun e=>absurd e hi,h.2⟩),[],rfl,q2y4.off_refl 0 _⟩⟩) ?_
 refine q2y4.All.step rfl (qu7n.Does.pure (val:=fun x=>(.pointer (some ⟨cb,0,none⟩))) rfl (fun x=>⟨fun h=>absurd h (by decide),fun h=>absurd h (by decide),fun h=>absurd h (by decide),fun h=>absurd h (by decide),fun h=>absurd h (by decide)⟩) (fun x w hm hS=>⟨rfl,rfl,rfl⟩)) ?_
 refine q2y4.All.step rfl (fun x w hp hf hS => .inl ⟨rfl,.call _ _ (qpjl.enter2 Tryz.func60 rfl rfl rfl) (by
  obtain⟨ld,st,n,g,c⟩:=x
  obtain rfl:st=0:=hf.2.1 rfl
  exact(H0 n g c w hS.2).mono fun e w' ⟨he,h1⟩=>⟨_,⟨ld,1,n,g,c⟩,he,(fun d hd=>by cases hd;rfl),⟨fun _=>(by show 1≤2;decide),h1⟩,⟨fun h=>absurd h (by decide),fun _=>Nat.le_refl 1,fun h=>absurd h (by decide),fun h=>absurd h (by decide),fun h=>absurd h (by decide)⟩,(fun i h=>⟨h.1,fun _=>Nat.le_refl 1,fun e=>absurd (show 2≤0 from h.2.2.1 e) (by decide),fun e=>absurd (show 3≤0 from h.2.2.2.1 e) (by decide),fun e=>absurd (show 0=4 from h.2.2.2.2 e) (by decide)⟩),
   (fun i hi h=>⟨h.1,fun e=>absurd e hi,fun _=>Nat.le_refl 1,fun _=>(by show 1≤2;decide),fun _=>(by show 1≤3;decide)⟩),[],rfl,q2y4.off_refl 0 _⟩)⟩) ?_
 refine q2y4.All.step rfl (qu7n.Does.pure (val:=fun x=>(.int .i64 z)) rfl (fun x=>⟨fun h=>absurd h (by decide),fun h=>absurd h (by decide),fun h=>absurd h (by decide),fun h=>absurd h (by decide),fun h=>absurd h (by decide)⟩) (fun x w hm hS=>⟨rfl,rfl,qp20 rfl hz⟩)) ?_
 refine q2y4.All.step rfl (fun x w hp hf hS => .inl ⟨rfl,.value _ ⟨x.ld,2,w.heap.size,x.g,x.c⟩ _ (qpux rfl) (by
  obtain⟨ld,st,n,g,c⟩:=x
  have h1:1≤st:=(hp 3 (by decide+kernel) (by decide)).2.1 rfl
  have h2:st≤1:=hf.2.2.1 rfl
  obtain rfl:st=1:=by omega
  exact⟨(fun d hd=>by cases hd;rfl),⟨fun _=>Nat.le_refl 2,H1 n g c w hS.2⟩,⟨fun h=>absurd h (by decide),fun h=>absurd h (by decide),fun _=>Nat.le_refl 2,fun h=>absurd h (by decide),fun h=>absurd h (by decide)⟩,(fun i h=>⟨h.1,fun _=>(by show 1≤2;decide),fun _=>Nat.le_refl 2,fun e=>absurd (show 3≤1 from h.2.2.2.1 e) (by decide),fun e=>absurd (show 1=4 from h.2.2.2.2 e) (by decide)⟩),
   (fun i hi h=>⟨h.1,fun e=>absurd (show 1=0 from h.2.1 e) (by decide),fun e=>absurd e hi,fun _=>Nat.le_refl 2,fun _=>(by show 2≤3;decide)⟩),[57],by kernel_rfl,(by repeat (first | exact trivial | refine⟨.inr rfl,?_⟩ | refine⟨.inl rfl,?_⟩))⟩)⟩) ?_
 refine q2y4.All.step rfl (fun x w hp hf hS=>by
  obtain⟨ld,st,n,g,c⟩:=x
  have h1:2≤st:=(hp 5 (by decide+kernel) (by decide)).2.2.1 rfl
  have h2:st≤2:=hf.2.2.2.1 rfl
  obtain rfl:st=2:=by omega
  obtain rfl:ld=true:=(hp 1 (by decide+kernel) (by decide)).1 rfl
  obtain⟨g',c',w',hr,h3⟩:=H2 n g c w hS.2
  exact .inl ⟨rfl,.value (.slice (some ⟨g',0,none⟩) k c') ⟨true,3,n,g',c'⟩ w' (q962 rfl rfl hr) ⟨(fun d hd=>by cases hd;rfl),⟨fun h=>(by cases h),h3⟩,⟨fun h=>absurd h (by decide),fun h=>absurd h (by decide),fun h=>absurd h (by decide),fun _=>Nat.le_refl 3,fun h=>absurd h (by decide)⟩,(fun i h=>⟨h.1,fun _=>(by show 1≤3;decide),fun _=>(by show 2≤3;decide),fun _=>Nat.le_refl 3,fun e=>absurd (show 2=4 from h.2.2.2.2 e) (by decide)⟩),
   (fun i hi h=>⟨h.1,fun e=>absurd (show 2=0 from h.2.1 e) (by decide),fun e=>absurd (show 2≤1 from h.2.2.1 e) (by decide),fun e=>absurd e hi,fun _=>Nat.le_refl 3⟩),[58],by kernel_rfl,(by repeat (first | exact trivial | refine⟨.inr rfl,?_⟩ | refine⟨.inl rfl,?_⟩))⟩⟩) ?_
 refine q2y4.All.step rfl (qu7n.Does.pure (val:=fun x=>(.pointer (some ⟨B,22,none⟩))) rfl (fun x=>⟨fun h=>absurd h (by decide),fun h=>absurd h (by decide),fun h=>absurd h (by decide),fun h=>absurd h (by decide),fun h=>absurd h (by decide)⟩) (fun x w hm hS=>⟨rfl,rfl,qxyk rfl⟩)) ?_
 refine q2y4.All.step rfl (fun x w hp hf hS=>by
  obtain⟨ld,st,n,g,c⟩:=x
  have h1:3≤st:=(hp 6 (by decide+kernel) (by decide)).2.2.2.1 rfl
  have h2:st≤3:=hf.2.2.2.2 rfl
  obtain rfl:st=3:=by omega
  obtain rfl:ld=true:=(hp 1 (by decide+kernel) (by decide)).1 rfl
  obtain⟨h4,h5,h6⟩:=H3 n g c w hS.2
  exact .inl ⟨rfl,.skip ⟨true,4,n,g,c⟩ _ (qkvt rfl rfl h4 h5) ⟨(fun d hd=>by cases hd),⟨fun h=>(by cases h),h6⟩,⟨fun h=>absurd h (by decide),fun h=>absurd h (by decide),fun h=>absurd h (by decide),fun h=>absurd h (by decide),fun _=>rfl⟩,(fun i h=>⟨h.1,fun _=>(by show 1≤4;decide),fun _=>(by show 2≤4;decide),fun _=>(by show 3≤4;decide),fun _=>rfl⟩),
   (fun i hi h=>⟨h.1,fun e=>absurd (show 3=0 from h.2.1 e) (by decide),fun e=>absurd (show 3≤1 from h.2.2.1 e) (by decide),fun e=>absurd (show 3≤2 from h.2.2.2.1 e) (by decide),fun e=>absurd e hi⟩),[],rfl,q2y4.off_refl 0 _⟩⟩) ?_
 ·exact q2y4.All.fin rfl
 intro x w hm hS
 obtain⟨ld,st,n,g,c⟩:=x
 obtain rfl:st=4:=(hm 8 (by decide+kernel)).2.2.2.2 rfl
 exact fin n g c w hS.2
section
variable{a:Act}{w:World}{d:Option Tmp}{p:String}{af:Array Edge}{gd:Option (Nat×Bool)}{x y z:Tmp}{r:TypeId}
theorem qaf1  :
 (execOp a.eval {dst:=d,op := .build 29 #[],type:=r,pos:=p,after:=af,guard:=gd}).run Tryz.prog w = .ok (.value (.agg pkZ)) w:=by
 have hz:=qrai w
 have hne:¬pkZ=#[]:=by intro h;have:=qbwp;rw[h] at this;cases this
 have hs:=qbwp
 generalize a.eval=f at *
 go_simp
theorem q8u0{g:Nat}(hx:a.eval (.tmp x) = .pointer (some ⟨g,0,none⟩)) :
 (execOp a.eval {dst:=d,op := .nilCheck (.tmp x),type:=r,pos:=p,after:=af,guard:=gd}).run Tryz.prog w = .ok (.value (.pointer (some ⟨g,0,none⟩))) w:=by
 generalize a.eval=f at *
 go_simp
theorem qn9r{g:Nat}(hx:a.eval (.tmp x) = .pointer (some ⟨g,0,none⟩)) :
 (execOp a.eval {dst:=d,op := .fieldAddr 95 (.tmp x) 2,type:=r,pos:=p,after:=af,guard:=gd}).run Tryz.prog w = .ok (.value (.pointer (some ⟨g,2,none⟩))) w:=by
 generalize a.eval=f at *
 go_simp
theorem dn_l{g j:Nat}{k:Int}(hx:a.eval (.tmp x) = .pointer (some ⟨g,j,none⟩))(hc:w.cell? ⟨g,j,none⟩=some (.int .i64 k)) :
 (execOp a.eval {dst:=d,op := .load 33 (.tmp x),type:=33,pos:=p,after:=af,guard:=gd}).run Tryz.prog w = .ok (.value (.int .i64 k)) w:=by
 generalize a.eval=f at *
 go_simp
theorem q80d{g:Nat}{D old:Array Value}(hx:a.eval (.tmp x) = .pointer (some ⟨g,0,none⟩))(hy:a.eval (.tmp y) = .agg D)(hD:D.size=25)(h1:D.all (·.oneCell')=true)(hg:w.heap[g]? = some (.cells old 29 (0,0)))(ho:old.size=25) :
 (execOp a.eval {dst:=d,op := .store 29 (.tmp x) (.tmp y),type:=r,pos:=p,after:=af,guard:=gd}).run Tryz.prog w = .ok .skip (w.setRow g D):=by
 unfold execOp
 simp only[hx,hy,Instr.storeAt,Instr.sureAddr,Sem.run_bind,Sem.run_pure,Result.andThen_ok,run_storeVar_row w g 29 29 old D hg (by rw[hD];exact q5nr) (by rw[ho,hD]) h1]
end
theorem qy7c{Q:Exit→Act→World→Prop}{T:World→Prop}{W:World}{B cb:Nat}{z:Int}{x1 x2 x3 x4 x5 x7 x8 x9 x10 x11 x12 x13 x14 x15 x16 x17 x18 x19 x20 x21 x22 x23 x24 x25 x26 x27 x28 x29 x30 x31 x32 x33:Value}
 (hT:T W.drew) (K2:∀w,T w→w.cell? ⟨cb,2,none⟩=some (.int .i64 z)) (KB:∀w,T w→w.heap[B]? = some (.cells pkZ 29 (0,0))) (ST:∀w,T w→T (w.setRow B pkZ))
 (fin:∀w,T w→Q .normal ⟨#[(.pointer (some ⟨cb,0,none⟩)),x1,x2,x3,x4,x5,(.pointer (some ⟨B,0,none⟩)),(.int .i64 z),x8,x9,x10,x11,x12,x13,x14,x15,x16,x17,x18,x19,x20,x21,x22,x23,x24,x25,x26,x27,(.agg pkZ),(.pointer (some ⟨cb,0,none⟩)),(.pointer (some ⟨cb,0,none⟩)),(.pointer (some ⟨cb,2,none⟩)),(.int .i64 z),x33],[]⟩ w) :
 (Code.region 5 (qfhu.opsAt 5 Tryz.f65.body) true).wp Tryz.prog Q ⟨#[(.pointer (some ⟨cb,0,none⟩)),x1,x2,x3,x4,x5,(.pointer (some ⟨B,0,none⟩)),x7,x8,x9,x10,x11,x12,x13,x14,x15,x16,x17,x18,x19,x20,x21,x22,x23,x24,x25,x26,x27,x28,x29,x30,x31,x32,x33],[]⟩ W:=by
 refine q2y4.wp (x:=()) (S:=fun(_:Unit) w=>T w) (made:=fun _ _=>True) (war:=[]) (ds:=[28,29,30,31,32,7]) (D:=[]) (by kernel_rfl) (by kernel_rfl) (by kernel_rfl) ?_ hT ?_ (fun x w _ hS=>fin w hS)
 ·exact fun x=>(by repeat (first | exact trivial | refine⟨.inr rfl,?_⟩ | refine⟨.inl rfl,?_⟩))
 refine q2y4.pu rfl rfl (fun _=>trivial) (fun x w hm hS=>⟨rfl,rfl,qaf1⟩) ?_
 refine q2y4.pu rfl rfl (fun _=>trivial) (fun x w hm hS=>⟨rfl,rfl,rfl⟩) ?_
 refine q2y4.pu rfl rfl (fun _=>trivial) (fun x w hm hS=>⟨rfl,rfl,q8u0 rfl⟩) ?_
 refine q2y4.pu rfl rfl (fun _=>trivial) (fun x w hm hS=>⟨rfl,rfl,qn9r rfl⟩) ?_
 refine q2y4.pu rfl rfl (fun _=>trivial) (fun x w hm hS=>⟨rfl,rfl,dn_l rfl (K2 w hS)⟩) ?_
 refine q2y4.All.step rfl ((fun x w hm hS => .inl ⟨rfl,.skip x _ (q80d rfl rfl qbwp (qmz0 Pk.zero adZ) (KB w hS) qbwp) ⟨fun d hd=>(by cases hd),ST w hS,trivial,fun i h=>h,[],rfl,q2y4.off_refl 0 _⟩⟩)) ?_
 refine q2y4.pu rfl rfl (fun _=>trivial) (fun x w hm hS=>⟨rfl,rfl,rfl⟩) ?_
 exact q2y4.All.fin rfl
theorem q99o{Q:Exit→Act→World→Prop}{S:Bool×Bool→World→Prop}{W:World}{B R cb:Nat}{v k z:Int}{C D:Array Value}{x1 x2 x3 x4 x5 x7 x10 x11 x12 x13 x14 x15 x16 x17 x18 x19 x20 x21 x22 x23 x24 x25 x26 x27 x28 x29 x30 x31 x32 x33 x34 x35 x36 x37 x38 x39 x40 x41 x42 x43 x44 x45 x46 x47 x48 x49 x50 x51 x52 x53 x54 x55 x56 x57 x58 x59 x60 x61 x62 x63 x64 x65 x66 x67:Value}
 (hS:S (false,false) W.drew) (hC:C.size=25) (hD1:D.size=25) (hD2:D.all (·.oneCell')=true) (KB:∀x w,S x w→w.heap[B]? = some (.cells C 29 (0,0))) (KR:∀x w,S x w→x.2=false→w.heap[R]? = some (.cells pkZ 29 (0,0)))
 (HV:∀(x:Bool×Bool) (w:World),S x w→Calls Tryz.prog 21 #[(.int .i64 v),(.agg C)] w fun e w'=>e = .returned (.int .i64 k)∧S x w')
 (HD:∀(x:Bool×Bool) (w:World),S x w→x.1=false→Calls Tryz.prog 65 #[(.pointer (some ⟨cb,0,none⟩)),(.agg C),(.int .i64 k)] w fun e w'=>e = .returned (.tuple #[(.agg D),(.int .i64 z)])∧S (true,x.2) w')
 (ST:∀x w,S x w→x.1=true→x.2=false→S (x.1,true) (w.setRow R D))
 (fin:∀w,S (true,true) w→Q .normal ⟨#[(.int .i64 v),x1,x2,x3,x4,x5,(.pointer (some ⟨R,0,none⟩)),(.int .i64 z),(.pointer (some ⟨cb,0,none⟩)),(.pointer (some ⟨B,0,none⟩)),x10,x11,x12,x13,x14,x15,x16,x17,x18,x19,x20,x21,x22,x23,x24,x25,x26,x27,x28,x29,x30,x31,x32,x33,x34,x35,x36,x37,x38,x39,x40,x41,x42,x43,x44,x45,x46,x47,x48,x49,x50,x51,x52,x53,x54,x55,x56,x57,x58,x59,(.pointer (some ⟨cb,0,none⟩)),(.agg C),(.int .i64 v),(.agg C),(.int .i64 k),(.tuple #[(.agg D),(.int .i64 z)]),(.agg D),(.int .i64 z)],[]⟩ w) :
 (Code.region 10 (qfhu.opsAt 10 Tryz.f20.body) true).wp Tryz.prog Q ⟨#[(.int .i64 v),x1,x2,x3,x4,x5,(.pointer (some ⟨R,0,none⟩)),x7,(.pointer (some ⟨cb,0,none⟩)),(.pointer (some ⟨B,0,none⟩)),x10,x11,x12,x13,x14,x15,x16,x17,x18,x19,x20,x21,x22,x23,x24,x25,x26,x27,x28,x29,x30,x31,x32,x33,x34,x35,x36,x37,x38,x39,x40,x41,x42,x43,x44,x45,x46,x47,x48,x49,x50,x51,x52,x53,x54,x55,x56,x57,x58,x59,x60,x61,x62,x63,x64,x65,x66,x67],[]⟩ W:=by
 refine qu7n.wp (fresh:=fun i x=>(i=5→x.1=false)∧(i=8→x.2=false)) (hf0:=fun i=>⟨fun _=>rfl,fun _=>rfl⟩) (x:=(false,false)) (S:=S) (made:=fun i x=>(i=5→x.1=true)∧(i=8→x.2=true)) (war:=[]) (ds:=[60,61,62,63,64,65,66,67,7]) (A:=[(.int .i64 v),x1,x2,x3,x4,x5,(.pointer (some ⟨R,0,none⟩)),x7,(.pointer (some ⟨cb,0,none⟩)),(.pointer (some ⟨B,0,none⟩)),x10,x11,x12,x13,x14,x15,x16,x17,x18,x19,x20,x21,x22,x23,x24,x25,x26,x27,x28,x29,x30,x31,x32,x33,x34,x35,x36,x37,x38,x39,x40,x41,x42,x43,x44,x45,x46,x47,x48,x49,x50,x51,x52,x53,x54,x55,x56,x57,x58,x59,x60,x61,x62,x63,x64,x65,x66,x67]) (B:=fun x=>[(.int .i64 v),x1,x2,x3,x4,x5,(.pointer (some ⟨R,0,none⟩)),(.int .i64 z),(.pointer (some ⟨cb,0,none⟩)),(.pointer (some ⟨B,0,none⟩)),x10,x11,x12,x13,x14,x15,x16,x17,x18,x19,x20,x21,x22,x23,x24,x25,x26,x27,x28,x29,x30,x31,x32,x33,x34,x35,x36,x37,x38,x39,x40,x41,x42,x43,x44,x45,x46,x47,x48,x49,x50,x51,x52,x53,x54,x55,x56,x57,x58,x59,(.pointer (some ⟨cb,0,none⟩)),(.agg C),(.int .i64 v),(.agg C),(.int .i64 k),(.tuple #[(.agg D),(.int .i64 z)]),(.agg D),(.int .i64 z)]) (D:=[]) (by kernel_rfl) (by kernel_rfl) (by kernel_rfl) ?_ hS ?_ ?_
 ·exact fun x=>(by repeat (first | exact trivial | refine⟨.inr rfl,?_⟩ | refine⟨.inl rfl,?_⟩))
 refine q2y4.All.step rfl (qu7n.Does.pure (val:=fun x=>(.pointer (some ⟨cb,0,none⟩))) rfl (fun x=>⟨fun h=>absurd h (by decide),fun h=>absurd h (by decide)⟩) (fun x w hm hS=>⟨rfl,rfl,rfl⟩)) ?_
 refine q2y4.All.step rfl (qu7n.Does.pure (val:=fun x=>(.agg C)) rfl (fun x=>⟨fun h=>absurd h (by decide),fun h=>absurd h (by decide)⟩) (fun x w hm hS=>⟨rfl,rfl,qjuh rfl hC (KB x w hS)⟩)) ?_
 refine q2y4.All.step rfl (qu7n.Does.pure (val:=fun x=>(.int .i64 v)) rfl (fun x=>⟨fun h=>absurd h (by decide),fun h=>absurd h (by decide)⟩) (fun x w hm hS=>⟨rfl,rfl,rfl⟩)) ?_
 refine q2y4.All.step rfl (qu7n.Does.pure (val:=fun x=>(.agg C)) rfl (fun x=>⟨fun h=>absurd h (by decide),fun h=>absurd h (by decide)⟩) (fun x w hm hS=>⟨rfl,rfl,qjuh rfl hC (KB x w hS)⟩)) ?_
 refine q2y4.All.step rfl (qu7n.Does.call (args:=fun x=>#[(.int .i64 v),(.agg C)]) (val:=fun x=>(.int .i64 k)) rfl (fun x=>⟨fun h=>absurd h (by decide),fun h=>absurd h (by decide)⟩) (fun x w hm hS=>⟨rfl,rfl,qpjl.enter2 Tryz.func21 rfl rfl rfl,HV x w hS⟩)) ?_
 refine q2y4.All.step rfl (qu7n.Does.act (args:=fun x=>#[(.pointer (some ⟨cb,0,none⟩)),(.agg C),(.int .i64 k)]) (val:=fun x=>(.tuple #[(.agg D),(.int .i64 z)])) (nx:=fun x=>(true,x.2)) (fun y hy x=>by cases hy;rfl) (fun x=>rfl) (fun x=>⟨fun _=>rfl,fun h=>absurd h (by decide)⟩) (fun i x h=>⟨fun _=>rfl,h.2⟩) (fun i x hi h=>⟨fun e=>absurd e hi,h.2⟩) (fun x w hm hf hS=>⟨rfl,qpjl.enter3 Tryz.func65 rfl rfl rfl rfl,HD x w hS (hf.1 rfl)⟩)) ?_
 refine q2y4.All.step rfl (qu7n.Does.pure (val:=fun x=>(.agg D)) rfl (fun x=>⟨fun h=>absurd h (by decide),fun h=>absurd h (by decide)⟩) (fun x w hm hS=>⟨rfl,rfl,rfl⟩)) ?_
 refine q2y4.All.step rfl (qu7n.Does.pure (val:=fun x=>(.int .i64 z)) rfl (fun x=>⟨fun h=>absurd h (by decide),fun h=>absurd h (by decide)⟩) (fun x w hm hS=>⟨rfl,rfl,rfl⟩)) ?_
 refine q2y4.All.step rfl ((fun x w hm hf hS => .inl ⟨rfl,.skip (x.1,true) _ (q80d rfl rfl hD1 hD2 (KR x w hS (hf.2 rfl)) qbwp) ⟨fun d hd=>(by cases hd),ST x w hS ((hm 5 (by kernel_rfl) (by decide)).1 rfl) (hf.2 rfl),⟨fun h=>absurd h (by decide),fun _=>rfl⟩,fun i h=>⟨h.1,fun _=>rfl⟩,fun i hi h=>⟨h.1,fun e=>absurd e hi⟩,[],rfl,q2y4.off_refl 0 _⟩⟩)) ?_
 refine q2y4.All.step rfl (qu7n.Does.pure (val:=fun x=>(.int .i64 z)) rfl (fun x=>⟨fun h=>absurd h (by decide),fun h=>absurd h (by decide)⟩) (fun x w hm hS=>⟨rfl,rfl,rfl⟩)) ?_
 ·exact q2y4.All.fin rfl
 exact(fun x w hm hS=>fin w (by have h:=(hm 5 (by decide+kernel)).1 rfl;have h2:=(hm 8 (by decide+kernel)).2 rfl;rw[show(true,true)=x from(Prod.ext h h2).symm];exact hS))
end Go.Proofs.YtbecggefmbpnoaaGreatDoor
