/- The contract of head.Same: whether two packets are equal. Condition: at most 70,000 elements a list. -/
import Derived.Test.YtombgnfedafkjaaGreatDoorK22
set_option maxHeartbeats 8000000
set_option maxRecDepth 100000
namespace Go.Proofs.YtombgnfedafkjaaGreatDoor
open Lib(hid)
open Proofs.Tryz
open Go.RowKit
structure SmS(w:World)(p:Pk)(a:Ad)(q:Pk)(b:Ad)(W:World):Prop where
 low:Below w.heap.size w W
 p:W.heap[w.heap.size]?=some (.cells (pkC p a) 32 (0,0))
 q:W.heap[w.heap.size+1]?=some (.cells (pkC q b) 32 (0,0))
theorem SmS.call{w W W':World}{p q:Pk}{a b:Ad}(h:SmS w p a q b W)(hb:Below W.heap.size W W'):SmS w p a q b W':=
 ⟨qxh2 h.low hb,(hb.block _ (lt_of_block h.p)).trans h.p,(hb.block _ (lt_of_block h.q)).trans h.q⟩
theorem qyk8(p q:Pk)(a b:Ad)(w:World)(hp:PkAt w p a)(hq:PkAt w q b)(sp:q21o p)(sq:q21o q) :
 Calls prog 140 #[pkV p a,pkV q b] w fun e w'=>e=.returned (.bool (decide (p=q)))/\Below w.heap.size w w':=by
 have S0:SmS w p a q b ((w.alloc (.cells (pkC p a) 32)).alloc (.cells (pkC q b) 32)):=⟨qxh2 (qybm _) (qybm _),heap_alloc2_old _ _ _,heap_alloc2_new _ _ _⟩
 have S0:SmS w p a q b (((w.alloc (.cells (pkC p a) 32)).alloc (.cells (pkC q b) 32))).drew:=⟨S0.low.drew,S0.p,S0.q⟩
 have CE:∀(x:Pk) (c:Ad),(∀(B j:Nat) (u:Value) (W:World),W.heap[B]?=some (.cells (pkC x c) 32 (0,0))->(pkC x c)[j]?=some u->W.cell? ⟨B,j,none⟩=some u):=fun x c B j u W h hu=>(cell_of_row _ _ j _ _ _ h).trans hu;have N1:∀(x:Pk) (c:Ad) W,SmS w p a q b W->Calls prog 175 #[.agg (pkC x c)] W fun e w'=>e=.returned (.agg (q3zb x))/\SmS w p a q b w':=fun x c W h=>(qi7b x c W).mono fun e w' ⟨he,hb⟩=>⟨he,h.call hb⟩
 have N2:∀(x:Pk) (c:Ad) W,SmS w p a q b W->Calls prog 176 #[.agg (pkC x c)] W fun e w'=>e=.returned (.agg (qjjk x))/\SmS w p a q b w':=fun x c W h=>(qu0d x c W).mono fun e w' ⟨he,hb⟩=>⟨he,h.call hb⟩
 have N3:∀(x:Pk) (c:Ad) W,SmS w p a q b W->Calls prog 177 #[.agg (pkC x c)] W fun e w'=>e=.returned (.agg (q5cx x))/\SmS w p a q b w':=fun x c W h=>(quge x c W).mono fun e w' ⟨he,hb⟩=>⟨he,h.call hb⟩
 have F3:∀W,SmS w p a q b W->Calls prog 178 #[(.slice a.cs p.codes.length a.cc),(.slice b.cs q.codes.length b.cc),.func (.func 179) #[] #[]] W fun e w'=>e=.returned (.bool (decide (p.codes=q.codes)))/\SmS w p a q b w':=fun W h=>(q5se _ _ _ _ _ _ p.codes q.codes W (hp.cs.below (h.low)) (hq.cs.below (h.low)) rfl rfl (by have:=sp;unfold q21o at this;omega) (by have:=sq;unfold q21o at this;omega)).mono fun e w' ⟨he,hb⟩=>⟨he,h.call hb⟩
 have F4:∀W,SmS w p a q b W->Calls prog 180 #[(.slice a.fs p.filters.length a.fc),(.slice b.fs q.filters.length b.fc),.func (.func 181) #[] #[]] W fun e w'=>e=.returned (.bool (decide (p.filters=q.filters)))/\SmS w p a q b w':=fun W h=>(qm9z _ _ _ _ _ _ p.filters q.filters W (hp.fs.below (h.low)) (hq.fs.below (h.low)) rfl rfl (by have:=sp;unfold q21o at this;omega) (by have:=sq;unfold q21o at this;omega)).mono fun e w' ⟨he,hb⟩=>⟨he,h.call hb⟩
 have F5:∀W,SmS w p a q b W->Calls prog 182 #[(.slice a.ps p.props.length a.pc),(.slice b.ps q.props.length b.pc),.func (.func 183) #[] #[]] W fun e w'=>e=.returned (.bool (decide (p.props=q.props)))/\SmS w p a q b w':=fun W h=>(qk57 _ _ _ _ _ _ p.props q.props W (hp.ps.below (h.low)) (hq.ps.below (h.low)) rfl rfl (by have:=sp;unfold q21o at this;omega) (by have:=sq;unfold q21o at this;omega)).mono fun e w' ⟨he,hb⟩=>⟨he,h.call hb⟩
 have F6:∀W,SmS w p a q b W->Calls prog 182 #[(.slice a.w p.wProps.length a.wc),(.slice b.w q.wProps.length b.wc),.func (.func 183) #[] #[]] W fun e w'=>e=.returned (.bool (decide (p.wProps=q.wProps)))/\SmS w p a q b w':=fun W h=>(qk57 _ _ _ _ _ _ p.wProps q.wProps W (hp.w.below (h.low)) (hq.w.below (h.low)) rfl rfl (by have:=sp;unfold q21o at this;omega) (by have:=sq;unfold q21o at this;omega)).mono fun e w' ⟨he,hb⟩=>⟨he,h.call hb⟩
 have C1:=qwmp p a;have C2:=qwmp q b;have cp22:∀W,SmS w p a q b W->W.cell? ⟨w.heap.size,22,none⟩=some (.slice a.cs p.codes.length a.cc):=fun W h=>CE p a _ 22 _ W h.p rfl;have cp23:∀W,SmS w p a q b W->W.cell? ⟨w.heap.size,23,none⟩=some (.slice a.fs p.filters.length a.fc):=fun W h=>CE p a _ 23 _ W h.p rfl;have cp24:∀W,SmS w p a q b W->W.cell? ⟨w.heap.size,24,none⟩=some (.slice a.ps p.props.length a.pc):=fun W h=>CE p a _ 24 _ W h.p rfl;have cp19:∀W,SmS w p a q b W->W.cell? ⟨w.heap.size,19,none⟩=some (.slice a.w p.wProps.length a.wc):=fun W h=>CE p a _ 19 _ W h.p rfl;have cq22:∀W,SmS w p a q b W->W.cell? ⟨w.heap.size+1,22,none⟩=some (.slice b.cs q.codes.length b.cc):=fun W h=>CE q b _ 22 _ W h.q rfl;have cq23:∀W,SmS w p a q b W->W.cell? ⟨w.heap.size+1,23,none⟩=some (.slice b.fs q.filters.length b.fc):=fun W h=>CE q b _ 23 _ W h.q rfl;have cq24:∀W,SmS w p a q b W->W.cell? ⟨w.heap.size+1,24,none⟩=some (.slice b.ps q.props.length b.pc):=fun W h=>CE q b _ 24 _ W h.q rfl;have cq19:∀W,SmS w p a q b W->W.cell? ⟨w.heap.size+1,19,none⟩=some (.slice b.w q.wProps.length b.wc):=fun W h=>CE q b _ 19 _ W h.q rfl;have K1:=N1 p a;have K2:=N1 q b;have K3:=N2 p a;have K4:=N2 q b;have K5:=N3 p a;have K6:=N3 q b;have P1:∀W,SmS w p a q b W->W.heap[w.heap.size]?=some (.cells (pkC p a) 32 (0,0)):=fun W h=>h.p;have P2:∀W,SmS w p a q b W->W.heap[w.heap.size+1]?=some (.cells (pkC q b) 32 (0,0)):=fun W h=>h.q;have LO:∀W,SmS w p a q b W->Below w.heap.size w W:=fun W h=>h.low;have I140:=qpgn p q;unfold pkV;clear CE N1 N2 N3 hp hq sp sq;generalize pkC p a=C at *;generalize pkC q b=E at *;generalize hSS:SmS w p a q b=S at *;have HS:=hid hSS;clear hSS;have hS0:=hid S0;have hC1:=hid C1;have hC2:=hid C2;have hP1:=hid P1;have hP2:=hid P2;have hLO:=hid LO;have hK1:=hid K1;have hK2:=hid K2;have hK3:=hid K3;have hK4:=hid K4;have hK5:=hid K5;have hK6:=hid K6;have hF3:=hid F3;have hF4:=hid F4;have hF5:=hid F5;have hF6:=hid F6;have hcp22:=hid cp22;have hcp23:=hid cp23;have hcp24:=hid cp24;have hcp19:=hid cp19;have hcq22:=hid cq22;have hcq23:=hid cq23;have hcq24:=hid cq24;have hcq19:=hid cq19;have HI:=hid I140;clear I140 S0 C1 C2 P1 P2 LO K1 K2 K3 K4 K5 K6 F3 F4 F5 F6 cp22 cp23 cp24 cp19 cq22 cq23 cq24 cq19;obtain⟨R,hR⟩:∃R,decide (p=q)=R:=⟨_,rfl⟩
 rw[hR];have HR:=hid hR;clear hR;go_in;go_wp2_with fail;refine qw00 (S:=S) (p:=p) (q:=q) (a:=a) (b:=b) (C:=C) (E:=E) (B:=w.heap.size) hS0.out hC1.out hC2.out hP1.out hP2.out hK1.out hK2.out hK3.out hK4.out hK5.out hK6.out hcp22.out hcq22.out hF3.out hcp23.out hcq23.out hF4.out hcp24.out hcq24.out hF5.out hcp19.out hcq19.out hF6.out ?_;intro r W hr hW;have BW:=hid (hLO.out W hW);obtain rfl:R=r:=by rw[<-hr,<-HR.out,Bool.eq_iff_iff];simp only[Bool.and_eq_true,decide_eq_true_eq,HI.out,and_assoc]
 clear hW hr
 intros
 go_wp2;go_ret;exact⟨rfl,BW.out⟩
theorem qm47{Q:Exit->Act->World->Prop}{S:World->Prop}{W:World}{B:Nat}{v k i c:Int}{C D:Array Value}{m s:Bool}{x1 x2 x5 x6 x7 x8 x9 x10 x11 x12 x13 x14 x15 x16 x17 x18 x19 x20 x21 x22 x23 x24 x25 x26 x27 x28 x29 x30 x31 x32:Value}
 (hS:S W.drew)
 (hC:C.size=25) (KC:∀w,S w->w.heap[B]?=some (.cells C 32 (0,0))) (K0:∀w,S w->w.cell? ⟨B,0,none⟩=some (.int .i64 k)) (K4:∀w,S w->w.cell? ⟨B,4,none⟩=some (.int .i64 i)) (K21:∀w,S w->w.cell? ⟨B,21,none⟩=some (.int .i64 c))
 (H0:∀w,S w->Calls prog 111 #[.int .i64 v,.int .i64 k] w fun e w'=>e=.returned (.bool (versC v&&qvya k))/\S w')
 (H1:∀w,S w->Calls prog 187 #[.int .i64 k,.int .i64 c] w fun e w'=>e=.returned (.bool m)/\S w')
 (H2:∀w,S w->Calls prog 188 #[.int .i64 v,.agg C] w fun e w'=>e=.returned (.agg D)/\S w')
 (H3:∀w,S w->Calls prog 140 #[.agg C,.agg D] w fun e w'=>e=.returned (.bool s)/\S w')
 (fin:∀(r:Bool) (w:World),(versC v&&qvya k&&decide (0<i)&&decide (i<=65535)&&m&&s)=r->S w->∀x5 x6 x7 x8 x9 x10 x11 x12 x13 x14 x15 x16 x17 x18 x19 x20 x21 x22 x23 x24 x25 x26 x27 x28 x29 x30 x31 x32,Q .normal ⟨#[(.int .i64 v),x1,x2,(.pointer (some ⟨B,0,none⟩)),(.bool r),x5,x6,x7,x8,x9,x10,x11,x12,x13,x14,x15,x16,x17,x18,x19,x20,x21,x22,x23,x24,x25,x26,x27,x28,x29,x30,x31,x32],[]⟩ w) :
 (Code.region 1 (qfhu.opsAt 1 Tryz.f147.body) true).wp prog Q ⟨#[(.int .i64 v),x1,x2,(.pointer (some ⟨B,0,none⟩)),(.bool false),x5,x6,x7,x8,x9,x10,x11,x12,x13,x14,x15,x16,x17,x18,x19,x20,x21,x22,x23,x24,x25,x26,x27,x28,x29,x30,x31,x32],[]⟩ W:=by
 obtain⟨d0,ed0⟩:∃d,(versC v&&qvya k)=d:=⟨_,rfl⟩
 obtain⟨d1,ed1⟩:∃d,(decide (0<i))=d:=⟨_,rfl⟩
 obtain⟨d2,ed2⟩:∃d,(decide (i<=65535))=d:=⟨_,rfl⟩
 obtain⟨d3,ed3⟩:∃d,(m)=d:=⟨_,rfl⟩
 obtain⟨d4,ed4⟩:∃d,(s)=d:=⟨_,rfl⟩
 rw[ed0,ed1,ed2,ed3,ed4] at fin;rw[ed0] at H0;rw[ed3] at H1;rw[ed4] at H3;cases d0
 case' false=>refine qfhu.wp_in (ds:=[5,6,7,8,9,10,11,12,13,14,15,16,17,18,19,20,21,22,23,24,25,26,27,28,29,30,31,32,4]) (B:=[(.int .i64 v),x1,x2,(.pointer (some ⟨B,0,none⟩)),(.bool false),(.int .i64 v),(.pointer (some ⟨B,0,none⟩)),(.int .i64 k),(.bool false),(.bool false),undef,undef,undef,(.bool false),(.bool false),undef,undef,undef,(.bool false),(.bool false),undef,undef,undef,undef,undef,(.bool false),(.bool false),undef,undef,undef,undef,undef,(.bool false)]) (D:=[]) (by kernel_rfl) (by kernel_rfl) (by kernel_rfl) ?_ hS ?_ (fun w hS=>fin false w rfl hS _ _ _ _ _ _ _ _ _ _ _ _ _ _ _ _ _ _ _ _ _ _ _ _ _ _ _ _)
 case' true=>
  cases d1
  case' false=>refine qfhu.wp_in (ds:=[5,6,7,8,9,10,11,12,13,14,15,16,17,18,19,20,21,22,23,24,25,26,27,28,29,30,31,32,4]) (B:=[(.int .i64 v),x1,x2,(.pointer (some ⟨B,0,none⟩)),(.bool false),(.int .i64 v),(.pointer (some ⟨B,0,none⟩)),(.int .i64 k),(.bool true),(.bool true),(.pointer (some ⟨B,4,none⟩)),(.int .i64 i),(.bool false),(.bool false),(.bool false),undef,undef,undef,(.bool false),(.bool false),undef,undef,undef,undef,undef,(.bool false),(.bool false),undef,undef,undef,undef,undef,(.bool false)]) (D:=[]) (by kernel_rfl) (by kernel_rfl) (by kernel_rfl) ?_ hS ?_ (fun w hS=>fin false w rfl hS _ _ _ _ _ _ _ _ _ _ _ _ _ _ _ _ _ _ _ _ _ _ _ _ _ _ _ _)
  case' true=>
   cases d2
   case' false=>refine qfhu.wp_in (ds:=[5,6,7,8,9,10,11,12,13,14,15,16,17,18,19,20,21,22,23,24,25,26,27,28,29,30,31,32,4]) (B:=[(.int .i64 v),x1,x2,(.pointer (some ⟨B,0,none⟩)),(.bool false),(.int .i64 v),(.pointer (some ⟨B,0,none⟩)),(.int .i64 k),(.bool true),(.bool true),(.pointer (some ⟨B,4,none⟩)),(.int .i64 i),(.bool true),(.bool true),(.bool true),(.pointer (some ⟨B,4,none⟩)),(.int .i64 i),(.bool false),(.bool false),(.bool false),undef,undef,undef,undef,undef,(.bool false),(.bool false),undef,undef,undef,undef,undef,(.bool false)]) (D:=[]) (by kernel_rfl) (by kernel_rfl) (by kernel_rfl) ?_ hS ?_ (fun w hS=>fin false w rfl hS _ _ _ _ _ _ _ _ _ _ _ _ _ _ _ _ _ _ _ _ _ _ _ _ _ _ _ _)
   case' true=>
    cases d3
    case' false=>refine qfhu.wp_in (ds:=[5,6,7,8,9,10,11,12,13,14,15,16,17,18,19,20,21,22,23,24,25,26,27,28,29,30,31,32,4]) (B:=[(.int .i64 v),x1,x2,(.pointer (some ⟨B,0,none⟩)),(.bool false),(.int .i64 v),(.pointer (some ⟨B,0,none⟩)),(.int .i64 k),(.bool true),(.bool true),(.pointer (some ⟨B,4,none⟩)),(.int .i64 i),(.bool true),(.bool true),(.bool true),(.pointer (some ⟨B,4,none⟩)),(.int .i64 i),(.bool true),(.bool true),(.bool true),(.pointer (some ⟨B,0,none⟩)),(.int .i64 k),(.pointer (some ⟨B,21,none⟩)),(.int .i64 c),(.bool false),(.bool false),(.bool false),undef,undef,undef,undef,undef,(.bool false)]) (D:=[]) (by kernel_rfl) (by kernel_rfl) (by kernel_rfl) ?_ hS ?_ (fun w hS=>fin false w rfl hS _ _ _ _ _ _ _ _ _ _ _ _ _ _ _ _ _ _ _ _ _ _ _ _ _ _ _ _)
    case' true=>
     cases d4
     case' false=>refine qfhu.wp_in (ds:=[5,6,7,8,9,10,11,12,13,14,15,16,17,18,19,20,21,22,23,24,25,26,27,28,29,30,31,32,4]) (B:=[(.int .i64 v),x1,x2,(.pointer (some ⟨B,0,none⟩)),(.bool false),(.int .i64 v),(.pointer (some ⟨B,0,none⟩)),(.int .i64 k),(.bool true),(.bool true),(.pointer (some ⟨B,4,none⟩)),(.int .i64 i),(.bool true),(.bool true),(.bool true),(.pointer (some ⟨B,4,none⟩)),(.int .i64 i),(.bool true),(.bool true),(.bool true),(.pointer (some ⟨B,0,none⟩)),(.int .i64 k),(.pointer (some ⟨B,21,none⟩)),(.int .i64 c),(.bool true),(.bool true),(.bool true),(.agg C),(.int .i64 v),(.agg C),(.agg D),(.bool false),(.bool false)]) (D:=[]) (by kernel_rfl) (by kernel_rfl) (by kernel_rfl) ?_ hS ?_ (fun w hS=>fin false w rfl hS _ _ _ _ _ _ _ _ _ _ _ _ _ _ _ _ _ _ _ _ _ _ _ _ _ _ _ _)
     case' true=>refine qfhu.wp_in (ds:=[5,6,7,8,9,10,11,12,13,14,15,16,17,18,19,20,21,22,23,24,25,26,27,28,29,30,31,32,4]) (B:=[(.int .i64 v),x1,x2,(.pointer (some ⟨B,0,none⟩)),(.bool true),(.int .i64 v),(.pointer (some ⟨B,0,none⟩)),(.int .i64 k),(.bool true),(.bool true),(.pointer (some ⟨B,4,none⟩)),(.int .i64 i),(.bool true),(.bool true),(.bool true),(.pointer (some ⟨B,4,none⟩)),(.int .i64 i),(.bool true),(.bool true),(.bool true),(.pointer (some ⟨B,0,none⟩)),(.int .i64 k),(.pointer (some ⟨B,21,none⟩)),(.int .i64 c),(.bool true),(.bool true),(.bool true),(.agg C),(.int .i64 v),(.agg C),(.agg D),(.bool true),(.bool true)]) (D:=[]) (by kernel_rfl) (by kernel_rfl) (by kernel_rfl) ?_ hS ?_ (fun w hS=>fin true w rfl hS _ _ _ _ _ _ _ _ _ _ _ _ _ _ _ _ _ _ _ _ _ _ _ _ _ _ _ _)
 all_goals first
  |(
   refine qfhu.pu rfl rfl rfl rfl (fun w hS=>rfl) ?_;refine qfhu.pu rfl rfl rfl rfl (fun w hS=>qd7q rfl) ?_;refine qfhu.pu rfl rfl rfl rfl (fun w hS=>qkcv rfl (K0 w hS)) ?_;refine qfhu.ca rfl rfl rfl rfl (fun w=>qpjl.enter2 func111 rfl rfl rfl) H0 ?_;refine qfhu.pu rfl rfl rfl rfl (fun w hS=>rfl) ?_
   first|refine qfhu.sk rfl rfl rfl rfl ?_|refine qfhu.pu rfl rfl rfl rfl (fun w hS=>q43k rfl) ?_
   first|refine qfhu.sk rfl rfl rfl rfl ?_|refine qfhu.pu rfl rfl rfl rfl (fun w hS=>qkcv rfl (K4 w hS)) ?_
   first|refine qfhu.sk rfl rfl rfl rfl ?_|refine qfhu.pu rfl rfl rfl rfl (fun w hS=>qyhu rfl ed1) ?_
   refine qfhu.pu rfl rfl rfl rfl (fun w hS=>rfl) ?_;refine qfhu.pu rfl rfl rfl rfl (fun w hS=>rfl) ?_
   first|refine qfhu.sk rfl rfl rfl rfl ?_|refine qfhu.pu rfl rfl rfl rfl (fun w hS=>q43k rfl) ?_
   first|refine qfhu.sk rfl rfl rfl rfl ?_|refine qfhu.pu rfl rfl rfl rfl (fun w hS=>qkcv rfl (K4 w hS)) ?_
   first|refine qfhu.sk rfl rfl rfl rfl ?_|refine qfhu.pu rfl rfl rfl rfl (fun w hS=>qbhz rfl ed2) ?_
   refine qfhu.pu rfl rfl rfl rfl (fun w hS=>rfl) ?_;refine qfhu.pu rfl rfl rfl rfl (fun w hS=>rfl) ?_
   first|refine qfhu.sk rfl rfl rfl rfl ?_|refine qfhu.pu rfl rfl rfl rfl (fun w hS=>qd7q rfl) ?_
   first|refine qfhu.sk rfl rfl rfl rfl ?_|refine qfhu.pu rfl rfl rfl rfl (fun w hS=>qkcv rfl (K0 w hS)) ?_
   first|refine qfhu.sk rfl rfl rfl rfl ?_|refine qfhu.pu rfl rfl rfl rfl (fun w hS=>q0yj rfl) ?_
   first|refine qfhu.sk rfl rfl rfl rfl ?_|refine qfhu.pu rfl rfl rfl rfl (fun w hS=>qkcv rfl (K21 w hS)) ?_
   first|refine qfhu.sk rfl rfl rfl rfl ?_|refine qfhu.ca rfl rfl rfl rfl (fun w=>qpjl.enter2 func187 rfl rfl rfl) H1 ?_
   refine qfhu.pu rfl rfl rfl rfl (fun w hS=>rfl) ?_;refine qfhu.pu rfl rfl rfl rfl (fun w hS=>rfl) ?_
   first|refine qfhu.sk rfl rfl rfl rfl ?_|refine qfhu.pu rfl rfl rfl rfl (fun w hS=>qjuh rfl hC (KC w hS)) ?_
   first|refine qfhu.sk rfl rfl rfl rfl ?_|refine qfhu.pu rfl rfl rfl rfl (fun w hS=>rfl) ?_
   first|refine qfhu.sk rfl rfl rfl rfl ?_|refine qfhu.pu rfl rfl rfl rfl (fun w hS=>qjuh rfl hC (KC w hS)) ?_
   first|refine qfhu.sk rfl rfl rfl rfl ?_|refine qfhu.ca rfl rfl rfl rfl (fun w=>qpjl.enter2 func188 rfl rfl rfl) H2 ?_
   first|refine qfhu.sk rfl rfl rfl rfl ?_|refine qfhu.ca rfl rfl rfl rfl (fun w=>qpjl.enter2 func140 rfl rfl rfl) H3 ?_
   refine qfhu.pu rfl rfl rfl rfl (fun w hS=>rfl) ?_;refine qfhu.pu rfl rfl rfl rfl (fun w hS=>rfl) ?_;exact qfhu.All.fin rfl)
  |exact(by repeat (first|exact trivial|refine⟨.inr rfl,?_⟩|refine⟨.inl rfl,?_⟩))
section
variable{a:Act}{w:World}{d:Option Tmp}{p:String}{af:Array Edge}{gd:Option (Nat×Bool)}{x y z:Tmp}{r:TypeId}
theorem qkf4{g:Nat}(hx:a.eval (.tmp x)=.pointer (some ⟨g,0,none⟩)) :
 (execOp a.eval {dst:=d,op := .nilCheck (.tmp x),type:=r,pos:=p,after:=af,guard:=gd}).run prog w=.ok (.value (.pointer (some ⟨g,0,none⟩))) w:=by
 generalize a.eval=f at *;go_simp
end
theorem qv1p{Q:Exit->Act->World->Prop}{S:Option (Option Addr×Nat)->World->Prop}{W:World}{B cb n:Nat}{kind k f:Int}{t:ByteArray}{x2 x3 x4 x5 x6 x7 x8 x9 x10 x11 x12 x13 x14 x15 x16 x17 x18 x19 x20 x21 x22 x23 x24 x25 x26 x27 x28 x29 x30 x31 x32 x33 x34 x35 x36 x37 x38 x39 x40:Value}
 (hS:S none W.drew) (K0:∀x w,S x w->w.cell? ⟨B,0,none⟩=some (.int .i64 kind))
 (H0:∀x w,S x w->Calls prog 40 #[(.pointer (some ⟨cb,0,none⟩))] w fun e w'=>e=.returned (.string t)/\S x w')
 (H1:∀x w,S x w->Calls prog 146 #[.int .i64 kind,.string t] w fun e w'=>∃A c,e=.returned (.tuple #[.slice A n c,.int .i64 k,.int .i64 f])/\S (some (A,c)) w')
 (fin:∀x w,x.isSome=true->S x w->Q .normal ⟨#[(.pointer (some ⟨cb,0,none⟩)),(.pointer (some ⟨B,0,none⟩)),x2,x3,x4,(.slice (gA x) n (gC x)),(.int .i64 k),(.int .i64 f),x8,x9,x10,x11,x12,x13,x14,x15,x16,x17,x18,x19,(.tuple #[(.slice (gA x) n (gC x)),(.int .i64 k),(.int .i64 f)]),(.pointer (some ⟨B,0,none⟩)),(.pointer (some ⟨B,0,none⟩)),(.pointer (some ⟨B,0,none⟩)),(.int .i64 kind),(.pointer (some ⟨cb,0,none⟩)),(.string t),(.tuple #[(.slice (gA x) n (gC x)),(.int .i64 k),(.int .i64 f)]),(.slice (gA x) n (gC x)),(.int .i64 k),(.int .i64 f),x31,x32,x33,x34,x35,x36,x37,x38,x39,x40],[]⟩ w) :
 (Code.region 6 (qfhu.opsAt 6 Tryz.f151.body) true).wp prog Q ⟨#[(.pointer (some ⟨cb,0,none⟩)),(.pointer (some ⟨B,0,none⟩)),x2,x3,x4,x5,x6,x7,x8,x9,x10,x11,x12,x13,x14,x15,x16,x17,x18,x19,x20,x21,x22,x23,x24,x25,x26,x27,x28,x29,x30,x31,x32,x33,x34,x35,x36,x37,x38,x39,x40],[]⟩ W:=by
 refine q2y4.wp (x:=none) (S:=S) (made:=fun i x=>i=6->x.isSome=true) (war:=[]) (ds:=[21,22,23,24,25,26,27,20,28,29,30,5,6,7]) (A:=[(.pointer (some ⟨cb,0,none⟩)),(.pointer (some ⟨B,0,none⟩)),x2,x3,x4,x5,x6,x7,x8,x9,x10,x11,x12,x13,x14,x15,x16,x17,x18,x19,x20,x21,x22,x23,x24,x25,x26,x27,x28,x29,x30,x31,x32,x33,x34,x35,x36,x37,x38,x39,x40]) (B:=fun x=>[(.pointer (some ⟨cb,0,none⟩)),(.pointer (some ⟨B,0,none⟩)),x2,x3,x4,(.slice (gA x) n (gC x)),(.int .i64 k),(.int .i64 f),x8,x9,x10,x11,x12,x13,x14,x15,x16,x17,x18,x19,(.tuple #[(.slice (gA x) n (gC x)),(.int .i64 k),(.int .i64 f)]),(.pointer (some ⟨B,0,none⟩)),(.pointer (some ⟨B,0,none⟩)),(.pointer (some ⟨B,0,none⟩)),(.int .i64 kind),(.pointer (some ⟨cb,0,none⟩)),(.string t),(.tuple #[(.slice (gA x) n (gC x)),(.int .i64 k),(.int .i64 f)]),(.slice (gA x) n (gC x)),(.int .i64 k),(.int .i64 f),x31,x32,x33,x34,x35,x36,x37,x38,x39,x40]) (D:=[]) (by kernel_rfl) (by kernel_rfl) (by kernel_rfl) ?_ hS ?_ (fun x w hm hS=>fin x w (hm 6 (by decide+kernel) rfl) hS)
 ·exact fun x=>(by repeat (first|exact trivial|refine⟨.inr rfl,?_⟩|refine⟨.inl rfl,?_⟩))
 refine q2y4.All.step rfl (q2y4.Does.pure (val:=fun x=>(.pointer (some ⟨B,0,none⟩))) rfl (fun x h=>absurd h (by decide)) (fun x w hm hS=>⟨rfl,rfl,rfl⟩)) ?_;refine q2y4.All.step rfl (q2y4.Does.pure (val:=fun x=>(.pointer (some ⟨B,0,none⟩))) rfl (fun x h=>absurd h (by decide)) (fun x w hm hS=>⟨rfl,rfl,qkf4 rfl⟩)) ?_;refine q2y4.All.step rfl (q2y4.Does.pure (val:=fun x=>(.pointer (some ⟨B,0,none⟩))) rfl (fun x h=>absurd h (by decide)) (fun x w hm hS=>⟨rfl,rfl,qd7q rfl⟩)) ?_;refine q2y4.All.step rfl (q2y4.Does.pure (val:=fun x=>(.int .i64 kind)) rfl (fun x h=>absurd h (by decide)) (fun x w hm hS=>⟨rfl,rfl,qkcv rfl (K0 x w hS)⟩)) ?_;refine q2y4.All.step rfl (q2y4.Does.pure (val:=fun x=>(.pointer (some ⟨cb,0,none⟩))) rfl (fun x h=>absurd h (by decide)) (fun x w hm hS=>⟨rfl,rfl,rfl⟩)) ?_;refine q2y4.All.step rfl (q2y4.Does.call (val:=fun x=>(.string t)) rfl (fun x h=>absurd h (by decide)) (fun x w hm hS=>⟨rfl,rfl,qpjl.enter1 func40 rfl rfl,H0 x w hS⟩)) ?_;refine q2y4.All.step rfl (fun x w hm hS => .inl ⟨rfl,.call _ _ (qpjl.enter2 func146 rfl rfl rfl) ((H1 x w hS).mono fun e w' ⟨A,c,he,h1⟩=>⟨_,some (A,c),he,(fun d hd=>by cases hd;rfl),h1,(fun _=>rfl),(fun i _ _=>rfl),[27,20,28,5],by kernel_rfl,(by repeat (first|exact trivial|refine⟨.inr rfl,?_⟩|refine⟨.inl rfl,?_⟩))⟩)⟩) ?_;refine q2y4.All.step rfl (q2y4.Does.pure (val:=fun x=>(.tuple #[(.slice (gA x) n (gC x)),(.int .i64 k),(.int .i64 f)])) rfl (fun x h=>absurd h (by decide)) (fun x w hm hS=>⟨rfl,rfl,rfl⟩)) ?_;refine q2y4.All.step rfl (q2y4.Does.pure (val:=fun x=>(.slice (gA x) n (gC x))) rfl (fun x h=>absurd h (by decide)) (fun x w hm hS=>⟨rfl,rfl,rfl⟩)) ?_;refine q2y4.All.step rfl (q2y4.Does.pure (val:=fun x=>(.int .i64 k)) rfl (fun x h=>absurd h (by decide)) (fun x w hm hS=>⟨rfl,rfl,rfl⟩)) ?_;refine q2y4.All.step rfl (q2y4.Does.pure (val:=fun x=>(.int .i64 f)) rfl (fun x h=>absurd h (by decide)) (fun x w hm hS=>⟨rfl,rfl,rfl⟩)) ?_;refine q2y4.All.step rfl (q2y4.Does.pure (val:=fun x=>(.slice (gA x) n (gC x))) rfl (fun x h=>absurd h (by decide)) (fun x w hm hS=>⟨rfl,rfl,rfl⟩)) ?_;refine q2y4.All.step rfl (q2y4.Does.pure (val:=fun x=>(.int .i64 k)) rfl (fun x h=>absurd h (by decide)) (fun x w hm hS=>⟨rfl,rfl,rfl⟩)) ?_;refine q2y4.All.step rfl (q2y4.Does.pure (val:=fun x=>(.int .i64 f)) rfl (fun x h=>absurd h (by decide)) (fun x w hm hS=>⟨rfl,rfl,rfl⟩)) ?_;exact q2y4.All.fin rfl
section
variable{a:Act}{w:World}{d:Option Tmp}{p:String}{af:Array Edge}{gd:Option (Nat×Bool)}{x y z:Tmp}{r:TypeId}
theorem qn4o{g:Nat}{D old:Array Value}(hx:a.eval (.tmp x)=.pointer (some ⟨g,0,none⟩))(hy:a.eval (.tmp y)=.agg D)(hD:D.size=25)(h1:D.all (·.oneCell')=true)(hg:w.heap[g]?=some (.cells old 32 (0,0)))(ho:old.size=25) :
 (execOp a.eval {dst:=d,op := .store 32 (.tmp x) (.tmp y),type:=r,pos:=p,after:=af,guard:=gd}).run prog w=.ok .skip (w.setRow g D):=by
 unfold execOp;simp only[hx,hy,Instr.storeAt,Instr.sureAddr,Sem.run_bind,Sem.run_pure,Result.andThen_ok,run_storeVar_row w g 32 32 old D hg (by rw[hD];exact q5nr) (by rw[ho,hD]) h1]
end
theorem q55m{Q:Exit->Act->World->Prop}{S:World->Prop}{W:World}{b B cb:Nat}{f:Int}{C:Array Value}{x0 x1 x3 x4 x5 x7 x9 x10 x11 x12 x13 x14 x15 x16 x17 x18 x19 x20 x21 x22 x23 x24 x25 x26 x27 x28 x29 x30 x31 x32 x33 x34 x35 x36 x37:Value}
 (hS:S W.drew) (hC:C.size=25) (h1:C.all (·.oneCell')=true) (hb:B≠b) (KB:∀w,S w->w.heap[B]?=some (.cells C 32 (0,0))) (KR:∀w,S w->∃old,w.heap[b]?=some (.cells old 32 (0,0))/\old.size=25)
 (H0:∀w,S w->Calls prog 37 #[(.pointer (some ⟨cb,0,none⟩))] w fun e w'=>e=.returned (.int .i64 f)/\w=w')
 (H1:∀w,S w->Calls prog 37 #[(.pointer (some ⟨cb,0,none⟩))] (w.setRow b C) fun e w'=>e=.returned (.int .i64 f)/\w.setRow b C=w')
 (fin:∀w,S w->Q .normal ⟨#[x0,x1,(.pointer (some ⟨cb,0,none⟩)),x3,x4,x5,(.pointer (some ⟨b,0,none⟩)),(.int .i64 f),(.pointer (some ⟨B,0,none⟩)),x9,x10,x11,x12,x13,x14,x15,x16,x17,x18,x19,x20,x21,x22,x23,x24,x25,x26,x27,x28,x29,x30,x31,x32,x33,x34,(.agg C),(.pointer (some ⟨cb,0,none⟩)),(.int .i64 f)],[]⟩ (w.setRow b C)) :
 (Code.region 7 (qfhu.opsAt 7 Tryz.f112.body) true).wp prog Q ⟨#[x0,x1,(.pointer (some ⟨cb,0,none⟩)),x3,x4,x5,(.pointer (some ⟨b,0,none⟩)),x7,(.pointer (some ⟨B,0,none⟩)),x9,x10,x11,x12,x13,x14,x15,x16,x17,x18,x19,x20,x21,x22,x23,x24,x25,x26,x27,x28,x29,x30,x31,x32,x33,x34,x35,x36,x37],[]⟩ W:=by
 refine q2y4.wp (x:=false) (S:=fun x W=>∃V,S V/\W=if x=true then V.setRow b C else V) (made:=fun i x=>i=3->x=true) (war:=[]) (ds:=[35,36,37,7]) (A:=[x0,x1,(.pointer (some ⟨cb,0,none⟩)),x3,x4,x5,(.pointer (some ⟨b,0,none⟩)),x7,(.pointer (some ⟨B,0,none⟩)),x9,x10,x11,x12,x13,x14,x15,x16,x17,x18,x19,x20,x21,x22,x23,x24,x25,x26,x27,x28,x29,x30,x31,x32,x33,x34,x35,x36,x37]) (B:=fun x=>[x0,x1,(.pointer (some ⟨cb,0,none⟩)),x3,x4,x5,(.pointer (some ⟨b,0,none⟩)),(.int .i64 f),(.pointer (some ⟨B,0,none⟩)),x9,x10,x11,x12,x13,x14,x15,x16,x17,x18,x19,x20,x21,x22,x23,x24,x25,x26,x27,x28,x29,x30,x31,x32,x33,x34,(.agg C),(.pointer (some ⟨cb,0,none⟩)),(.int .i64 f)]) (D:=[]) (by kernel_rfl) (by kernel_rfl) (by kernel_rfl) ?_ ⟨_,hS,rfl⟩ ?_ (fun x w hm hS=>by obtain⟨V,hV,hw⟩:=hS;obtain rfl:=hm 3 (by decide+kernel) rfl;subst hw;exact fin V hV)
 ·exact fun x=>(by repeat (first|exact trivial|refine⟨.inr rfl,?_⟩|refine⟨.inl rfl,?_⟩))
 refine q2y4.All.step rfl (q2y4.Does.pure (val:=fun x=>(.agg C)) rfl (fun x h=>absurd h (by decide)) (fun x w hm hS=>⟨rfl,rfl,qjuh rfl hC (by
  obtain⟨V,hV,hw⟩:=hS;subst hw;cases x
  ·exact KB V hV
  ·exact(setRow_other V b B C hb).trans (KB V hV))⟩)) ?_
 refine q2y4.All.step rfl (q2y4.Does.pure (val:=fun x=>(.pointer (some ⟨cb,0,none⟩))) rfl (fun x h=>absurd h (by decide)) (fun x w hm hS=>⟨rfl,rfl,rfl⟩)) ?_;refine q2y4.All.step rfl (q2y4.Does.call (val:=fun x=>(.int .i64 f)) rfl (fun x h=>absurd h (by decide)) (fun x w hm hS=>⟨rfl,rfl,qpjl.enter1 func37 rfl rfl,by
  obtain⟨V,hV,hw⟩:=hS;subst hw;cases x
  ·exact(H0 V hV).mono fun e w' ⟨he,hk⟩=>⟨he,V,hV,hk.symm⟩
  ·exact(H1 V hV).mono fun e w' ⟨he,hk⟩=>⟨he,V,hV,hk.symm⟩⟩)) ?_
 refine q2y4.All.step rfl (fun x w hm hS=>by
  obtain⟨V,hV,hw⟩:=hS;obtain⟨old,ho,hs⟩:=KR V hV;refine .inl ⟨rfl,.skip true (V.setRow b C) ?_ ⟨fun d hd=>(by cases hd),⟨V,hV,rfl⟩,fun _=>rfl,fun i h e=>rfl,[],rfl,q2y4.off_refl 0 _⟩⟩;subst hw;cases x
  ·exact qn4o rfl rfl hC h1 ho hs
  ·exact(qn4o rfl rfl hC h1 (setRow_heap V b old C _ _ ho) hC).trans (by rw[setRow_setRow])) ?_
 refine q2y4.All.step rfl (q2y4.Does.pure (val:=fun x=>(.int .i64 f)) rfl (fun x h=>absurd h (by decide)) (fun x w hm hS=>⟨rfl,rfl,rfl⟩)) ?_;exact q2y4.All.fin rfl
def rowN(n:Nat):Option Nat->Value
 |some g => .slice (some ⟨g,0,none⟩) n n
 |none=>undef
def putG(x:Nat->Option Nat)(j g:Nat):Nat->Option Nat:=fun i=>bif Nat.beq i j then some g else x i
theorem qpwk{x:Nat->Option Nat}{j g i:Nat}(h:(x i).isSome=true):(putG x j g i).isSome=true:=by
 unfold putG;cases Nat.beq i j
 ·exact h
 ·rfl
section
variable{a:Act}{w:World}{d:Option Tmp}{p:String}{af:Array Edge}{gd:Option (Nat×Bool)}{x y z:Tmp}{r:TypeId}
theorem qa2f{g:Nat}{C:Array Value}(hx:a.eval (.tmp x)=.pointer (some ⟨g,0,none⟩))(hs:C.size=25)(hg:w.heap[g]?=some (.cells C 32 (0,0))) :
 (execOp a.eval {dst:=d,op := .load 32 (.tmp x),type:=32,pos:=p,after:=af,guard:=gd}).run prog w=.ok (.value (.agg C)) w:=by
 unfold execOp;simp only[hx,Instr.loadAt,Instr.sureAddr,Sem.run_bind,Sem.run_pure,Result.andThen_ok,run_loadVar_row w g 32 32 C (0,0) _ hg underlying32 rfl (by rw[hs];exact q5nr)]
theorem q7bh{g:Nat}(hx:a.eval (.tmp x)=.pointer (some ⟨g,0,none⟩)) :
 (execOp a.eval {dst:=d,op := .fieldAddr 32 (.tmp x) 0,type:=r,pos:=p,after:=af,guard:=gd}).run prog w=.ok (.value (.pointer (some ⟨g,0,none⟩))) w:=by
 generalize a.eval=f at *;go_simp
theorem q9ys{g:Nat}(hx:a.eval (.tmp x)=.pointer (some ⟨g,0,none⟩)) :
 (execOp a.eval {dst:=d,op := .fieldAddr 32 (.tmp x) 8,type:=r,pos:=p,after:=af,guard:=gd}).run prog w=.ok (.value (.pointer (some ⟨g,8,none⟩))) w:=by
 generalize a.eval=f at *;go_simp
theorem qvun{g:Nat}(hx:a.eval (.tmp x)=.pointer (some ⟨g,0,none⟩)) :
 (execOp a.eval {dst:=d,op := .fieldAddr 32 (.tmp x) 9,type:=r,pos:=p,after:=af,guard:=gd}).run prog w=.ok (.value (.pointer (some ⟨g,9,none⟩))) w:=by
 generalize a.eval=f at *;go_simp
theorem qux4{g:Nat}(hx:a.eval (.tmp x)=.pointer (some ⟨g,0,none⟩)) :
 (execOp a.eval {dst:=d,op := .fieldAddr 32 (.tmp x) 10,type:=r,pos:=p,after:=af,guard:=gd}).run prog w=.ok (.value (.pointer (some ⟨g,10,none⟩))) w:=by
 generalize a.eval=f at *;go_simp
theorem qo3x{g:Nat}(hx:a.eval (.tmp x)=.pointer (some ⟨g,0,none⟩)) :
 (execOp a.eval {dst:=d,op := .fieldAddr 32 (.tmp x) 11,type:=r,pos:=p,after:=af,guard:=gd}).run prog w=.ok (.value (.pointer (some ⟨g,11,none⟩))) w:=by
 generalize a.eval=f at *;go_simp
theorem qy7x{g:Nat}(hx:a.eval (.tmp x)=.pointer (some ⟨g,0,none⟩)) :
 (execOp a.eval {dst:=d,op := .fieldAddr 32 (.tmp x) 12,type:=r,pos:=p,after:=af,guard:=gd}).run prog w=.ok (.value (.pointer (some ⟨g,12,none⟩))) w:=by
 generalize a.eval=f at *;go_simp
theorem qsfc{g:Nat}(hx:a.eval (.tmp x)=.pointer (some ⟨g,0,none⟩)) :
 (execOp a.eval {dst:=d,op := .fieldAddr 32 (.tmp x) 13,type:=r,pos:=p,after:=af,guard:=gd}).run prog w=.ok (.value (.pointer (some ⟨g,13,none⟩))) w:=by
 generalize a.eval=f at *;go_simp
theorem qndn{g:Nat}(hx:a.eval (.tmp x)=.pointer (some ⟨g,0,none⟩)) :
 (execOp a.eval {dst:=d,op := .fieldAddr 32 (.tmp x) 14,type:=r,pos:=p,after:=af,guard:=gd}).run prog w=.ok (.value (.pointer (some ⟨g,14,none⟩))) w:=by
 generalize a.eval=f at *;go_simp
theorem q9tf{g:Nat}(hx:a.eval (.tmp x)=.pointer (some ⟨g,0,none⟩)) :
 (execOp a.eval {dst:=d,op := .fieldAddr 32 (.tmp x) 15,type:=r,pos:=p,after:=af,guard:=gd}).run prog w=.ok (.value (.pointer (some ⟨g,15,none⟩))) w:=by
 generalize a.eval=f at *;go_simp
theorem qrr1{g:Nat}(hx:a.eval (.tmp x)=.pointer (some ⟨g,0,none⟩)) :
 (execOp a.eval {dst:=d,op := .fieldAddr 32 (.tmp x) 16,type:=r,pos:=p,after:=af,guard:=gd}).run prog w=.ok (.value (.pointer (some ⟨g,20,none⟩))) w:=by
 generalize a.eval=f at *;go_simp
theorem qpep{g:Nat}(hx:a.eval (.tmp x)=.pointer (some ⟨g,0,none⟩)) :
 (execOp a.eval {dst:=d,op := .fieldAddr 32 (.tmp x) 17,type:=r,pos:=p,after:=af,guard:=gd}).run prog w=.ok (.value (.pointer (some ⟨g,21,none⟩))) w:=by
 generalize a.eval=f at *;go_simp
theorem q10c{g:Nat}(hx:a.eval (.tmp x)=.pointer (some ⟨g,0,none⟩)) :
 (execOp a.eval {dst:=d,op := .fieldAddr 32 (.tmp x) 20,type:=r,pos:=p,after:=af,guard:=gd}).run prog w=.ok (.value (.pointer (some ⟨g,24,none⟩))) w:=by
 generalize a.eval=f at *;go_simp
theorem qg9y{g:Nat}(hx:a.eval (.tmp x)=.pointer (some ⟨g,15,none⟩)) :
 (execOp a.eval {dst:=d,op := .fieldAddr 28 (.tmp x) 0,type:=r,pos:=p,after:=af,guard:=gd}).run prog w=.ok (.value (.pointer (some ⟨g,15,none⟩))) w:=by
 generalize a.eval=f at *;go_simp
theorem q67a{g:Nat}(hx:a.eval (.tmp x)=.pointer (some ⟨g,15,none⟩)) :
 (execOp a.eval {dst:=d,op := .fieldAddr 28 (.tmp x) 1,type:=r,pos:=p,after:=af,guard:=gd}).run prog w=.ok (.value (.pointer (some ⟨g,16,none⟩))) w:=by
 generalize a.eval=f at *;go_simp
theorem q95n{g:Nat}(hx:a.eval (.tmp x)=.pointer (some ⟨g,15,none⟩)) :
 (execOp a.eval {dst:=d,op := .fieldAddr 28 (.tmp x) 4,type:=r,pos:=p,after:=af,guard:=gd}).run prog w=.ok (.value (.pointer (some ⟨g,19,none⟩))) w:=by
 generalize a.eval=f at *;go_simp
theorem qmmx{g j:Nat}{n:Int}(hx:a.eval (.tmp x)=.pointer (some ⟨g,j,none⟩))(hc:w.cell? ⟨g,j,none⟩=some (.int .i64 n)) :
 (execOp a.eval {dst:=d,op := .load 3 (.tmp x),type:=3,pos:=p,after:=af,guard:=gd}).run prog w=.ok (.value (.int .i64 n)) w:=by
 generalize a.eval=f at *;go_simp
theorem qylu{g j:Nat}{n:Bool}(hx:a.eval (.tmp x)=.pointer (some ⟨g,j,none⟩))(hc:w.cell? ⟨g,j,none⟩=some (.bool n)) :
 (execOp a.eval {dst:=d,op := .load 4 (.tmp x),type:=4,pos:=p,after:=af,guard:=gd}).run prog w=.ok (.value (.bool n)) w:=by
 generalize a.eval=f at *;go_simp
theorem qser{g j:Nat}{n:ByteArray}(hx:a.eval (.tmp x)=.pointer (some ⟨g,j,none⟩))(hc:w.cell? ⟨g,j,none⟩=some (.string n)) :
 (execOp a.eval {dst:=d,op := .load 9 (.tmp x),type:=9,pos:=p,after:=af,guard:=gd}).run prog w=.ok (.value (.string n)) w:=by
 generalize a.eval=f at *;go_simp
theorem q27s{g j n c:Nat}{A:Option Addr}(hx:a.eval (.tmp x)=.pointer (some ⟨g,j,none⟩))(hc:w.cell? ⟨g,j,none⟩=some (.slice A n c)) :
 (execOp a.eval {dst:=d,op := .load 26 (.tmp x),type:=26,pos:=p,after:=af,guard:=gd}).run prog w=.ok (.value (.slice A n c)) w:=by
 generalize a.eval=f at *;go_simp
theorem qobe{n:Int}(hx:a.eval (.tmp x)=.int .i64 n)(hw:IntKind.u64.wrap n=n) :
 (execOp a.eval {dst:=d,op := .convert 3 84 (.tmp x),type:=r,pos:=p,after:=af,guard:=gd}).run prog w=.ok (.value (.int .u64 n)) w:=by
 generalize a.eval=f at *;go_simp
theorem qpvg{u v:Int}(hx:a.eval (.tmp x)=.int .i64 u)(hy:a.eval (.tmp y)=.int .i64 v) :
 (execOp a.eval {dst:=d,op := .buildSlice 29 2 #[(0,.tmp x),(1,.tmp y)],type:=r,pos:=p,after:=af,guard:=gd}).run prog w=.ok (.value (.slice (some ⟨w.heap.size,0,none⟩) 2 2)) (w.alloc (.cells #[.int .i64 u,.int .i64 v] 3)):=by
 generalize a.eval=f at *;go_simp
theorem qs4m{u:ByteArray}(hx:a.eval (.tmp x)=.string u) :
 (execOp a.eval {dst:=d,op := .buildSlice 157 1 #[(0,.tmp x)],type:=r,pos:=p,after:=af,guard:=gd}).run prog w=.ok (.value (.slice (some ⟨w.heap.size,0,none⟩) 1 1)) (w.alloc (.cells #[.string u] 9)):=by
 generalize a.eval=f at *;go_simp
theorem q3b0{u v:ByteArray}(hx:a.eval (.tmp x)=.string u)(hy:a.eval (.tmp y)=.string v) :
 (execOp a.eval {dst:=d,op := .buildSlice 157 2 #[(0,.tmp x),(1,.tmp y)],type:=r,pos:=p,after:=af,guard:=gd}).run prog w=.ok (.value (.slice (some ⟨w.heap.size,0,none⟩) 2 2)) (w.alloc (.cells #[.string u,.string v] 9)):=by
 generalize a.eval=f at *;go_simp
theorem ql0f{z1 z2 z3 z4 z5 z6 z7:Tmp}{u1 u2 u3 u4 u5 u6 u7:ByteArray}(h1:a.eval (.tmp z1)=.string u1)(h2:a.eval (.tmp z2)=.string u2)(h3:a.eval (.tmp z3)=.string u3)(h4:a.eval (.tmp z4)=.string u4)(h5:a.eval (.tmp z5)=.string u5)(h6:a.eval (.tmp z6)=.string u6)(h7:a.eval (.tmp z7)=.string u7) :
 (execOp a.eval {dst:=d,op := .buildSlice 157 8 #[(0,.const (.string {data:=#[0,4,77,81,84,84]})),(1,.tmp z1),(2,.tmp z2),(3,.tmp z3),(4,.tmp z4),(5,.tmp z5),(6,.tmp z6),(7,.tmp z7)],type:=r,pos:=p,after:=af,guard:=gd}).run prog w=.ok (.value (.slice (some ⟨w.heap.size,0,none⟩) 8 8)) (w.alloc (.cells #[.string {data:=#[0,4,77,81,84,84]},.string u1,.string u2,.string u3,.string u4,.string u5,.string u6,.string u7] 9)):=by
 have hk:a.eval (.const (.string {data:=#[0,4,77,81,84,84]}))=.string {data:=#[0,4,77,81,84,84]}:=rfl;generalize a.eval=f at *;go_simp
end
theorem q2ps{Q:Exit->Act->World->Prop}{S:(Nat->Option Nat)->World->Prop}{W:World}{B:Nat}{v:Int}{C:Array Value}{k code:Int}{session:Bool}{bit:Int}{A:Option Addr}{n c:Nat}{sO sP sR:ByteArray}{x2 x6 x7 x8 x9 x10 x11 x12 x13 x14 x15 x16 x17 x18 x19 x20 x21 x22 x23 x24 x25 x26 x27 x28 x29 x30 x31 x32 x33 x34 x35 x36 x37 x38 x39 x40 x41 x42 x43 x44 x45 x46 x47 x48 x49 x50 x51 x52 x53 x54 x55 x56 x57 x58 x59 x60 x61 x62 x63 x64 x65 x66 x67 x68 x69 x70 x71 x72 x73 x74 x75 x76 x77 x78 x79 x80 x81 x82 x83 x84:Value}
 (hS:S (fun _=>none) W.drew)
 (K0:∀x w,S x w->w.cell? ⟨B,0,none⟩=some (.int .i64 k))
 (K20:∀x w,S x w->w.cell? ⟨B,20,none⟩=some (.bool session))
 (K21:∀x w,S x w->w.cell? ⟨B,21,none⟩=some (.int .i64 code))
 (K24:∀x w,S x w->w.cell? ⟨B,24,none⟩=some (.slice A n c))
 (M5:∀x w,S x w->S (putG x 5 w.heap.size) (w.alloc (.cells #[.int .i64 bit,.int .i64 code] 3)))
 (M13:∀x w,S x w->S (putG x 13 w.heap.size) (w.alloc (.cells #[.string sO,.string sP] 9)))
 (H18:∀(x:Nat->Option Nat) (w:World),S x w->Calls prog 86 #[.bool session,.int .i64 1] w fun e w'=>e=.returned (.int .i64 bit)/\S x w')
 (H22:∀(x:Nat->Option Nat) (w:World),S x w->(x 5).isSome=true->Calls prog 85 #[rowN 2 (x 5)] w fun e w'=>e=.returned (.string sO)/\S x w')
 (H28:∀(x:Nat->Option Nat) (w:World),S x w->Calls prog 87 #[.int .i64 v,.int .i64 k,.slice A n c] w fun e w'=>e=.returned (.string sP)/\S x w')
 (H30:∀(x:Nat->Option Nat) (w:World),S x w->(x 13).isSome=true->Calls prog 84 #[rowN 2 (x 13)] w fun e w'=>e=.returned (.string sR)/\S x w')
 (fin:∀(x:Nat->Option Nat) (r5 r13:Value) w,S x w->Q .normal ⟨#[(.int .i64 v),(.agg C),x2,(.pointer (some ⟨B,0,none⟩)),(.string sR),(.int .i64 0),x6,x7,x8,x9,x10,x11,x12,x13,x14,x15,(.pointer (some ⟨B,20,none⟩)),(.bool session),(.int .i64 bit),(.pointer (some ⟨B,21,none⟩)),(.int .i64 code),r5,(.string sO),(.int .i64 v),(.pointer (some ⟨B,0,none⟩)),(.int .i64 k),(.pointer (some ⟨B,24,none⟩)),(.slice A n c),(.string sP),r13,(.string sR),x31,x32,x33,x34,x35,x36,x37,x38,x39,x40,x41,x42,x43,x44,x45,x46,x47,x48,x49,x50,x51,x52,x53,x54,x55,x56,x57,x58,x59,x60,x61,x62,x63,x64,x65,x66,x67,x68,x69,x70,x71,x72,x73,x74,x75,x76,x77,x78,x79,x80,x81,x82,x83,x84],[]⟩ w) :
 (Code.region 5 (qfhu.opsAt 5 Tryz.f66.body) true).wp prog Q ⟨#[(.int .i64 v),(.agg C),x2,(.pointer (some ⟨B,0,none⟩)),(.string ⟨#[]⟩),(.int .i64 0),x6,x7,x8,x9,x10,x11,x12,x13,x14,x15,x16,x17,x18,x19,x20,x21,x22,x23,x24,x25,x26,x27,x28,x29,x30,x31,x32,x33,x34,x35,x36,x37,x38,x39,x40,x41,x42,x43,x44,x45,x46,x47,x48,x49,x50,x51,x52,x53,x54,x55,x56,x57,x58,x59,x60,x61,x62,x63,x64,x65,x66,x67,x68,x69,x70,x71,x72,x73,x74,x75,x76,x77,x78,x79,x80,x81,x82,x83,x84],[]⟩ W:=by
 refine q2y4.wp (x:=fun _=>none) (S:=S) (made:=fun i x=>[5,13].contains i=true->(x i).isSome=true) (war:=[]) (ds:=[16,17,18,19,20,21,22,23,24,25,26,27,28,29,30,4,5]) (D:=[]) (by kernel_rfl) (by kernel_rfl) (by kernel_rfl) ?_ hS ?_ (fun x w _ hS=>fin x (rowN 2 (x 5)) (rowN 2 (x 13)) w hS)
 ·exact fun x=>(by repeat (first|exact trivial|refine⟨.inr rfl,?_⟩|refine⟨.inl rfl,?_⟩))
 refine q2y4.pu rfl rfl (fun _ h=>absurd h (by decide)) (fun x w hm hS=>⟨rfl,rfl,qrr1 rfl⟩) ?_;refine q2y4.pu rfl rfl (fun _ h=>absurd h (by decide)) (fun x w hm hS=>⟨rfl,rfl,qylu rfl (K20 x w hS)⟩) ?_;refine q2y4.All.step rfl (q2y4.Does.call (args:=fun x=>#[.bool session,.int .i64 1]) (val:=fun x=>(.int .i64 bit)) rfl (fun _ h=>absurd h (by decide)) (fun x w hm hS=>⟨rfl,rfl,qpjl.enter2 func86 rfl rfl rfl,H18 x w hS⟩)) ?_;refine q2y4.pu rfl rfl (fun _ h=>absurd h (by decide)) (fun x w hm hS=>⟨rfl,rfl,qpep rfl⟩) ?_;refine q2y4.pu rfl rfl (fun _ h=>absurd h (by decide)) (fun x w hm hS=>⟨rfl,rfl,qmmx rfl (K21 x w hS)⟩) ?_;refine q2y4.All.step rfl ((fun x w hm hS => .inl ⟨rfl,.value (.slice (some ⟨w.heap.size,0,none⟩) 2 2) (putG x 5 w.heap.size) _ (qpvg rfl rfl) ⟨fun d hd=>by cases hd;rfl,M5 x w hS,fun _=>rfl,fun i h hc=>qpwk (h hc),[21],by kernel_rfl,(by repeat (first|exact trivial|refine⟨.inr rfl,?_⟩|refine⟨.inl rfl,?_⟩))⟩⟩)) ?_;refine q2y4.All.step rfl (q2y4.Does.call (args:=fun x=>#[rowN 2 (x 5)]) (val:=fun x=>(.string sO)) rfl (fun _ h=>absurd h (by decide)) (fun x w hm hS=>⟨rfl,rfl,qpjl.enter1 func85 rfl rfl,(fun _ _ _=>H22 x w hS (hm 5 (by kernel_rfl) (by decide) (by decide))) x w hS⟩)) ?_;refine q2y4.pu rfl rfl (fun _ h=>absurd h (by decide)) (fun x w hm hS=>⟨rfl,rfl,rfl⟩) ?_;refine q2y4.pu rfl rfl (fun _ h=>absurd h (by decide)) (fun x w hm hS=>⟨rfl,rfl,q7bh rfl⟩) ?_;refine q2y4.pu rfl rfl (fun _ h=>absurd h (by decide)) (fun x w hm hS=>⟨rfl,rfl,qmmx rfl (K0 x w hS)⟩) ?_;refine q2y4.pu rfl rfl (fun _ h=>absurd h (by decide)) (fun x w hm hS=>⟨rfl,rfl,q10c rfl⟩) ?_;refine q2y4.pu rfl rfl (fun _ h=>absurd h (by decide)) (fun x w hm hS=>⟨rfl,rfl,q27s rfl (K24 x w hS)⟩) ?_;refine q2y4.All.step rfl (q2y4.Does.call (args:=fun x=>#[.int .i64 v,.int .i64 k,.slice A n c]) (val:=fun x=>(.string sP)) rfl (fun _ h=>absurd h (by decide)) (fun x w hm hS=>⟨rfl,rfl,qpjl.enter3 func87 rfl rfl rfl rfl,H28 x w hS⟩)) ?_;refine q2y4.All.step rfl ((fun x w hm hS => .inl ⟨rfl,.value (.slice (some ⟨w.heap.size,0,none⟩) 2 2) (putG x 13 w.heap.size) _ (q3b0 rfl rfl) ⟨fun d hd=>by cases hd;rfl,M13 x w hS,fun _=>rfl,fun i h hc=>qpwk (h hc),[29],by kernel_rfl,(by repeat (first|exact trivial|refine⟨.inr rfl,?_⟩|refine⟨.inl rfl,?_⟩))⟩⟩)) ?_;refine q2y4.All.step rfl (q2y4.Does.call (args:=fun x=>#[rowN 2 (x 13)]) (val:=fun x=>(.string sR)) rfl (fun _ h=>absurd h (by decide)) (fun x w hm hS=>⟨rfl,rfl,qpjl.enter1 func84 rfl rfl,(fun _ _ _=>H30 x w hS (hm 13 (by kernel_rfl) (by decide) (by decide))) x w hS⟩)) ?_
 iterate 2 refine q2y4.pu rfl rfl (fun _ h=>absurd h (by decide)) (fun x w hm hS=>⟨rfl,rfl,rfl⟩) ?_
 exact q2y4.All.fin rfl
theorem qnpt{Q:Exit->Act->World->Prop}{S:(Nat->Option Nat)->World->Prop}{W:World}{B:Nat}{v:Int}{C:Array Value}{k keep F:Int}{hu ha hw_:Bool}{A AW:Option Addr}{n c nw cw:Nat}{sO sK sP sC sCp sW sT sY sYp sZ sU sUp sUw sA sAp sAw sR:ByteArray}{x2 x6 x7 x8 x9 x10 x11 x12 x13 x14 x15 x16 x17 x18 x19 x20 x21 x22 x23 x24 x25 x26 x27 x28 x29 x30 x31 x32 x33 x34 x35 x36 x37 x38 x39 x40 x41 x42 x43 x44 x45 x46 x47 x48 x49 x50 x51 x52 x53 x54 x55 x56 x57 x58 x59 x60 x61 x62 x63 x64 x65 x66 x67 x68 x69 x70 x71 x72 x73 x74 x75 x76 x77 x78 x79 x80 x81 x82 x83 x84:Value}
 (hS:S (fun _=>none) W.drew) (hC:C.size=25) (hS1:∀x w,S x w->w.heap[B]?=some (.cells C 32 (0,0))) (hw:IntKind.u64.wrap keep=keep)
 (K0:∀x w,S x w->w.cell? ⟨B,0,none⟩=some (.int .i64 k))
 (K8:∀x w,S x w->w.cell? ⟨B,8,none⟩=some (.int .i64 keep))
 (K9:∀x w,S x w->w.cell? ⟨B,9,none⟩=some (.string sC))
 (K10:∀x w,S x w->w.cell? ⟨B,10,none⟩=some (.bool hu))
 (K11:∀x w,S x w->w.cell? ⟨B,11,none⟩=some (.string sU))
 (K12:∀x w,S x w->w.cell? ⟨B,12,none⟩=some (.bool ha))
 (K13:∀x w,S x w->w.cell? ⟨B,13,none⟩=some (.string sA))
 (K14:∀x w,S x w->w.cell? ⟨B,14,none⟩=some (.bool hw_))
 (K15:∀x w,S x w->w.cell? ⟨B,15,none⟩=some (.string sT))
 (K16:∀x w,S x w->w.cell? ⟨B,16,none⟩=some (.string sY))
 (K19:∀x w,S x w->w.cell? ⟨B,19,none⟩=some (.slice AW nw cw))
 (K24:∀x w,S x w->w.cell? ⟨B,24,none⟩=some (.slice A n c))
 (M3:∀x w,S x w->S (putG x 3 w.heap.size) (w.alloc (.cells #[.int .i64 v,.int .i64 F] 3)))
 (M17:∀x w,S x w->S (putG x 17 w.heap.size) (w.alloc (.cells #[.string sC] 9)))
 (M32:∀x w,S x w->S (putG x 32 w.heap.size) (w.alloc (.cells #[.string sT,.string sY] 9)))
 (M34:∀x w,S x w->S (putG x 34 w.heap.size) (w.alloc (.cells #[.string sW,.string sYp] 9)))
 (M40:∀x w,S x w->S (putG x 40 w.heap.size) (w.alloc (.cells #[.string sU] 9)))
 (M42:∀x w,S x w->S (putG x 42 w.heap.size) (w.alloc (.cells #[.string sUp] 9)))
 (M48:∀x w,S x w->S (putG x 48 w.heap.size) (w.alloc (.cells #[.string sA] 9)))
 (M50:∀x w,S x w->S (putG x 50 w.heap.size) (w.alloc (.cells #[.string sAp] 9)))
 (M52:∀x w,S x w->S (putG x 52 w.heap.size) (w.alloc (.cells #[.string {data:=#[0,4,77,81,84,84]},.string sO,.string sK,.string sP,.string sCp,.string sZ,.string sUw,.string sAw] 9)))
 (H33:∀(x:Nat->Option Nat) (w:World),S x w->Calls prog 88 #[.agg C] w fun e w'=>e=.returned (.int .i64 F)/\S x w')
 (H35:∀(x:Nat->Option Nat) (w:World),S x w->(x 3).isSome=true->Calls prog 85 #[rowN 2 (x 3)] w fun e w'=>e=.returned (.string sO)/\S x w')
 (H39:∀(x:Nat->Option Nat) (w:World),S x w->Calls prog 57 #[.int .u64 keep,.int .i64 2] w fun e w'=>e=.returned (.string sK)/\S x w')
 (H45:∀(x:Nat->Option Nat) (w:World),S x w->Calls prog 87 #[.int .i64 v,.int .i64 k,.slice A n c] w fun e w'=>e=.returned (.string sP)/\S x w')
 (H49:∀(x:Nat->Option Nat) (w:World),S x w->(x 17).isSome=true->Calls prog 89 #[rowN 1 (x 17)] w fun e w'=>e=.returned (.string sCp)/\S x w')
 (H56:∀(x:Nat->Option Nat) (w:World),S x w->Calls prog 87 #[.int .i64 v,.int .i64 16,.slice AW nw cw] w fun e w'=>e=.returned (.string sW)/\S x w')
 (H64:∀(x:Nat->Option Nat) (w:World),S x w->(x 32).isSome=true->Calls prog 89 #[rowN 2 (x 32)] w fun e w'=>e=.returned (.string sYp)/\S x w')
 (H66:∀(x:Nat->Option Nat) (w:World),S x w->(x 34).isSome=true->Calls prog 90 #[.bool hw_,rowN 2 (x 34)] w fun e w'=>e=.returned (.string sZ)/\S x w')
 (H72:∀(x:Nat->Option Nat) (w:World),S x w->(x 40).isSome=true->Calls prog 89 #[rowN 1 (x 40)] w fun e w'=>e=.returned (.string sUp)/\S x w')
 (H74:∀(x:Nat->Option Nat) (w:World),S x w->(x 42).isSome=true->Calls prog 90 #[.bool hu,rowN 1 (x 42)] w fun e w'=>e=.returned (.string sUw)/\S x w')
 (H80:∀(x:Nat->Option Nat) (w:World),S x w->(x 48).isSome=true->Calls prog 89 #[rowN 1 (x 48)] w fun e w'=>e=.returned (.string sAp)/\S x w')
 (H82:∀(x:Nat->Option Nat) (w:World),S x w->(x 50).isSome=true->Calls prog 90 #[.bool ha,rowN 1 (x 50)] w fun e w'=>e=.returned (.string sAw)/\S x w')
 (H84:∀(x:Nat->Option Nat) (w:World),S x w->(x 52).isSome=true->Calls prog 84 #[rowN 8 (x 52)] w fun e w'=>e=.returned (.string sR)/\S x w')
 (fin:∀(x:Nat->Option Nat) (r3 r17 r32 r34 r40 r42 r48 r50 r52:Value) w,S x w->Q .normal ⟨#[(.int .i64 v),(.agg C),x2,(.pointer (some ⟨B,0,none⟩)),(.string sR),(.int .i64 0),x6,x7,x8,x9,x10,x11,x12,x13,x14,x15,x16,x17,x18,x19,x20,x21,x22,x23,x24,x25,x26,x27,x28,x29,x30,(.int .i64 v),(.agg C),(.int .i64 F),r3,(.string sO),(.pointer (some ⟨B,8,none⟩)),(.int .i64 keep),(.int .u64 keep),(.string sK),(.int .i64 v),(.pointer (some ⟨B,0,none⟩)),(.int .i64 k),(.pointer (some ⟨B,24,none⟩)),(.slice A n c),(.string sP),(.pointer (some ⟨B,9,none⟩)),(.string sC),r17,(.string sCp),(.pointer (some ⟨B,14,none⟩)),(.bool hw_),(.int .i64 v),(.pointer (some ⟨B,15,none⟩)),(.pointer (some ⟨B,19,none⟩)),(.slice AW nw cw),(.string sW),(.pointer (some ⟨B,15,none⟩)),(.pointer (some ⟨B,15,none⟩)),(.string sT),(.pointer (some ⟨B,15,none⟩)),(.pointer (some ⟨B,16,none⟩)),(.string sY),r32,(.string sYp),r34,(.string sZ),(.pointer (some ⟨B,10,none⟩)),(.bool hu),(.pointer (some ⟨B,11,none⟩)),(.string sU),r40,(.string sUp),r42,(.string sUw),(.pointer (some ⟨B,12,none⟩)),(.bool ha),(.pointer (some ⟨B,13,none⟩)),(.string sA),r48,(.string sAp),r50,(.string sAw),r52,(.string sR)],[]⟩ w) :
 (Code.region 6 (qfhu.opsAt 6 Tryz.f66.body) true).wp prog Q ⟨#[(.int .i64 v),(.agg C),x2,(.pointer (some ⟨B,0,none⟩)),(.string ⟨#[]⟩),(.int .i64 0),x6,x7,x8,x9,x10,x11,x12,x13,x14,x15,x16,x17,x18,x19,x20,x21,x22,x23,x24,x25,x26,x27,x28,x29,x30,x31,x32,x33,x34,x35,x36,x37,x38,x39,x40,x41,x42,x43,x44,x45,x46,x47,x48,x49,x50,x51,x52,x53,x54,x55,x56,x57,x58,x59,x60,x61,x62,x63,x64,x65,x66,x67,x68,x69,x70,x71,x72,x73,x74,x75,x76,x77,x78,x79,x80,x81,x82,x83,x84],[]⟩ W:=by
 refine q2y4.wp (x:=fun _=>none) (S:=S) (made:=fun i x=>[3,17,32,34,40,42,48,50,52].contains i=true->(x i).isSome=true) (war:=[]) (ds:=[31,32,33,34,35,36,37,38,39,40,41,42,43,44,45,46,47,48,49,50,51,52,53,54,55,56,57,58,59,60,61,62,63,64,65,66,67,68,69,70,71,72,73,74,75,76,77,78,79,80,81,82,83,84,4,5]) (D:=[]) (by kernel_rfl) (by kernel_rfl) (by kernel_rfl) ?_ hS ?_ (fun x w _ hS=>fin x (rowN 2 (x 3)) (rowN 1 (x 17)) (rowN 2 (x 32)) (rowN 2 (x 34)) (rowN 1 (x 40)) (rowN 1 (x 42)) (rowN 1 (x 48)) (rowN 1 (x 50)) (rowN 8 (x 52)) w hS)
 ·exact fun x=>(by repeat (first|exact trivial|refine⟨.inr rfl,?_⟩|refine⟨.inl rfl,?_⟩))
 refine q2y4.pu rfl rfl (fun _ h=>absurd h (by decide)) (fun x w hm hS=>⟨rfl,rfl,rfl⟩) ?_;refine q2y4.pu rfl rfl (fun _ h=>absurd h (by decide)) (fun x w hm hS=>⟨rfl,rfl,qa2f rfl hC (hS1 x w hS)⟩) ?_;refine q2y4.All.step rfl (q2y4.Does.call (args:=fun x=>#[.agg C]) (val:=fun x=>(.int .i64 F)) rfl (fun _ h=>absurd h (by decide)) (fun x w hm hS=>⟨rfl,rfl,qpjl.enter1 func88 rfl rfl,H33 x w hS⟩)) ?_;refine q2y4.All.step rfl ((fun x w hm hS => .inl ⟨rfl,.value (.slice (some ⟨w.heap.size,0,none⟩) 2 2) (putG x 3 w.heap.size) _ (qpvg rfl rfl) ⟨fun d hd=>by cases hd;rfl,M3 x w hS,fun _=>rfl,fun i h hc=>qpwk (h hc),[34],by kernel_rfl,(by repeat (first|exact trivial|refine⟨.inr rfl,?_⟩|refine⟨.inl rfl,?_⟩))⟩⟩)) ?_;refine q2y4.All.step rfl (q2y4.Does.call (args:=fun x=>#[rowN 2 (x 3)]) (val:=fun x=>(.string sO)) rfl (fun _ h=>absurd h (by decide)) (fun x w hm hS=>⟨rfl,rfl,qpjl.enter1 func85 rfl rfl,(fun _ _ _=>H35 x w hS (hm 3 (by kernel_rfl) (by decide) (by decide))) x w hS⟩)) ?_;refine q2y4.pu rfl rfl (fun _ h=>absurd h (by decide)) (fun x w hm hS=>⟨rfl,rfl,q9ys rfl⟩) ?_;refine q2y4.pu rfl rfl (fun _ h=>absurd h (by decide)) (fun x w hm hS=>⟨rfl,rfl,qmmx rfl (K8 x w hS)⟩) ?_;refine q2y4.pu rfl rfl (fun _ h=>absurd h (by decide)) (fun x w hm hS=>⟨rfl,rfl,qobe rfl hw⟩) ?_;refine q2y4.All.step rfl (q2y4.Does.call (args:=fun x=>#[.int .u64 keep,.int .i64 2]) (val:=fun x=>(.string sK)) rfl (fun _ h=>absurd h (by decide)) (fun x w hm hS=>⟨rfl,rfl,qpjl.enter2 func57 rfl rfl rfl,H39 x w hS⟩)) ?_;refine q2y4.pu rfl rfl (fun _ h=>absurd h (by decide)) (fun x w hm hS=>⟨rfl,rfl,rfl⟩) ?_;refine q2y4.pu rfl rfl (fun _ h=>absurd h (by decide)) (fun x w hm hS=>⟨rfl,rfl,q7bh rfl⟩) ?_;refine q2y4.pu rfl rfl (fun _ h=>absurd h (by decide)) (fun x w hm hS=>⟨rfl,rfl,qmmx rfl (K0 x w hS)⟩) ?_;refine q2y4.pu rfl rfl (fun _ h=>absurd h (by decide)) (fun x w hm hS=>⟨rfl,rfl,q10c rfl⟩) ?_;refine q2y4.pu rfl rfl (fun _ h=>absurd h (by decide)) (fun x w hm hS=>⟨rfl,rfl,q27s rfl (K24 x w hS)⟩) ?_;refine q2y4.All.step rfl (q2y4.Does.call (args:=fun x=>#[.int .i64 v,.int .i64 k,.slice A n c]) (val:=fun x=>(.string sP)) rfl (fun _ h=>absurd h (by decide)) (fun x w hm hS=>⟨rfl,rfl,qpjl.enter3 func87 rfl rfl rfl rfl,H45 x w hS⟩)) ?_;refine q2y4.pu rfl rfl (fun _ h=>absurd h (by decide)) (fun x w hm hS=>⟨rfl,rfl,qvun rfl⟩) ?_;refine q2y4.pu rfl rfl (fun _ h=>absurd h (by decide)) (fun x w hm hS=>⟨rfl,rfl,qser rfl (K9 x w hS)⟩) ?_;refine q2y4.All.step rfl ((fun x w hm hS => .inl ⟨rfl,.value (.slice (some ⟨w.heap.size,0,none⟩) 1 1) (putG x 17 w.heap.size) _ (qs4m rfl) ⟨fun d hd=>by cases hd;rfl,M17 x w hS,fun _=>rfl,fun i h hc=>qpwk (h hc),[48],by kernel_rfl,(by repeat (first|exact trivial|refine⟨.inr rfl,?_⟩|refine⟨.inl rfl,?_⟩))⟩⟩)) ?_;refine q2y4.All.step rfl (q2y4.Does.call (args:=fun x=>#[rowN 1 (x 17)]) (val:=fun x=>(.string sCp)) rfl (fun _ h=>absurd h (by decide)) (fun x w hm hS=>⟨rfl,rfl,qpjl.enter1 func89 rfl rfl,(fun _ _ _=>H49 x w hS (hm 17 (by kernel_rfl) (by decide) (by decide))) x w hS⟩)) ?_;refine q2y4.pu rfl rfl (fun _ h=>absurd h (by decide)) (fun x w hm hS=>⟨rfl,rfl,qndn rfl⟩) ?_;refine q2y4.pu rfl rfl (fun _ h=>absurd h (by decide)) (fun x w hm hS=>⟨rfl,rfl,qylu rfl (K14 x w hS)⟩) ?_;refine q2y4.pu rfl rfl (fun _ h=>absurd h (by decide)) (fun x w hm hS=>⟨rfl,rfl,rfl⟩) ?_;refine q2y4.pu rfl rfl (fun _ h=>absurd h (by decide)) (fun x w hm hS=>⟨rfl,rfl,q9tf rfl⟩) ?_;refine q2y4.pu rfl rfl (fun _ h=>absurd h (by decide)) (fun x w hm hS=>⟨rfl,rfl,q95n rfl⟩) ?_;refine q2y4.pu rfl rfl (fun _ h=>absurd h (by decide)) (fun x w hm hS=>⟨rfl,rfl,q27s rfl (K19 x w hS)⟩) ?_;refine q2y4.All.step rfl (q2y4.Does.call (args:=fun x=>#[.int .i64 v,.int .i64 16,.slice AW nw cw]) (val:=fun x=>(.string sW)) rfl (fun _ h=>absurd h (by decide)) (fun x w hm hS=>⟨rfl,rfl,qpjl.enter3 func87 rfl rfl rfl rfl,H56 x w hS⟩)) ?_;refine q2y4.pu rfl rfl (fun _ h=>absurd h (by decide)) (fun x w hm hS=>⟨rfl,rfl,q9tf rfl⟩) ?_;refine q2y4.pu rfl rfl (fun _ h=>absurd h (by decide)) (fun x w hm hS=>⟨rfl,rfl,qg9y rfl⟩) ?_;refine q2y4.pu rfl rfl (fun _ h=>absurd h (by decide)) (fun x w hm hS=>⟨rfl,rfl,qser rfl (K15 x w hS)⟩) ?_;refine q2y4.pu rfl rfl (fun _ h=>absurd h (by decide)) (fun x w hm hS=>⟨rfl,rfl,q9tf rfl⟩) ?_;refine q2y4.pu rfl rfl (fun _ h=>absurd h (by decide)) (fun x w hm hS=>⟨rfl,rfl,q67a rfl⟩) ?_;refine q2y4.pu rfl rfl (fun _ h=>absurd h (by decide)) (fun x w hm hS=>⟨rfl,rfl,qser rfl (K16 x w hS)⟩) ?_;refine q2y4.All.step rfl ((fun x w hm hS => .inl ⟨rfl,.value (.slice (some ⟨w.heap.size,0,none⟩) 2 2) (putG x 32 w.heap.size) _ (q3b0 rfl rfl) ⟨fun d hd=>by cases hd;rfl,M32 x w hS,fun _=>rfl,fun i h hc=>qpwk (h hc),[63],by kernel_rfl,(by repeat (first|exact trivial|refine⟨.inr rfl,?_⟩|refine⟨.inl rfl,?_⟩))⟩⟩)) ?_;refine q2y4.All.step rfl (q2y4.Does.call (args:=fun x=>#[rowN 2 (x 32)]) (val:=fun x=>(.string sYp)) rfl (fun _ h=>absurd h (by decide)) (fun x w hm hS=>⟨rfl,rfl,qpjl.enter1 func89 rfl rfl,(fun _ _ _=>H64 x w hS (hm 32 (by kernel_rfl) (by decide) (by decide))) x w hS⟩)) ?_;refine q2y4.All.step rfl ((fun x w hm hS => .inl ⟨rfl,.value (.slice (some ⟨w.heap.size,0,none⟩) 2 2) (putG x 34 w.heap.size) _ (q3b0 rfl rfl) ⟨fun d hd=>by cases hd;rfl,M34 x w hS,fun _=>rfl,fun i h hc=>qpwk (h hc),[65],by kernel_rfl,(by repeat (first|exact trivial|refine⟨.inr rfl,?_⟩|refine⟨.inl rfl,?_⟩))⟩⟩)) ?_;refine q2y4.All.step rfl (q2y4.Does.call (args:=fun x=>#[.bool hw_,rowN 2 (x 34)]) (val:=fun x=>(.string sZ)) rfl (fun _ h=>absurd h (by decide)) (fun x w hm hS=>⟨rfl,rfl,qpjl.enter2 func90 rfl rfl rfl,(fun _ _ _=>H66 x w hS (hm 34 (by kernel_rfl) (by decide) (by decide))) x w hS⟩)) ?_;refine q2y4.pu rfl rfl (fun _ h=>absurd h (by decide)) (fun x w hm hS=>⟨rfl,rfl,qux4 rfl⟩) ?_;refine q2y4.pu rfl rfl (fun _ h=>absurd h (by decide)) (fun x w hm hS=>⟨rfl,rfl,qylu rfl (K10 x w hS)⟩) ?_;refine q2y4.pu rfl rfl (fun _ h=>absurd h (by decide)) (fun x w hm hS=>⟨rfl,rfl,qo3x rfl⟩) ?_;refine q2y4.pu rfl rfl (fun _ h=>absurd h (by decide)) (fun x w hm hS=>⟨rfl,rfl,qser rfl (K11 x w hS)⟩) ?_;refine q2y4.All.step rfl ((fun x w hm hS => .inl ⟨rfl,.value (.slice (some ⟨w.heap.size,0,none⟩) 1 1) (putG x 40 w.heap.size) _ (qs4m rfl) ⟨fun d hd=>by cases hd;rfl,M40 x w hS,fun _=>rfl,fun i h hc=>qpwk (h hc),[71],by kernel_rfl,(by repeat (first|exact trivial|refine⟨.inr rfl,?_⟩|refine⟨.inl rfl,?_⟩))⟩⟩)) ?_;refine q2y4.All.step rfl (q2y4.Does.call (args:=fun x=>#[rowN 1 (x 40)]) (val:=fun x=>(.string sUp)) rfl (fun _ h=>absurd h (by decide)) (fun x w hm hS=>⟨rfl,rfl,qpjl.enter1 func89 rfl rfl,(fun _ _ _=>H72 x w hS (hm 40 (by kernel_rfl) (by decide) (by decide))) x w hS⟩)) ?_;refine q2y4.All.step rfl ((fun x w hm hS => .inl ⟨rfl,.value (.slice (some ⟨w.heap.size,0,none⟩) 1 1) (putG x 42 w.heap.size) _ (qs4m rfl) ⟨fun d hd=>by cases hd;rfl,M42 x w hS,fun _=>rfl,fun i h hc=>qpwk (h hc),[73],by kernel_rfl,(by repeat (first|exact trivial|refine⟨.inr rfl,?_⟩|refine⟨.inl rfl,?_⟩))⟩⟩)) ?_;refine q2y4.All.step rfl (q2y4.Does.call (args:=fun x=>#[.bool hu,rowN 1 (x 42)]) (val:=fun x=>(.string sUw)) rfl (fun _ h=>absurd h (by decide)) (fun x w hm hS=>⟨rfl,rfl,qpjl.enter2 func90 rfl rfl rfl,(fun _ _ _=>H74 x w hS (hm 42 (by kernel_rfl) (by decide) (by decide))) x w hS⟩)) ?_;refine q2y4.pu rfl rfl (fun _ h=>absurd h (by decide)) (fun x w hm hS=>⟨rfl,rfl,qy7x rfl⟩) ?_;refine q2y4.pu rfl rfl (fun _ h=>absurd h (by decide)) (fun x w hm hS=>⟨rfl,rfl,qylu rfl (K12 x w hS)⟩) ?_;refine q2y4.pu rfl rfl (fun _ h=>absurd h (by decide)) (fun x w hm hS=>⟨rfl,rfl,qsfc rfl⟩) ?_;refine q2y4.pu rfl rfl (fun _ h=>absurd h (by decide)) (fun x w hm hS=>⟨rfl,rfl,qser rfl (K13 x w hS)⟩) ?_;refine q2y4.All.step rfl ((fun x w hm hS => .inl ⟨rfl,.value (.slice (some ⟨w.heap.size,0,none⟩) 1 1) (putG x 48 w.heap.size) _ (qs4m rfl) ⟨fun d hd=>by cases hd;rfl,M48 x w hS,fun _=>rfl,fun i h hc=>qpwk (h hc),[79],by kernel_rfl,(by repeat (first|exact trivial|refine⟨.inr rfl,?_⟩|refine⟨.inl rfl,?_⟩))⟩⟩)) ?_;refine q2y4.All.step rfl (q2y4.Does.call (args:=fun x=>#[rowN 1 (x 48)]) (val:=fun x=>(.string sAp)) rfl (fun _ h=>absurd h (by decide)) (fun x w hm hS=>⟨rfl,rfl,qpjl.enter1 func89 rfl rfl,(fun _ _ _=>H80 x w hS (hm 48 (by kernel_rfl) (by decide) (by decide))) x w hS⟩)) ?_;refine q2y4.All.step rfl ((fun x w hm hS => .inl ⟨rfl,.value (.slice (some ⟨w.heap.size,0,none⟩) 1 1) (putG x 50 w.heap.size) _ (qs4m rfl) ⟨fun d hd=>by cases hd;rfl,M50 x w hS,fun _=>rfl,fun i h hc=>qpwk (h hc),[81],by kernel_rfl,(by repeat (first|exact trivial|refine⟨.inr rfl,?_⟩|refine⟨.inl rfl,?_⟩))⟩⟩)) ?_;refine q2y4.All.step rfl (q2y4.Does.call (args:=fun x=>#[.bool ha,rowN 1 (x 50)]) (val:=fun x=>(.string sAw)) rfl (fun _ h=>absurd h (by decide)) (fun x w hm hS=>⟨rfl,rfl,qpjl.enter2 func90 rfl rfl rfl,(fun _ _ _=>H82 x w hS (hm 50 (by kernel_rfl) (by decide) (by decide))) x w hS⟩)) ?_;refine q2y4.All.step rfl ((fun x w hm hS => .inl ⟨rfl,.value (.slice (some ⟨w.heap.size,0,none⟩) 8 8) (putG x 52 w.heap.size) _ (ql0f rfl rfl rfl rfl rfl rfl rfl) ⟨fun d hd=>by cases hd;rfl,M52 x w hS,fun _=>rfl,fun i h hc=>qpwk (h hc),[83],by kernel_rfl,(by repeat (first|exact trivial|refine⟨.inr rfl,?_⟩|refine⟨.inl rfl,?_⟩))⟩⟩)) ?_;refine q2y4.All.step rfl (q2y4.Does.call (args:=fun x=>#[rowN 8 (x 52)]) (val:=fun x=>(.string sR)) rfl (fun _ h=>absurd h (by decide)) (fun x w hm hS=>⟨rfl,rfl,qpjl.enter1 func84 rfl rfl,(fun _ _ _=>H84 x w hS (hm 52 (by kernel_rfl) (by decide) (by decide))) x w hS⟩)) ?_
 iterate 2 refine q2y4.pu rfl rfl (fun _ h=>absurd h (by decide)) (fun x w hm hS=>⟨rfl,rfl,rfl⟩) ?_
 exact q2y4.All.fin rfl
end Go.Proofs.YtombgnfedafkjaaGreatDoor
