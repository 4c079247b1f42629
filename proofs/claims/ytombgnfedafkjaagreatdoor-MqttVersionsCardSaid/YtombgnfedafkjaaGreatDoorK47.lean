/- The contract of connect.fits: do a packet's fields go with its version, its kind and one another? Condition: at most 70,000 elements a list. -/
import Derived.Test.YtombgnfedafkjaaGreatDoorK30
import Derived.Test.YtombgnfedafkjaaGreatDoorK22
set_option maxRecDepth 100000
set_option maxHeartbeats 4000000
namespace Go.Proofs.YtombgnfedafkjaaGreatDoor
open Lib(hid)
open Proofs.Tryz
open Go.RowKit
section
variable{a:Act}{w:World}{d:Option Tmp}{p:String}{af:Array Edge}{gd:Option (Nat×Bool)}{x y z:Tmp}{r:TypeId}
theorem q390{g:Nat}{C:Array Value}(hx:a.eval (.tmp x)=.pointer (some ⟨g,0,none⟩))(hs:C.size=25)(hg:w.heap[g]?=some (.cells C 32 (0,0))) :
 (execOp a.eval {dst:=d,op := .load 32 (.tmp x),type:=32,pos:=p,after:=af,guard:=gd}).run prog w=.ok (.value (.agg C)) w:=by
 unfold execOp;simp only[hx,Instr.loadAt,Instr.sureAddr,Sem.run_bind,Sem.run_pure,Result.andThen_ok,run_loadVar_row w g 32 32 C (0,0) _ hg underlying32 rfl (by rw[hs];exact q5nr)]
theorem q809{g:Nat}(hx:a.eval (.tmp x)=.pointer (some ⟨g,0,none⟩)) :
 (execOp a.eval {dst:=d,op := .fieldAddr 32 (.tmp x) 0,type:=r,pos:=p,after:=af,guard:=gd}).run prog w=.ok (.value (.pointer (some ⟨g,0,none⟩))) w:=by
 generalize a.eval=f at *;go_simp
theorem qta9{g:Nat}{k:Int}(hx:a.eval (.tmp x)=.pointer (some ⟨g,0,none⟩))(hc:w.cell? ⟨g,0,none⟩=some (.int .i64 k)) :
 (execOp a.eval {dst:=d,op := .load 3 (.tmp x),type:=3,pos:=p,after:=af,guard:=gd}).run prog w=.ok (.value (.int .i64 k)) w:=by
 generalize a.eval=f at *;go_simp
theorem qdfg{b c:Bool}(hx:a.eval (.tmp x)=.bool b)(hc:(!b)=c) :
 (execOp a.eval {dst:=d,op := .unOp .not 4 (.tmp x),type:=r,pos:=p,after:=af,guard:=gd}).run prog w=.ok (.value (.bool c)) w:=by
 subst hc;generalize a.eval=f at *;go_simp
end
theorem qyqy{Q:Exit->Act->World->Prop}{S:World->Prop}{W:World}{v k:Int}{C U:Array Value}{m:Bool}{B:Nat}{x5 x6 x7 x8 x9 x10 x11 x12 x13 x14 x15 x16 x17 x18 x19 x20 x21 x22 x23 x24 x25 x26 x27 x28 x29 x30 x31 x32 x33 x34 x35 x36 x37 x38 x39 x40 x41 x42 x43 x44 x45 x46 x47 x48 x49 x50 x51 x52 x53 x54 x55 x56 x57 x58 x59 x60 x61 x62:Value}
 (hS:S W.drew) (hC:C.size=25) (hS0:∀w,S w->w.cell? ⟨B,0,none⟩=some (.int .i64 k)) (hS1:∀w,S w->w.heap[B]?=some (.cells C 32 (0,0)))
 (KN:∀w,S w->Calls prog 91 #[.int .i64 v,.int .i64 k] w fun e w'=>e=.returned (.bool true)/\S w')
 (US:∀w,S w->Calls prog 163 #[.int .i64 v,.agg C] w fun e w'=>e=.returned (.agg U)/\S w')
 (SM:∀w,S w->Calls prog 140 #[.agg C,.agg U] w fun e w'=>e=.returned (.bool m)/\S w')
 (fin:∀w,S w->Q .normal ⟨#[(.int .i64 v),(.agg C),undef,(.pointer (some ⟨B,0,none⟩)),(.bool false),x5,(.int .i64 v),(.pointer (some ⟨B,0,none⟩)),(.int .i64 k),(.bool true),(.bool false),(.bool false),(.agg C),(.int .i64 v),(.agg C),(.agg U),(.bool m),(.bool (!m)),(.bool (!m)),x19,x20,x21,x22,x23,x24,x25,x26,x27,x28,x29,x30,x31,x32,x33,x34,x35,x36,x37,x38,x39,x40,x41,x42,x43,x44,x45,x46,x47,x48,x49,x50,x51,x52,x53,x54,x55,x56,x57,x58,x59,x60,x61,x62],[]⟩ w) :
 (Code.region 1 (qfhu.opsAt 1 Tryz.f126.body) true).wp prog Q ⟨#[(.int .i64 v),(.agg C),undef,(.pointer (some ⟨B,0,none⟩)),(.bool false),x5,x6,x7,x8,x9,x10,x11,x12,x13,x14,x15,x16,x17,x18,x19,x20,x21,x22,x23,x24,x25,x26,x27,x28,x29,x30,x31,x32,x33,x34,x35,x36,x37,x38,x39,x40,x41,x42,x43,x44,x45,x46,x47,x48,x49,x50,x51,x52,x53,x54,x55,x56,x57,x58,x59,x60,x61,x62],[]⟩ W:=by
 refine qfhu.wp_in (ds:=[6,7,8,9,10,11,12,13,14,15,16,17,18]) (D:=[]) (by kernel_rfl) (by kernel_rfl) (by kernel_rfl) ?_ hS ?_ fin
 ·exact(by repeat (first|exact trivial|refine⟨.inr rfl,?_⟩|refine⟨.inl rfl,?_⟩))
 refine qfhu.pu rfl rfl rfl rfl (fun w hS=>rfl) ?_;refine qfhu.pu rfl rfl rfl rfl (fun w hS=>q809 rfl) ?_;refine qfhu.pu rfl rfl rfl rfl (fun w hS=>qta9 rfl (hS0 w hS)) ?_;refine qfhu.ca rfl rfl rfl rfl (fun w=>qpjl.enter2 func91 rfl rfl rfl) KN ?_;refine qfhu.pu rfl rfl rfl rfl (fun w hS=>qdfg rfl rfl) ?_;refine qfhu.pu rfl rfl rfl rfl (fun w hS=>rfl) ?_;refine qfhu.pu rfl rfl rfl rfl (fun w hS=>q390 rfl hC (hS1 w hS)) ?_;refine qfhu.pu rfl rfl rfl rfl (fun w hS=>rfl) ?_;refine qfhu.pu rfl rfl rfl rfl (fun w hS=>q390 rfl hC (hS1 w hS)) ?_;refine qfhu.ca rfl rfl rfl rfl (fun w=>qpjl.enter2 func163 rfl rfl rfl) US ?_;refine qfhu.ca rfl rfl rfl rfl (fun w=>qpjl.enter2 func140 rfl rfl rfl) SM ?_;refine qfhu.pu rfl rfl rfl rfl (fun w hS=>qdfg rfl rfl) ?_;refine qfhu.pu rfl rfl rfl rfl (fun w hS=>rfl) ?_;exact qfhu.All.fin rfl
theorem q070{Q:Exit->Act->World->Prop}{S:World->Prop}{W:World}{v k:Int}{C:Array Value}{B:Nat}{x5 x6 x7 x8 x9 x10 x11 x12 x13 x14 x15 x16 x17 x18 x19 x20 x21 x22 x23 x24 x25 x26 x27 x28 x29 x30 x31 x32 x33 x34 x35 x36 x37 x38 x39 x40 x41 x42 x43 x44 x45 x46 x47 x48 x49 x50 x51 x52 x53 x54 x55 x56 x57 x58 x59 x60 x61 x62:Value}
 (hS:S W.drew) (hS0:∀w,S w->w.cell? ⟨B,0,none⟩=some (.int .i64 k))
 (KN:∀w,S w->Calls prog 91 #[.int .i64 v,.int .i64 k] w fun e w'=>e=.returned (.bool false)/\S w')
 (fin:∀w,S w->Q .normal ⟨#[(.int .i64 v),(.agg C),undef,(.pointer (some ⟨B,0,none⟩)),(.bool false),x5,(.int .i64 v),(.pointer (some ⟨B,0,none⟩)),(.int .i64 k),(.bool false),(.bool true),(.bool true),undef,undef,undef,undef,undef,undef,(.bool true),x19,x20,x21,x22,x23,x24,x25,x26,x27,x28,x29,x30,x31,x32,x33,x34,x35,x36,x37,x38,x39,x40,x41,x42,x43,x44,x45,x46,x47,x48,x49,x50,x51,x52,x53,x54,x55,x56,x57,x58,x59,x60,x61,x62],[]⟩ w) :
 (Code.region 1 (qfhu.opsAt 1 Tryz.f126.body) true).wp prog Q ⟨#[(.int .i64 v),(.agg C),undef,(.pointer (some ⟨B,0,none⟩)),(.bool false),x5,x6,x7,x8,x9,x10,x11,x12,x13,x14,x15,x16,x17,x18,x19,x20,x21,x22,x23,x24,x25,x26,x27,x28,x29,x30,x31,x32,x33,x34,x35,x36,x37,x38,x39,x40,x41,x42,x43,x44,x45,x46,x47,x48,x49,x50,x51,x52,x53,x54,x55,x56,x57,x58,x59,x60,x61,x62],[]⟩ W:=by
 refine qfhu.wp_in (ds:=[6,7,8,9,10,11,12,13,14,15,16,17,18]) (D:=[]) (by kernel_rfl) (by kernel_rfl) (by kernel_rfl) ?_ hS ?_ fin
 ·exact(by repeat (first|exact trivial|refine⟨.inr rfl,?_⟩|refine⟨.inl rfl,?_⟩))
 refine qfhu.pu rfl rfl rfl rfl (fun w hS=>rfl) ?_;refine qfhu.pu rfl rfl rfl rfl (fun w hS=>q809 rfl) ?_;refine qfhu.pu rfl rfl rfl rfl (fun w hS=>qta9 rfl (hS0 w hS)) ?_;refine qfhu.ca rfl rfl rfl rfl (fun w=>qpjl.enter2 func91 rfl rfl rfl) KN ?_;refine qfhu.pu rfl rfl rfl rfl (fun w hS=>qdfg rfl rfl) ?_
 iterate 8 (first|refine qfhu.sk rfl rfl rfl rfl ?_|refine qfhu.pu rfl rfl rfl rfl (fun w hS=>rfl) ?_)
 exact qfhu.All.fin rfl
theorem qcax(p:Pk)(hk:p.kind=1\/p.kind=2):q8po 5 p=qm70 p:=by
 unfold q8po qm70;rcases hk with hk|hk
 ·have h2:¬p.kind=2:=by omega
  rw[if_neg h2,if_neg h2];unfold us6 us5 us4 us3 us1;cases p.hasWill<;>simp
 ·rw[if_pos hk,if_pos hk];unfold us2 us1;simp
theorem qysa(p:Pk)(hk:p.kind=1\/p.kind=2):q8po 4 p={qm70 p with props:=[],wProps:=[]}:=by
 unfold q8po qm70;rcases hk with hk|hk
 ·have h2:¬p.kind=2:=by omega
  rw[if_neg h2,if_neg h2];unfold us6 us5 us4 us3 us1;cases p.hasWill<;>simp
 ·rw[if_pos hk,if_pos hk];unfold us2 us1;simp[Pk.zero]
theorem q5bu(v:Int)(p:Pk)(hv:v=4\/v=5)(hk:p.kind=1\/p.kind=2):decide (p=q8po v p)=(decide (p=qm70 p)&&!(v==4&&!(p.props.isEmpty&&p.wProps.isEmpty))):=by
 rcases hv with rfl|rfl
 ·rw[qysa p hk,Bool.eq_iff_iff];simp only[decide_eq_true_eq,Bool.and_eq_true,beq_self_eq_true,Bool.true_and,Bool.not_not,List.isEmpty_iff];constructor
  ·intro h;have h1:p.props=[]:=by rw[h]
   have h2:p.wProps=[]:=by rw[h]
   refine⟨?_,h1,h2⟩;have h3:(qm70 p).props=[]:=by unfold qm70;split<;>simp[h1]
   have h4:(qm70 p).wProps=[]:=by unfold qm70;split<;>simp[h2,Pk.zero]
   conv=>lhs;rw[h]
   generalize qm70 p=q at h3 h4;obtain⟨⟩:=q;simp only at h3 h4;subst h3 h4
   rfl
  ·rintro⟨h,h1,h2⟩;have h3:(qm70 p).props=[]:=by rw[<-h];exact h1
   have h4:(qm70 p).wProps=[]:=by rw[<-h];exact h2
   conv=>lhs;rw[h]
   generalize qm70 p=q at h3 h4;obtain⟨⟩:=q;simp only at h3 h4;subst h3 h4
   rfl
 ·rw[qcax p hk];simp
def qqa5(v:Int)(p:Pk):Bool:=
 if p.kind=2 then(if v=4 then qfn3 p.code else mayR 2 p.code)&&(!p.session || p.code==0)
 else !(v==4&&(p.client.isEmpty&&!p.clean || p.hasPass&&!p.hasUser))&&decide (0<=p.keep/\p.keep<=65535)&&decide (0<=p.wQos/\p.wQos<=2)
theorem qmc6(v:Int)(p:Pk):okC v p=(versC v&&(p.kind==1 || p.kind==2)&&(decide (p=qm70 p)&&!(v==4&&!(p.props.isEmpty&&p.wProps.isEmpty)))&&qqa5 v p):=by unfold okC qqa5;simp only[Bool.and_assoc]
theorem qien{w:World}{v:Int}{p:Pk}{a:Ad}(h:PkAt w p a):PkAt w (q8po v p) (qyxc v p a):=by
 unfold q8po qyxc;split
 ·refine⟨fun e=>absurd rfl e,fun e=>absurd rfl e,fun e=>absurd rfl e,?_⟩;show PL w (if v=5 then a.ps else none) (if v=5 then p.props else []);split
  ·exact h.ps
  ·exact fun e=>absurd rfl e
 ·refine⟨?_,fun e=>absurd rfl e,fun e=>absurd rfl e,?_⟩
  ·show PL w (if p.hasWill then(if v=5 then a.w else none) else none) (if p.hasWill then(if v=5 then p.wProps else []) else []);split
   ·split
    ·exact h.w
    ·exact fun e=>absurd rfl e
   ·exact fun e=>absurd rfl e
  ·show PL w (if v=5 then a.ps else none) (if v=5 then p.props else []);split
   ·exact h.ps
   ·exact fun e=>absurd rfl e
theorem qyzo{v:Int}{p:Pk}(h:q21o p):q21o (q8po v p):=by
 obtain⟨_,_,h3,h4⟩:=h;unfold q8po;split
 ·refine⟨Nat.zero_le _,Nat.zero_le _,?_,Nat.zero_le _⟩;show(if v=5 then p.props else []).length<=70000;split
  ·exact h3
  ·exact Nat.zero_le _
 ·refine⟨Nat.zero_le _,Nat.zero_le _,?_,?_⟩
  ·show(if v=5 then p.props else []).length<=70000;split
   ·exact h3
   ·exact Nat.zero_le _
  ·show(if p.hasWill then(if v=5 then p.wProps else []) else []).length<=70000;split
   ·split
    ·exact h4
    ·exact Nat.zero_le _
   ·exact Nat.zero_le _
theorem qdnc(v:Int)(p:Pk)(a:Ad)(w:World)(hp:PkAt w p a)(sp:q21o p) :
 Calls prog 126 #[.int .i64 v,pkV p a] w fun e w'=>e=.returned (.bool (okC v p))/\Below w.heap.size w w':=by
 have S0:=BxS.made w p a;have KN:∀W,BxS w p a W->Calls prog 91 #[.int .i64 v,.int .i64 p.kind] W fun e w'=>e=.returned (.bool (versC v&&(p.kind==1 || p.kind==2)))/\BxS w p a w':=fun W h=>(q564 v p.kind W).mono fun e w' ⟨he,hw⟩=>⟨he,hw▸h⟩
 have US:∀W,BxS w p a W->Calls prog 163 #[.int .i64 v,.agg (pkC p a)] W fun e w'=>e=.returned (.agg (pkC (q8po v p) (qyxc v p a)))/\BxS w p a w':=fun W h=>(qhin v p a W).mono fun e w' ⟨he,hb⟩=>⟨he,h.call hb⟩
 have SM:∀W,BxS w p a W->Calls prog 140 #[.agg (pkC p a),.agg (pkC (q8po v p) (qyxc v p a))] W fun e w'=>e=.returned (.bool (decide (p=q8po v p)))/\BxS w p a w':=fun W h=>(qyk8 p (q8po v p) a (qyxc v p a) W (hp.below h.low) (qien (hp.below h.low)) sp (qyzo sp)).mono fun e w' ⟨he,hb⟩=>⟨he,h.call hb⟩
 have C1:=qwmp p a;have P0:∀W,BxS w p a W->W.cell? ⟨w.heap.size,0,none⟩=some (.int .i64 p.kind):=fun W h=>h.cell 0;have P1:∀W,BxS w p a W->W.heap[w.heap.size]?=some (.cells (pkC p a) 32 (0,0)):=fun W h=>h.box;have HS0:=hid S0.draw;have hC1:=hid C1;have hP0:=hid P0;have hP1:=hid P1;rw[qmc6];by_cases hkn:(versC v&&(p.kind==1 || p.kind==2))=true
 ·have hv:v=4\/v=5:=by simp only[versC,Bool.and_eq_true,Bool.or_eq_true,beq_iff_eq] at hkn;exact hkn.1
  have hk:p.kind=1\/p.kind=2:=by simp only[Bool.and_eq_true,Bool.or_eq_true,beq_iff_eq] at hkn;exact hkn.2
  rw[hkn] at KN ⊢;rw[<-q5bu v p hv hk,Bool.true_and];have hKN:=hid KN;have hUS:=hid US;by_cases he:p=q8po v p
  ·rw[decide_eq_true he] at SM ⊢;have hSM:=hid SM;rw[Bool.true_and];obtain⟨r,hr⟩:∃r,qqa5 v p=r:=⟨_,rfl⟩
   rw[hr];have HR:=hid hr;have HV:=hid hv;have HK:=hid hk;have HE:=hid he;unfold pkV;clear S0 KN US SM C1 P0 P1 hkn hv hk he hr;go_in
   go_upto_region 1 with fail
   refine qyqy (S:=BxS w p a) (B:=w.heap.size) HS0.out hC1.out hP0.out hP1.out hKN.out hUS.out hSM.out ?_;intro W hW;have HW:=hid hW;clear hW HS0;have k0:=HW.out.cell 0;change _=some (Value.int .i64 p.kind) at k0;by_cases h2:p.kind=2
   ·rw[h2] at k0;have hr:=HR.out;rw[qqa5,if_pos h2] at hr;have k17:W.cell? ⟨w.heap.size,21,none⟩=some (.int .i64 p.code):=HW.out.cell 21;have CC:=qtz4 v p.code;generalize (if v=4 then qfn3 p.code else mayR 2 p.code)=cf at hr CC;have CC:=hid CC;clear h2 HR HE HK;cases cf with
    |false=>have HR:=hid hr;clear hr;go_wp2_with fail;refine(CC.out _).mono ?_;rintro e W2 ⟨rfl,hb⟩;have B2:=hid (HW.out.call hb).low;clear hb;go_wp2;go_ret;exact⟨congrArg (fun b=>Ending.returned (Value.bool b)) HR.out,B2.out⟩
    |true=>
     by_cases hc:p.code=0
     ·have HR:=hid (show true=r by rw[<-hr,hc];simp);have HC:=hid hc;rw[hc] at k17 CC;clear hr hc;have CC:=hid CC.out;go_wp2_with fail;refine(CC.out _).mono ?_;rintro e W2 ⟨rfl,hb⟩;have B2:=hid (HW.out.call hb).low;have k17:W2.cell? ⟨w.heap.size,21,none⟩=some (.int .i64 p.code):=(HW.out.call hb).cell 21;rw[HC.out] at k17;clear hb;go_wp2;go_ret;exact⟨congrArg (fun b=>Ending.returned (Value.bool b)) HR.out,B2.out⟩
     ·have hc':(p.code==0)=false:=beq_eq_false_iff_ne.2 hc;have HR:=hid (show(!p.session)=r by rw[<-hr,hc'];simp);clear hr hc;go_wp2_with fail;refine(CC.out _).mono ?_;rintro e W2 ⟨rfl,hb⟩;have B2:=hid (HW.out.call hb).low;have k17:W2.cell? ⟨w.heap.size,21,none⟩=some (.int .i64 p.code):=(HW.out.call hb).cell 21;have k16:W2.cell? ⟨w.heap.size,20,none⟩=some (.bool p.session):=(HW.out.call hb).cell 20;clear hb;go_wp2;go_ret;exact⟨congrArg (fun b=>Ending.returned (Value.bool b)) HR.out,B2.out⟩
   ·have h2':(p.kind==2)=false:=beq_eq_false_iff_ne.2 h2;obtain⟨nm,hnm⟩:∃x,(v != 4 || (!p.client.isEmpty || p.clean))=x:=⟨_,rfl⟩
    have hr:=HR.out;have hf:(p.hasWill || (p.wQos==0&&!p.wRetain))=true:=by
     cases hw:p.hasWill with
     |true=>rfl
     |false=>
      have h:=HE.out;rw[q8po,if_neg h2] at h;have h1:p.wQos=0:=by rw[h];unfold us6 us5 us4;simp[hw]
      have h3:p.wRetain=false:=by rw[h];unfold us6 us5 us4;simp[hw]
      rw[h1,h3];rfl
    have hr2:r=(nm&&(decide (0<=p.keep)&&(decide (p.keep<=65535)&&fitC v p.hasWill p.hasPass p.hasUser p.wRetain p.wQos))):=by
     rw[<-hr,qqa5,if_neg h2,fitC,hf,<-hnm];have hq:decide (0<=p.wQos/\p.wQos<=2)=(decide (0<=p.wQos)&&decide (p.wQos<=2)):=by rw[Bool.decide_and]
     have hk:decide (0<=p.keep/\p.keep<=65535)=(decide (0<=p.keep)&&decide (p.keep<=65535)):=by rw[Bool.decide_and]
     rw[hq,hk,show(v != 4)=!(v==4) from rfl];generalize (v==4)=b1;generalize p.client.isEmpty=b2;generalize decide (0<=p.wQos)=b3;generalize decide (p.wQos<=2)=b4;generalize decide (0<=p.keep)=b5;generalize decide (p.keep<=65535)=b6;generalize p.clean=b7;generalize p.hasPass=b8;generalize p.hasUser=b9
     revert b1 b2 b3 b4 b5 b6 b7 b8 b9
     decide
    have FF:=hid (fun W=>qntu v (c:=pkC p a) W (show(pkC p a)[10]?=some (.bool p.hasUser) from rfl) (show(pkC p a)[12]?=some (.bool p.hasPass) from rfl) (show(pkC p a)[14]?=some (.bool p.hasWill) from rfl) (show(pkC p a)[17]?=some (.int .i64 p.wQos) from rfl) (show(pkC p a)[18]?=some (.bool p.wRetain) from rfl));generalize fitC v p.hasWill p.hasPass p.hasUser p.wRetain p.wQos=ft at hr2 FF;have HR2:=hid hr2;have k9:W.cell? ⟨w.heap.size,9,none⟩=some (.string (bs p.client)):=HW.out.cell 9;have k7:W.cell? ⟨w.heap.size,7,none⟩=some (.bool p.clean):=HW.out.cell 7;clear h2 hr hr2 hf HR HE HK
    go_upto_region 5 with fail
    go_cut [5] (fun s5 wx=>s5=.bool nm/\wx=W)
    case first=>
     by_cases h4:v=4
     ·subst h4;have hE:(bs p.client).toList.isEmpty=p.client.isEmpty:=by rw[q0c6]
      generalize bs p.client=C at k9 hE;cases hc:p.client.isEmpty with
      |true=>
       rw[hc] at hE;cases hcl:p.clean
       all_goals
        have HN:=hid hnm;rw[hc,hcl] at HN;rw[hcl] at k7;clear hnm hc hcl;go_wp2_with fail
        go_meet
        exact⟨congrArg Value.bool HN.out,rfl⟩
      |false=>
       rw[hc] at hE;have HN:=hid hnm;rw[hc] at HN;clear hnm hc;go_wp2_with fail
       go_meet
       exact⟨congrArg Value.bool HN.out,rfl⟩
     ·have h4':(v==4)=false:=beq_eq_false_iff_ne.2 h4;have HN:=hid (show true=nm by rw[<-hnm,show(v != 4)=!(v==4) from rfl,h4'];rfl);have h4n:(v != 4)=true:=by rw[show(v != 4)=!(v==4) from rfl,h4'];rfl
      clear h4 hnm h4';go_wp2_with fail
      go_meet
      exact⟨congrArg Value.bool HN.out,rfl⟩
    case rest=>
     obtain⟨rfl,rfl⟩:=hcut;clear k9 k7 hnm h2' k0;have k8:wc.cell? ⟨w.heap.size,8,none⟩=some (.int .i64 p.keep):=HW.out.cell 8;cases nm with
     |false=>have HR:=hid HR2.out.symm;clear HR2;have LO:=hid HW.out.low;go_wp2;go_ret;exact⟨congrArg (fun b=>Ending.returned (Value.bool b)) HR.out,LO.out⟩
     |true=>
      by_cases q0:p.keep<0
      ·have HR:=hid (show false=r by rw[HR2.out,decide_eq_false (show ¬0<=p.keep by omega)];rfl);have LO:=hid HW.out.low;clear HR2;go_wp2;go_ret;exact⟨congrArg (fun b=>Ending.returned (Value.bool b)) HR.out,LO.out⟩
      by_cases q1:65535<p.keep
      ·have HR:=hid (show false=r by rw[HR2.out,decide_eq_true (show 0<=p.keep by omega),decide_eq_false (show ¬p.keep<=65535 by omega)];rfl);have LO:=hid HW.out.low;clear HR2;go_wp2;go_ret;exact⟨congrArg (fun b=>Ending.returned (Value.bool b)) HR.out,LO.out⟩
      have HR:=hid (show ft=r by rw[HR2.out,decide_eq_true (show 0<=p.keep by omega),decide_eq_true (show p.keep<=65535 by omega)];rfl);clear HR2;have GB:=hid HW.out.box;go_wp2_with (refine q2a5 rfl _ _ rfl w.heap.size rfl 32 _ (0,0) _ GB.out underlying32 rfl (by rw[hC1.out];exact q5nr) ?_);refine(FF.out _).mono ?_;rintro e W2 ⟨rfl,hb⟩;have LO:=hid (qxh2 HW.out.low hb);clear hb;go_wp2;go_ret;exact⟨congrArg (fun b=>Ending.returned (Value.bool b)) HR.out,LO.out⟩
  ·rw[decide_eq_false he] at SM ⊢;have hSM:=hid SM;unfold pkV;clear S0 KN US SM C1 P0 P1 hkn hv hk he;go_in
   go_upto_region 1 with fail
   refine qyqy (S:=BxS w p a) (B:=w.heap.size) HS0.out hC1.out hP0.out hP1.out hKN.out hUS.out hSM.out ?_;intro W hW;have HW:=hid hW.low;clear hW HS0;go_wp2;go_ret;exact⟨rfl,HW.out⟩
 ·have hkn:(versC v&&(p.kind==1 || p.kind==2))=false:=by simpa using hkn
  rw[hkn] at KN ⊢;have hKN:=hid KN;unfold pkV;clear S0 KN US SM C1 P0 P1 hkn;go_in
  go_upto_region 1 with fail
  refine q070 (S:=BxS w p a) (B:=w.heap.size) HS0.out hP0.out hKN.out ?_;intro W hW;have HW:=hid hW.low;clear hW HS0;go_wp2;go_ret;exact⟨rfl,HW.out⟩
end Go.Proofs.YtombgnfedafkjaaGreatDoor
