/- The contract of connect.fits: do a packet's fields go with its version, its kind and one another? Condition: at most 70,000 elements a list. -/
import Derived.Test.YtlhkgidoaggodaaGreatDoorK30
set_option maxRecDepth 100000
set_option maxHeartbeats 4000000
namespace Go.Proofs.YtlhkgidoaggodaaGreatDoor
open Lib(hid)
open Proofs.Tryz
open Go.RowKit
section
variable{a:Act}{w:World}{d:Option Tmp}{p:String}{af:Array Edge}{gd:Option (Nat×Bool)}{x y z:Tmp}{r:TypeId}
theorem q390{g:Nat}{C:Array Value}(hx:a.eval (.tmp x)=.pointer (some ⟨g,0,none⟩))(hs:C.size=25)(hg:w.heap[g]?=some (.cells C 40 (0,0))) :
 (execOp a.eval {dst:=d,op := .load 40 (.tmp x),type:=40,pos:=p,after:=af,guard:=gd}).run prog w=.ok (.value (.agg C)) w:=by
 unfold execOp;simp only[hx,Instr.loadAt,Instr.sureAddr,Sem.run_bind,Sem.run_pure,Result.andThen_ok,run_loadVar_row w g 40 40 C (0,0) _ hg underlying40 rfl (by rw[hs];exact q5nr)]
theorem q809{g:Nat}(hx:a.eval (.tmp x)=.pointer (some ⟨g,0,none⟩)) :
 (execOp a.eval {dst:=d,op := .fieldAddr 40 (.tmp x) 0,type:=r,pos:=p,after:=af,guard:=gd}).run prog w=.ok (.value (.pointer (some ⟨g,0,none⟩))) w:=by
 generalize a.eval=f at *;go_simp
theorem qta9{g:Nat}{k:Int}(hx:a.eval (.tmp x)=.pointer (some ⟨g,0,none⟩))(hc:w.cell? ⟨g,0,none⟩=some (.int .i64 k)) :
 (execOp a.eval {dst:=d,op := .load 3 (.tmp x),type:=3,pos:=p,after:=af,guard:=gd}).run prog w=.ok (.value (.int .i64 k)) w:=by
 generalize a.eval=f at *;go_simp
theorem qdfg{b c:Bool}(hx:a.eval (.tmp x)=.bool b)(hc:(!b)=c) :
 (execOp a.eval {dst:=d,op := .unOp .not 4 (.tmp x),type:=r,pos:=p,after:=af,guard:=gd}).run prog w=.ok (.value (.bool c)) w:=by
 subst hc;generalize a.eval=f at *;go_simp
end
theorem qyqy{Q:Exit->Act->World->Prop}{S:World->Prop}{W:World}{v k:Int}{C U:Array Value}{m:Bool}{B:Nat}{x5 x6 x7 x8 x9 x10 x11 x12 x13 x14 x15 x16 x17 x18 x19 x20 x21 x22 x23 x24 x25 x26 x27 x28 x29 x30 x31 x32 x33 x34 x35 x36 x37 x38 x39 x40 x41 x42 x43 x44 x45 x46 x47 x48 x49 x50 x51 x52 x53 x54 x55 x56 x57 x58 x59 x60 x61 x62:Value}
 (hS:S W.drew) (hC:C.size=25) (hS0:∀w,S w->w.cell? ⟨B,0,none⟩=some (.int .i64 k)) (hS1:∀w,S w->w.heap[B]?=some (.cells C 40 (0,0)))
 (KN:∀w,S w->Calls prog 90 #[.int .i64 v,.int .i64 k] w fun e w'=>e=.returned (.bool true)/\S w')
 (US:∀w,S w->Calls prog 161 #[.int .i64 v,.agg C] w fun e w'=>e=.returned (.agg U)/\S w')
 (SM:∀w,S w->Calls prog 137 #[.agg C,.agg U] w fun e w'=>e=.returned (.bool m)/\S w')
 (fin:∀w,S w->Q .normal ⟨#[(.int .i64 v),(.agg C),undef,(.pointer (some ⟨B,0,none⟩)),(.bool false),x5,(.int .i64 v),(.pointer (some ⟨B,0,none⟩)),(.int .i64 k),(.bool true),(.bool false),(.bool false),(.agg C),(.int .i64 v),(.agg C),(.agg U),(.bool m),(.bool (!m)),(.bool (!m)),x19,x20,x21,x22,x23,x24,x25,x26,x27,x28,x29,x30,x31,x32,x33,x34,x35,x36,x37,x38,x39,x40,x41,x42,x43,x44,x45,x46,x47,x48,x49,x50,x51,x52,x53,x54,x55,x56,x57,x58,x59,x60,x61,x62],[]⟩ w) :
 (Code.region 1 (qfhu.opsAt 1 Tryz.f123.body) true).wp prog Q ⟨#[(.int .i64 v),(.agg C),undef,(.pointer (some ⟨B,0,none⟩)),(.bool false),x5,x6,x7,x8,x9,x10,x11,x12,x13,x14,x15,x16,x17,x18,x19,x20,x21,x22,x23,x24,x25,x26,x27,x28,x29,x30,x31,x32,x33,x34,x35,x36,x37,x38,x39,x40,x41,x42,x43,x44,x45,x46,x47,x48,x49,x50,x51,x52,x53,x54,x55,x56,x57,x58,x59,x60,x61,x62],[]⟩ W:=by
 refine qfhu.wp_in (ds:=[6,7,8,9,10,11,12,13,14,15,16,17,18]) (D:=[]) (by kernel_rfl) (by kernel_rfl) (by kernel_rfl) ?_ hS ?_ fin
 ·exact(by repeat (first|exact trivial|refine⟨.inr rfl,?_⟩|refine⟨.inl rfl,?_⟩))
 refine qfhu.pu rfl rfl rfl rfl (fun w hS=>rfl) ?_;refine qfhu.pu rfl rfl rfl rfl (fun w hS=>q809 rfl) ?_;refine qfhu.pu rfl rfl rfl rfl (fun w hS=>qta9 rfl (hS0 w hS)) ?_;refine qfhu.ca rfl rfl rfl rfl (fun w=>qpjl.enter2 func90 rfl rfl rfl) KN ?_;refine qfhu.pu rfl rfl rfl rfl (fun w hS=>qdfg rfl rfl) ?_;refine qfhu.pu rfl rfl rfl rfl (fun w hS=>rfl) ?_;refine qfhu.pu rfl rfl rfl rfl (fun w hS=>q390 rfl hC (hS1 w hS)) ?_;refine qfhu.pu rfl rfl rfl rfl (fun w hS=>rfl) ?_;refine qfhu.pu rfl rfl rfl rfl (fun w hS=>q390 rfl hC (hS1 w hS)) ?_;refine qfhu.ca rfl rfl rfl rfl (fun w=>qpjl.enter2 func161 rfl rfl rfl) US ?_;refine qfhu.ca rfl rfl rfl rfl (fun w=>qpjl.enter2 func137 rfl rfl rfl) SM ?_;refine qfhu.pu rfl rfl rfl rfl (fun w hS=>qdfg rfl rfl) ?_;refine qfhu.pu rfl rfl rfl rfl (fun w hS=>rfl) ?_;exact qfhu.All.fin rfl
theorem q070{Q:Exit->Act->World->Prop}{S:World->Prop}{W:World}{v k:Int}{C:Array Value}{B:Nat}{x5 x6 x7 x8 x9 x10 x11 x12 x13 x14 x15 x16 x17 x18 x19 x20 x21 x22 x23 x24 x25 x26 x27 x28 x29 x30 x31 x32 x33 x34 x35 x36 x37 x38 x39 x40 x41 x42 x43 x44 x45 x46 x47 x48 x49 x50 x51 x52 x53 x54 x55 x56 x57 x58 x59 x60 x61 x62:Value}
 (hS:S W.drew) (hS0:∀w,S w->w.cell? ⟨B,0,none⟩=some (.int .i64 k))
 (KN:∀w,S w->Calls prog 90 #[.int .i64 v,.int .i64 k] w fun e w'=>e=.returned (.bool false)/\S w')
 (fin:∀w,S w->Q .normal ⟨#[(.int .i64 v),(.agg C),undef,(.pointer (some ⟨B,0,none⟩)),(.bool false),x5,(.int .i64 v),(.pointer (some ⟨B,0,none⟩)),(.int .i64 k),(.bool false),(.bool true),(.bool true),undef,undef,undef,undef,undef,undef,(.bool true),x19,x20,x21,x22,x23,x24,x25,x26,x27,x28,x29,x30,x31,x32,x33,x34,x35,x36,x37,x38,x39,x40,x41,x42,x43,x44,x45,x46,x47,x48,x49,x50,x51,x52,x53,x54,x55,x56,x57,x58,x59,x60,x61,x62],[]⟩ w) :
 (Code.region 1 (qfhu.opsAt 1 Tryz.f123.body) true).wp prog Q ⟨#[(.int .i64 v),(.agg C),undef,(.pointer (some ⟨B,0,none⟩)),(.bool false),x5,x6,x7,x8,x9,x10,x11,x12,x13,x14,x15,x16,x17,x18,x19,x20,x21,x22,x23,x24,x25,x26,x27,x28,x29,x30,x31,x32,x33,x34,x35,x36,x37,x38,x39,x40,x41,x42,x43,x44,x45,x46,x47,x48,x49,x50,x51,x52,x53,x54,x55,x56,x57,x58,x59,x60,x61,x62],[]⟩ W:=by
 refine qfhu.wp_in (ds:=[6,7,8,9,10,11,12,13,14,15,16,17,18]) (D:=[]) (by kernel_rfl) (by kernel_rfl) (by kernel_rfl) ?_ hS ?_ fin
 ·exact(by repeat (first|exact trivial|refine⟨.inr rfl,?_⟩|refine⟨.inl rfl,?_⟩))
 refine qfhu.pu rfl rfl rfl rfl (fun w hS=>rfl) ?_;refine qfhu.pu rfl rfl rfl rfl (fun w hS=>q809 rfl) ?_;refine qfhu.pu rfl rfl rfl rfl (fun w hS=>qta9 rfl (hS0 w hS)) ?_;refine qfhu.ca rfl rfl rfl rfl (fun w=>qpjl.enter2 func90 rfl rfl rfl) KN ?_;refine qfhu.pu rfl rfl rfl rfl (fun w hS=>qdfg rfl rfl) ?_
 iterate 8 (first|refine qfhu.sk rfl rfl rfl rfl ?_|refine qfhu.pu rfl rfl rfl rfl (fun w hS=>rfl) ?_)
 exact qfhu.All.fin rfl
theorem qcax(p:Pk)(hk:p.kind=1\/p.kind=2):q8po 5 p=qm70 p:=by
 unfold q8po qm70;rcases hk with hk|hk
 ·have h2:¬p.kind=2:=by omega
  rw[if_neg h2,if_neg h2];unfold us6 us5 us4 us3 us1;cases p.hasWill<;>simp
 ·rw[if_pos hk,if_pos hk];unfold us2 us1;simp
theorem qysa(p:Pk)(hk:p.kind=1\/p.kind=2):q8po 4 p={qm70 p with props:=[],wProps:=[]}:=by
 unfold q8po qm70;rcases hk with hk|hk
 ·have h2:¬p.kind=2:=by omega
  rw[if_neg h2,if_neg h2];unfold us6 us5 us4 us3 us1;cases p.hasWill<;>simp
 ·rw[if_pos hk,if_pos hk];unfold us2 us1;simp[Pk.zero]
theorem q5bu(v:Int)(p:Pk)(hv:v=4\/v=5)(hk:p.kind=1\/p.kind=2):decide (p=q8po v p)=(decide (p=qm70 p)&&!(v==4&&!(p.props.isEmpty&&p.wProps.isEmpty))):=by
 rcases hv with rfl|rfl
 ·rw[qysa p hk,Bool.eq_iff_iff];simp only[decide_eq_true_eq,Bool.and_eq_true,beq_self_eq_true,Bool.true_and,Bool.not_not,List.isEmpty_iff];constructor
  ·intro h;have h1:p.props=[]:=by rw[h]
   have h2:p.wProps=[]:=by rw[h]
   refine⟨?_,h1,h2⟩;have h3:(qm70 p).props=[]:=by unfold qm70;split<;>simp[h1]
   have h4:(qm70 p).wProps=[]:=by unfold qm70;split<;>simp[h2,Pk.zero]
   conv=>lhs;rw[h]
   generalize qm70 p=q at h3 h4;obtain⟨⟩:=q;simp only at h3 h4;subst h3 h4
   rfl
  ·rintro⟨h,h1,h2⟩;have h3:(qm70 p).props=[]:=by rw[<-h];exact h1
   have h4:(qm70 p).wProps=[]:=by rw[<-h];exact h2
   conv=>lhs;rw[h]
   generalize qm70 p=q at h3 h4;obtain⟨⟩:=q;simp only at h3 h4;subst h3 h4
   rfl
 ·rw[qcax p hk];simp
def qqa5(v:Int)(p:Pk):Bool:=
 if p.kind=2 then(if v=4 then qfn3 p.code else mayR 2 p.code)&&(!p.session || p.code==0)
 else !(v==4&&(p.client.isEmpty&&!p.clean || p.hasPass&&!p.hasUser))&&decide (0<=p.keep/\p.keep<=65535)&&decide (0<=p.wQos/\p.wQos<=2)
theorem qmc6(v:Int)(p:Pk):okC v p=(versC v&&(p.kind==1 || p.kind==2)&&(decide (p=qm70 p)&&!(v==4&&!(p.props.isEmpty&&p.wProps.isEmpty)))&&qqa5 v p):=by unfold okC qqa5;simp only[Bool.and_assoc]
theorem qien{w:World}{v:Int}{p:Pk}{a:Ad}(h:PkAt w p a):PkAt w (q8po v p) (qyxc v p a):=by
 unfold q8po qyxc;split
 ·refine⟨fun e=>absurd rfl e,fun e=>absurd rfl e,fun e=>absurd rfl e,?_⟩;show PL w (if v=5 then a.ps else none) (if v=5 then p.props else []);split
  ·exact h.ps
  ·exact fun e=>absurd rfl e
 ·refine⟨?_,fun e=>absurd rfl e,fun e=>absurd rfl e,?_⟩
  ·show PL w (if p.hasWill then(if v=5 then a.w else none) else none) (if p.hasWill then(if v=5 then p.wProps else []) else []);split
   ·split
    ·exact h.w
    ·exact fun e=>absurd rfl e
   ·exact fun e=>absurd rfl e
  ·show PL w (if v=5 then a.ps else none) (if v=5 then p.props else []);split
   ·exact h.ps
   ·exact fun e=>absurd rfl e
theorem qyzo{v:Int}{p:Pk}(h:q21o p):q21o (q8po v p):=by
 obtain⟨_,_,h3,h4⟩:=h;unfold q8po;split
 ·refine⟨Nat.zero_le _,Nat.zero_le _,?_,Nat.zero_le _⟩;show(if v=5 then p.props else []).length<=70000;split
  ·exact h3
  ·exact Nat.zero_le _
 ·refine⟨Nat.zero_le _,Nat.zero_le _,?_,?_⟩
  ·show(if v=5 then p.props else []).length<=70000;split
   ·exact h3
   ·exact Nat.zero_le _
  ·show(if p.hasWill then(if v=5 then p.wProps else []) else []).length<=70000;split
   ·split
    ·exact h4
    ·exact Nat.zero_le _
   ·exact Nat.zero_le _
theorem qdnc(v:Int)(p:Pk)(a:Ad)(w:World)(hp:PkAt w p a)(sp:q21o p) :
 Calls prog 123 #[.int .i64 v,pkV p a] w fun e w'=>e=.returned (.bool (okC v p))/\Below w.heap.size w w':=by
 have S0:=BxS.made w p a;have KN:∀W,BxS w p a W->Calls prog 90 #[.int .i64 v,.int .i64 p.kind] W fun e w'=>e=.returned (.bool (versC v&&(p.kind==1 || p.kind==2)))/\BxS w p a w':=fun W h=>(q564 v p.kind W).mono fun e w' ⟨he,hw⟩=>⟨he,hw▸h⟩
 have US:∀W,BxS w p a W->Calls prog 161 #[.int .i64 v,.agg (pkC p a)] W fun e w'=>e=.returned (.agg (pkC (q8po v p) (qyxc v p a)))/\BxS w p a w':=fun W h=>(qhin v p a W).mono fun e w' ⟨he,hb⟩=>⟨he,h.call hb⟩
 have SM:∀W,BxS w p a W->Calls prog 137 #[.agg (pkC p a),.agg (pkC (q8po v p) (qyxc v p a))] W fun e w'=>e=.returned (.bool (decide (p=q8po v p)))/\BxS w p a w':=fun W h=>(qyk8 p (q8po v p) a (qyxc v p a) W (hp.below h.low) (qien (hp.below h.low)) sp (qyzo sp)).mono fun e w' ⟨he,hb⟩=>⟨he,h.call hb⟩
 have C1:=qwmp p a;have P0:∀W,BxS w p a W->W.cell? ⟨w.heap.size,0,none⟩=some (.int .i64 p.kind):=fun W h=>h.cell 0;have P1:∀W,BxS w p a W->W.heap[w.heap.size]?=some (.cells (pkC p a) 40 (0,0)):=fun W h=>h.box;have HS0:=hid S0.draw;have hC1:=hid C1;have hP0:=hid P0;have hP1:=hid P1;rw[qmc6];by_cases hkn:(versC v&&(p.kind==1 || p.kind==2))=true
 ·have hv:v=4\/v=5:=by simp only[versC,Bool.and_eq_true,Bool.or_eq_true,beq_iff_eq] at hkn;exact hkn.1
  have hk:p.kind=1\/p.kind=2:=by simp only[Bool.and_eq_true,Bool.or_eq_true,beq_iff_eq] at hkn;exact hkn.2
  rw[hkn] at KN ⊢;rw[<-q5bu v p hv hk,Bool.true_and];have hKN:=hid KN;have hUS:=hid US;by_cases he:p=q8po v p
  ·rw[decide_eq_true he] at SM ⊢;have hSM:=hid SM;rw[Bool.true_and];obtain⟨r,hr⟩:∃r,qqa5 v p=r:=⟨_,rfl⟩
   rw[hr];have HR:=hid hr;have HV:=hid hv;have HK:=hid hk;have HE:=hid he;unfold pkV;clear S0 KN US SM C1 P0 P1 hkn hv hk he hr;go_in
   go_upto_region 1 with fail
   refine qyqy (S:=BxS w p a) (B:=w.heap.size) HS0.out hC1.out hP0.out hP1.out hKN.out hUS.out hSM.out ?_;intro W hW;have HW:=hid hW;clear hW HS0;have k0:=HW.out.cell 0;change _=some (Value.int .i64 p.kind) at k0;by_cases h2:p.kind=2
   ·rw[h2] at k0;have hr:=HR.out;rw[qqa5,if_pos h2] at hr;have k17:W.cell? ⟨w.heap.size,21,none⟩=some (.int .i64 p.code):=HW.out.cell 21;have CC:=qtz4 v p.code;generalize (if v=4 then qfn3 p.code else mayR 2 p.code)=cf at hr CC;have CC:=hid CC;clear h2 HR HE HK;cases cf with
    |false=>have HR:=hid hr;clear hr;go_wp2_with fail;refine(CC.out _).mono ?_;rintro e W2 ⟨rfl,hb⟩;have B2:=hid (HW.out.call hb).low;clear hb;go_wp2;go_ret;exact⟨congrArg (fun b=>Ending.returned (Value.bool b)) HR.out,B2.out⟩
    |true=>
     by_cases hc:p.code=0
     ·have HR:=hid (show true=r by rw[<-hr,hc];simp);have HC:=hid hc;rw[hc] at k17 CC;clear hr hc;have CC:=hid CC.out;go_wp2_with fail;refine(CC.out _).mono ?_;rintro e W2 ⟨rfl,hb⟩;have B2:=hid (HW.out.call hb).low;have k17:W2.cell? ⟨w.heap.size,21,none⟩=some (.int .i64 p.code):=(HW.out.call hb).cell 21;rw[HC.out] at k17;clear hb;go_wp2;go_ret;exact⟨congrArg (fun b=>Ending.returned (Value.bool b)) HR.out,B2.out⟩
     ·have hc':(p.code==0)=false:=beq_eq_false_iff_ne.2 hc;have HR:=hid (show(!p.session)=r by rw[<-hr,hc'];simp);clear hr hc;go_wp2_with fail;refine(CC.out _).mono ?_;rintro e W2 ⟨rfl,hb⟩;have B2:=hid (HW.out.call hb).low;have k17:W2.cell? ⟨w.heap.size,21,none⟩=some (.int .i64 p.code):=(HW.out.call hb).cell 21;have k16:W2.cell? ⟨w.heap.size,20,none⟩=some (.bool p.session):=(HW.out.call hb).cell 20;clear hb;go_wp2;go_ret;exact⟨congrArg (fun b=>Ending.returned (Value.bool b)) HR.out,B2.out⟩
   ·have h2':(p.kind==2)=false:=beq_eq_false_iff_ne.2 h2;obtain⟨nm,hnm⟩:∃x,(v != 4 || (!p.client.isEmpty || p.clean))=x:=⟨_,rfl⟩
    have hr:=HR.out;have hf:(p.hasWill || (p.wQos==0&&!p.wRetain))=true:=by
     cases hw:p.hasWill with
     |true=>rfl
     |false=>
      have h:=HE.out;rw[q8po,if_neg h2] at h;have h1:p.wQos=0:=by rw[h];unfold us6 us5 us4;simp[hw]
      have h3:p.wRetain=false:=by rw[h];unfold us6 us5 us4;simp[hw]
      rw[h1,h3];rfl
    have hr2:r=(nm&&(decide (0<=p.keep)&&(decide (p.keep<=65535)&&fitC v p.hasWill p.hasPass p.hasUser p.wRetain p.wQos))):=by
     rw[<-hr,qqa5,if_neg h2,fitC,hf,<-hnm];have hq:decide (0<=p.wQos/\p.wQos<=2)=(decide (0<=p.wQos)&&decide (p.wQos<=2)):=by rw[Bool.decide_and]
     have hk:decide (0<=p.keep/\p.keep<=65535)=(decide (0<=p.keep)&&decide (p.keep<=65535)):=by rw[Bool.decide_and]
     rw[hq,hk,show(v != 4)=!(v==4) from rfl];generalize (v==4)=b1;generalize p.client.isEmpty=b2;generalize decide (0<=p.wQos)=b3;generalize decide (p.wQos<=2)=b4;generalize decide (0<=p.keep)=b5;generalize decide (p.keep<=65535)=b6;generalize p.clean=b7;generalize p.hasPass=b8;generalize p.hasUser=b9
     revert b1 b2 b3 b4 b5 b6 b7 b8 b9
     decide
    have FF:=hid (fun W=>qntu v (c:=pkC p a) W (show(pkC p a)[10]?=some (.bool p.hasUser) from rfl) (show(pkC p a)[12]?=some (.bool p.hasPass) from rfl) (show(pkC p a)[14]?=some (.bool p.hasWill) from rfl) (show(pkC p a)[17]?=some (.int .i64 p.wQos) from rfl) (show(pkC p a)[18]?=some (.bool p.wRetain) from rfl));generalize fitC v p.hasWill p.hasPass p.hasUser p.wRetain p.wQos=ft at hr2 FF;have HR2:=hid hr2;have k9:W.cell? ⟨w.heap.size,9,none⟩=some (.string (bs p.client)):=HW.out.cell 9;have k7:W.cell? ⟨w.heap.size,7,none⟩=some (.bool p.clean):=HW.out.cell 7;clear h2 hr hr2 hf HR HE HK
    go_upto_region 5 with fail
    go_cut [5] (fun s5 wx=>s5=.bool nm/\wx=W)
    case first=>
     by_cases h4:v=4
     ·subst h4;have hE:(bs p.client).toList.isEmpty=p.client.isEmpty:=by rw[q0c6]
      generalize bs p.client=C at k9 hE;cases hc:p.client.isEmpty with
      |true=>
       rw[hc] at hE;cases hcl:p.clean
       all_goals
        have HN:=hid hnm;rw[hc,hcl] at HN;rw[hcl] at k7;clear hnm hc hcl;go_wp2_with fail
        go_meet
        exact⟨congrArg Value.bool HN.out,rfl⟩
      |false=>
       rw[hc] at hE;have HN:=hid hnm;rw[hc] at HN;clear hnm hc;go_wp2_with fail
       go_meet
       exact⟨congrArg Value.bool HN.out,rfl⟩
     ·have h4':(v==4)=false:=beq_eq_false_iff_ne.2 h4;have HN:=hid (show true=nm by rw[<-hnm,show(v != 4)=!(v==4) from rfl,h4'];rfl);have h4n:(v != 4)=true:=by rw[show(v != 4)=!(v==4) from rfl,h4'];rfl
      clear h4 hnm h4';go_wp2_with fail
      go_meet
      exact⟨congrArg Value.bool HN.out,rfl⟩
    case rest=>
     obtain⟨rfl,rfl⟩:=hcut;clear k9 k7 hnm h2' k0;have k8:wc.cell? ⟨w.heap.size,8,none⟩=some (.int .i64 p.keep):=HW.out.cell 8;cases nm with
     |false=>have HR:=hid HR2.out.symm;clear HR2;have LO:=hid HW.out.low;go_wp2;go_ret;exact⟨congrArg (fun b=>Ending.returned (Value.bool b)) HR.out,LO.out⟩
     |true=>
      by_cases q0:p.keep<0
      ·have HR:=hid (show false=r by rw[HR2.out,decide_eq_false (show ¬0<=p.keep by omega)];rfl);have LO:=hid HW.out.low;clear HR2;go_wp2;go_ret;exact⟨congrArg (fun b=>Ending.returned (Value.bool b)) HR.out,LO.out⟩
      by_cases q1:65535<p.keep
      ·have HR:=hid (show false=r by rw[HR2.out,decide_eq_true (show 0<=p.keep by omega),decide_eq_false (show ¬p.keep<=65535 by omega)];rfl);have LO:=hid HW.out.low;clear HR2;go_wp2;go_ret;exact⟨congrArg (fun b=>Ending.returned (Value.bool b)) HR.out,LO.out⟩
      have HR:=hid (show ft=r by rw[HR2.out,decide_eq_true (show 0<=p.keep by omega),decide_eq_true (show p.keep<=65535 by omega)];rfl);clear HR2;have GB:=hid HW.out.box;go_wp2_with (refine q2a5 rfl _ _ rfl w.heap.size rfl 40 _ (0,0) _ GB.out underlying40 rfl (by rw[hC1.out];exact q5nr) ?_);refine(FF.out _).mono ?_;rintro e W2 ⟨rfl,hb⟩;have LO:=hid (qxh2 HW.out.low hb);clear hb;go_wp2;go_ret;exact⟨congrArg (fun b=>Ending.returned (Value.bool b)) HR.out,LO.out⟩
  ·rw[decide_eq_false he] at SM ⊢;have hSM:=hid SM;unfold pkV;clear S0 KN US SM C1 P0 P1 hkn hv hk he;go_in
   go_upto_region 1 with fail
   refine qyqy (S:=BxS w p a) (B:=w.heap.size) HS0.out hC1.out hP0.out hP1.out hKN.out hUS.out hSM.out ?_;intro W hW;have HW:=hid hW.low;clear hW HS0;go_wp2;go_ret;exact⟨rfl,HW.out⟩
 ·have hkn:(versC v&&(p.kind==1 || p.kind==2))=false:=by simpa using hkn
  rw[hkn] at KN ⊢;have hKN:=hid KN;unfold pkV;clear S0 KN US SM C1 P0 P1 hkn;go_in
  go_upto_region 1 with fail
  refine q070 (S:=BxS w p a) (B:=w.heap.size) HS0.out hP0.out hKN.out ?_;intro W hW;have HW:=hid hW.low;clear hW HS0;go_wp2;go_ret;exact⟨rfl,HW.out⟩
def qfkc(t:Bool)(p:Pk):Pk:={Pk.zero with kind:=p.kind,code:=if t then p.code else 0,props:=if t then p.props else []}
def q43o(t:Bool)(a:Ad):Ad:={adZ with ps:=if t then a.ps else none,pc:=if t then a.pc else 0}
theorem qt8s(v:Int)(p:Pk):q4r1 v p=qfkc (!q6gd v p.kind) p:=by unfold q4r1 qfkc;cases q6gd v p.kind<;>rfl
theorem q2c6{w:World}{p:Pk}{a:Ad}(t:Bool)(h:PkAt w p a):PkAt w (qfkc t p) (q43o t a):=by
 refine⟨fun e=>absurd rfl e,fun e=>absurd rfl e,fun e=>absurd rfl e,?_⟩;unfold qfkc q43o;cases t with
 |true=>exact h.ps
 |false=>exact fun e=>absurd rfl e
theorem qynt{p:Pk}(t:Bool)(h:q21o p):q21o (qfkc t p):=by
 refine⟨Nat.zero_le _,Nat.zero_le _,?_,Nat.zero_le _⟩;cases t with
 |true=>exact h.2.2.1
 |false=>exact Nat.zero_le _
section
variable{w W W':World}{p x:Pk}{a b:Ad}
theorem SmS.cell(h:SmS w p a x b W)(j:Nat):W.cell? ⟨w.heap.size,j,none⟩=(pkC p a)[j]? := cell_of_row _ _ j _ _ _ h.p
theorem SmS.ncell(h:SmS w p a x b W)(j:Nat):W.cell? ⟨w.heap.size+1,j,none⟩=(pkC x b)[j]? := cell_of_row _ _ j _ _ _ h.q
theorem SmS.fr(h:SmS w p a x b W)(j:Nat):W.frozen? ⟨w.heap.size+1,j,none⟩=false:=frozen_of_row _ _ _ _ _ h.q
theorem SmS.put(h:SmS w p a x b W)(j:Nat)(u:Value){x':Pk}{b':Ad}(he:(pkC x b).setIfInBounds j u=pkC x' b'):SmS w p a x' b' (W.setCell ⟨w.heap.size+1,j,none⟩ u):=
 ⟨h.low.setCell (by show _<=w.heap.size+1;omega) u,(heap_setCell_other W ⟨w.heap.size+1,j,none⟩ _ u (by show w.heap.size≠w.heap.size+1;omega)).trans h.p,
  by have:=qlvy h.q j u;rw[he] at this;exact this⟩
theorem SmS.drew(h:SmS w p a x b W):SmS w p a x b W.drew:=⟨h.low.drew,h.p,h.q⟩
end
def qdz0(p:Pk):Pk:={Pk.zero with kind:=p.kind}
theorem qqfg(t:Bool)(p:Pk)(a:Ad)(w:World)(hp:PkAt w p a)(sp:q21o p) :
 Calls prog 159 #[.bool t,.agg (pkC p a)] w fun e w'=>e=.returned (.bool (decide (p=qfkc t p)&&(!t || mayR p.kind p.code)))/\Below w.heap.size w w':=by
 have Z0:(w.alloc (.cells (pkC p a) 40)).heap.size=w.heap.size+1:=by simp
 have GN:((w.alloc (.cells (pkC p a) 40)).alloc (.cells pkZ 40)).heap[w.heap.size+1]?=some (.cells pkZ 40 (0,0)):=by
  have:=heap_alloc_new (w.alloc (.cells (pkC p a) 40)) (.cells pkZ 40)
  rw[Z0] at this;exact this
 have S0:SmS w p a (qdz0 p) adZ (((w.alloc (.cells (pkC p a) 40)).alloc (.cells pkZ 40)).setRow (w.heap.size+1) (pkC (qdz0 p) adZ)):=
  ⟨q8xz (qxh2 (qybm _) (qybm _)) (by omega) _,(setRow_other _ _ _ _ (by omega)).trans (heap_alloc2_old _ _ _),setRow_heap _ _ _ _ _ _ GN⟩
 have SM:=hid (fun V (h:SmS w p a (qfkc t p) (q43o t a) V)=>(qyk8 p (qfkc t p) a (q43o t a) V (hp.below h.low) (q2c6 t (hp.below h.low)) sp (qynt t sp)).mono fun e W' hh=>(⟨hh.1,h.call hh.2⟩:_/\SmS w p a (qfkc t p) (q43o t a) W'));have MA:=hid (fun V (h:SmS w p a (qfkc t p) (q43o t a) V)=>(qeiz p.kind p.code V).mono fun e W' hh=>(⟨hh.1,h.call hh.2⟩:_/\SmS w p a (qfkc t p) (q43o t a) W'));have hzv:=qrai;have hne:¬pkZ=#[]:=by intro h;have:=qbwp;rw[h] at this;cases this
 have HZ:=hid qbwp;have GN:=hid GN;have hD1:=qwmp (qdz0 p) adZ;have hD2:=qmz0 (qdz0 p) adZ;obtain⟨D,hD⟩:∃D,pkC (qdz0 p) adZ=D:=⟨_,rfl⟩
 rw[hD] at hD1 hD2 S0;have HD:=hid hD;have HD1:=hid hD1;have HD2:=hid hD2;have HS0:=hid S0;have C1:=hid (qwmp p a);have C2:=hid (qwmp (qfkc t p) (q43o t a));have k0:(w.alloc (.cells (pkC p a) 40)).cell? ⟨w.heap.size,0,none⟩=some (.int .i64 p.kind):=cell_of_row _ _ 0 _ _ _ (heap_alloc_new _ _);clear S0 hD hD1 hD2 Z0 hp sp;generalize decide (p=qfkc t p)=s at *;generalize mayR p.kind p.code=m at *;obtain⟨r,hr⟩:∃r,(s&&(!t || m))=r:=⟨_,rfl⟩
 rw[hr];have HR:=hid hr;clear hr;go_in
 go_upto_if 9 with (first
  |(refine wpList_buildTo rfl 40 _ rfl (some _) rfl D (by rw[<-HD.out];kernel_rfl) ?_)
  |(refine wpList_store_row rfl _ _ _ rfl (w.heap.size+1) D rfl rfl 40 _ GN.out (by rw[HD1.out];exact q5nr) (by rw[HZ.out,HD1.out]) HD2.out ?_))
 clear k0 GN HZ hne hzv;go_cut [] (fun wx=>SmS w p a (qfkc t p) (q43o t a) wx)
 case first=>
  generalize ((w.alloc (.cells (pkC p a) 40)).alloc (.cells pkZ 40)).setRow (w.heap.size+1) D=W at *;cases t with
  |true=>
   have S1:=hid ((HS0.out.put 21 (.int .i64 p.code) (x':={qdz0 p with code:=p.code}) (b':=adZ) rfl).put 24 (.slice a.ps p.props.length a.pc) (x':=qfkc true p) (b':=q43o true a) rfl);have k21:W.cell? ⟨w.heap.size,21,none⟩=some (.int .i64 p.code):=HS0.out.cell 21;have k24:W.cell? ⟨w.heap.size,24,none⟩=some (.slice a.ps p.props.length a.pc):=HS0.out.cell 24;have n21:W.cell? ⟨w.heap.size+1,21,none⟩=some (.int .i64 0):=HS0.out.ncell 21;have n24:W.cell? ⟨w.heap.size+1,24,none⟩=some (.slice none 0 0):=HS0.out.ncell 24;have f21:=HS0.out.fr 21;have f24:=HS0.out.fr 24;clear HS0
   go_upto_region 3 with fail
   go_region
   go_wp2_with fail
   go_meet
   exact S1.out.drew
  |false=>
   go_wp2_with fail
   go_meet
   exact HS0.out
 case rest=>
  have HS:=hid hcut;clear hcut HS0
  go_upto_region 4 with fail
  clear HD HD1 HD2;obtain⟨C,hC⟩:∃C,pkC p a=C:=⟨_,rfl⟩
  obtain⟨E,hE⟩:∃E,pkC (qfkc t p) (q43o t a)=E:=⟨_,rfl⟩
  have BC:=hid (fun V (h:SmS w p a (qfkc t p) (q43o t a) V)=>(by rw[<-hC];exact h.p:V.heap[w.heap.size]?=some (.cells C 40 (0,0))));have BE:=hid (fun V (h:SmS w p a (qfkc t p) (q43o t a) V)=>(by rw[<-hE];exact h.q:V.heap[w.heap.size+1]?=some (.cells E 40 (0,0))));have LOW:=hid (fun V (h:SmS w p a (qfkc t p) (q43o t a) V)=>h.low);have c0:∀V,SmS w p a (qfkc t p) (q43o t a) V->V.cell? ⟨w.heap.size,0,none⟩=some (.int .i64 p.kind):=fun V h=>h.cell 0;have c21:∀V,SmS w p a (qfkc t p) (q43o t a) V->V.cell? ⟨w.heap.size,21,none⟩=some (.int .i64 p.code):=fun V h=>h.cell 21;have K0:=hid c0;have K21:=hid c21;clear c0 c21;unfold pkV at SM;rw[hC] at C1 SM;rw[hE] at C2 SM;rw[hC];clear hC hE;generalize p.kind=k at *;generalize p.code=c at *;cases s with
  |false=>
   clear MA;go_wp2_with (first
    |(refine wpList_load_row rfl _ _ rfl w.heap.size rfl 40 _ (0,0) _ (BC.out _ HS.out) underlying40 rfl (by rw[C1.out];exact q5nr) ?_)
    |(refine wpList_load_row rfl _ _ rfl (w.heap.size+1) rfl 40 _ (0,0) _ (BE.out _ HS.out) underlying40 rfl (by rw[C2.out];exact q5nr) ?_))
   refine(SM.out _ HS.out).mono ?_;rintro e W ⟨rfl,hb⟩;have LO:=hid (LOW.out _ hb);clear hb;go_wp2;go_ret;exact⟨by rw[<-HR.out];rfl,LO.out⟩
  |true=>
   cases t with
   |false=>
    clear MA;go_wp2_with (first
     |(refine wpList_load_row rfl _ _ rfl w.heap.size rfl 40 _ (0,0) _ (BC.out _ HS.out) underlying40 rfl (by rw[C1.out];exact q5nr) ?_)
     |(refine wpList_load_row rfl _ _ rfl (w.heap.size+1) rfl 40 _ (0,0) _ (BE.out _ HS.out) underlying40 rfl (by rw[C2.out];exact q5nr) ?_))
    refine(SM.out _ HS.out).mono ?_;rintro e W ⟨rfl,hb⟩;have LO:=hid (LOW.out _ hb);clear hb;go_wp2;go_ret;exact⟨by rw[<-HR.out];rfl,LO.out⟩
   |true=>
    go_wp2_with (first
     |(refine wpList_load_row rfl _ _ rfl w.heap.size rfl 40 _ (0,0) _ (BC.out _ HS.out) underlying40 rfl (by rw[C1.out];exact q5nr) ?_)
     |(refine wpList_load_row rfl _ _ rfl (w.heap.size+1) rfl 40 _ (0,0) _ (BE.out _ HS.out) underlying40 rfl (by rw[C2.out];exact q5nr) ?_))
    refine(SM.out _ HS.out).mono ?_;rintro e W ⟨rfl,hb⟩;have HS2:=hid hb;have k0:W.cell? ⟨w.heap.size,0,none⟩=some (.int .i64 k):=K0.out _ hb;have k21:W.cell? ⟨w.heap.size,21,none⟩=some (.int .i64 c):=K21.out _ hb;clear hb HS;go_wp2_with fail;refine(MA.out _ HS2.out).mono ?_;rintro e W2 ⟨rfl,hb⟩;have LO:=hid (LOW.out _ hb);clear hb;go_wp2;go_ret;exact⟨by rw[<-HR.out];rfl,LO.out⟩
theorem qeqd{Q:Exit->Act->World->Prop}{S:World->Prop}{W:World}{b B cb:Nat}{f:Int}{C:Array Value}{x0 x1 x2 x3 x5 x8 x9 x10 x11 x12 x13 x14 x15 x16 x17 x18 x19 x20 x21 x22 x23 x24 x25 x26 x27 x28 x29 x30 x31 x32 x33 x34 x35 x36 x37 x38 x39 x40 x41 x42 x43 x44 x45 x46 x47 x48 x49 x50 x51 x52:Value}
 (hS:S W.drew) (hC:C.size=25) (h1:C.all (·.oneCell')=true) (hb:B≠b) (KB:∀w,S w->w.heap[B]?=some (.cells C 40 (0,0))) (KR:∀w,S w->∃old,w.heap[b]?=some (.cells old 40 (0,0))/\old.size=25)
 (H0:∀w,S w->Calls prog 36 #[(.pointer (some ⟨cb,0,none⟩))] w fun e w'=>e=.returned (.int .i64 f)/\w=w')
 (H1:∀w,S w->Calls prog 36 #[(.pointer (some ⟨cb,0,none⟩))] (w.setRow b C) fun e w'=>e=.returned (.int .i64 f)/\w.setRow b C=w')
 (fin:∀w,S w->Q .normal ⟨#[x0,x1,x2,x3,(.pointer (some ⟨b,0,none⟩)),(.int .i64 f),(.pointer (some ⟨cb,0,none⟩)),(.pointer (some ⟨B,0,none⟩)),x8,x9,x10,x11,x12,x13,x14,x15,x16,x17,x18,x19,x20,x21,x22,x23,x24,x25,x26,x27,x28,x29,x30,x31,x32,x33,x34,x35,x36,x37,x38,x39,x40,x41,x42,x43,x44,x45,x46,x47,x48,x49,(.agg C),(.pointer (some ⟨cb,0,none⟩)),(.int .i64 f)],[]⟩ (w.setRow b C)) :
 (Code.region 11 (qfhu.opsAt 11 Tryz.f122.body) true).wp prog Q ⟨#[x0,x1,x2,x3,(.pointer (some ⟨b,0,none⟩)),x5,(.pointer (some ⟨cb,0,none⟩)),(.pointer (some ⟨B,0,none⟩)),x8,x9,x10,x11,x12,x13,x14,x15,x16,x17,x18,x19,x20,x21,x22,x23,x24,x25,x26,x27,x28,x29,x30,x31,x32,x33,x34,x35,x36,x37,x38,x39,x40,x41,x42,x43,x44,x45,x46,x47,x48,x49,x50,x51,x52],[]⟩ W:=by
 refine q2y4.wp (x:=false) (S:=fun x W=>∃V,S V/\W=if x=true then V.setRow b C else V) (made:=fun i x=>i=3->x=true) (war:=[]) (ds:=[50,51,52,5]) (A:=[x0,x1,x2,x3,(.pointer (some ⟨b,0,none⟩)),x5,(.pointer (some ⟨cb,0,none⟩)),(.pointer (some ⟨B,0,none⟩)),x8,x9,x10,x11,x12,x13,x14,x15,x16,x17,x18,x19,x20,x21,x22,x23,x24,x25,x26,x27,x28,x29,x30,x31,x32,x33,x34,x35,x36,x37,x38,x39,x40,x41,x42,x43,x44,x45,x46,x47,x48,x49,x50,x51,x52]) (B:=fun x=>[x0,x1,x2,x3,(.pointer (some ⟨b,0,none⟩)),(.int .i64 f),(.pointer (some ⟨cb,0,none⟩)),(.pointer (some ⟨B,0,none⟩)),x8,x9,x10,x11,x12,x13,x14,x15,x16,x17,x18,x19,x20,x21,x22,x23,x24,x25,x26,x27,x28,x29,x30,x31,x32,x33,x34,x35,x36,x37,x38,x39,x40,x41,x42,x43,x44,x45,x46,x47,x48,x49,(.agg C),(.pointer (some ⟨cb,0,none⟩)),(.int .i64 f)]) (D:=[]) (by kernel_rfl) (by kernel_rfl) (by kernel_rfl) ?_ ⟨_,hS,rfl⟩ ?_ ?fin
 case refine_1=>exact fun x=>(by repeat (first|exact trivial|refine⟨.inr rfl,?_⟩|refine⟨.inl rfl,?_⟩))
 refine q2y4.All.step rfl (q2y4.Does.pure (val:=fun x=>(.agg C)) rfl (fun x h=>absurd h (by decide)) (fun x w hm hS=>⟨rfl,rfl,qjuh rfl hC (by
  obtain⟨V,hV,hw⟩:=hS;subst hw;cases x
  ·exact KB V hV
  ·exact(setRow_other V b B C hb).trans (KB V hV))⟩)) ?_
 refine q2y4.All.step rfl (q2y4.Does.pure (val:=fun x=>(.pointer (some ⟨cb,0,none⟩))) rfl (fun x h=>absurd h (by decide)) (fun x w hm hS=>⟨rfl,rfl,rfl⟩)) ?_;refine q2y4.All.step rfl (q2y4.Does.call (val:=fun x=>(.int .i64 f)) rfl (fun x h=>absurd h (by decide)) (fun x w hm hS=>⟨rfl,rfl,qpjl.enter1 func36 rfl rfl,by
  obtain⟨V,hV,hw⟩:=hS;subst hw;cases x
  ·exact(H0 V hV).mono fun e w' ⟨he,hk⟩=>⟨he,V,hV,hk.symm⟩
  ·exact(H1 V hV).mono fun e w' ⟨he,hk⟩=>⟨he,V,hV,hk.symm⟩⟩)) ?_
 refine q2y4.All.step rfl (fun x w hm hS=>by
  obtain⟨V,hV,hw⟩:=hS;obtain⟨old,ho,hs⟩:=KR V hV;refine .inl ⟨rfl,.skip true (V.setRow b C) ?_ ⟨fun d hd=>(by cases hd),⟨V,hV,rfl⟩,fun _=>rfl,fun i h e=>rfl,[],rfl,q2y4.off_refl 0 _⟩⟩;subst hw;cases x
  ·exact qn4o rfl rfl hC h1 ho hs
  ·exact(qn4o rfl rfl hC h1 (setRow_heap V b old C _ _ ho) hC).trans (by rw[setRow_setRow])) ?_
 refine q2y4.All.step rfl (q2y4.Does.pure (val:=fun x=>(.int .i64 f)) rfl (fun x h=>absurd h (by decide)) (fun x w hm hS=>⟨rfl,rfl,rfl⟩)) ?_;exact q2y4.All.fin rfl
 case fin=>intro x w hm hS;obtain⟨V,hV,hw⟩:=hS;obtain rfl:=hm 3 (by decide+kernel) rfl;subst hw;exact fin V hV
def fiC(f:Fi):Array Value:=#[.string (bs f.topic),.int .i64 f.qos,.bool f.noLocal,.bool f.asPub,.int .i64 f.handling]
theorem qxzo(f:Fi):(fiC f).size=5:=rfl
theorem qx37(f:Fi):(fiC f).all (·.oneCell')=true:=by simp[fiC,Value.oneCell']
theorem qhg6:(prog.info? 66).map (·.size)=some 5:=by kernel_rfl
theorem q4j3:(prog.info? 66).map (fun i=>(i.zero,i.size,i.bytes))=some (some (.agg #[.string .empty,.int .i64 0,.bool false,.bool false,.int .i64 0]),5,40):=by kernel_rfl
structure BxF(w:World)(f:Fi)(W:World):Prop where
 low:Below w.heap.size w W
 box:W.heap[w.heap.size]?=some (.cells (fiC f) 66 (0,0))
theorem BxF.made(w:World)(f:Fi):BxF w f (w.alloc (.cells (fiC f) 66)):=⟨qybm _,heap_alloc_new _ _⟩
theorem BxF.call{w W W':World}{f:Fi}(h:BxF w f W)(hb:Below W.heap.size W W'):BxF w f W':=⟨qxh2 h.low hb,(hb.block _ (lt_of_block h.box)).trans h.box⟩
theorem BxF.draw{w W:World}{f:Fi}(h:BxF w f W):BxF w f W.drew:=⟨h.low.drew,h.box⟩
theorem BxF.cell{w W:World}{f:Fi}(h:BxF w f W)(j:Nat):W.cell? ⟨w.heap.size,j,none⟩=(fiC f)[j]? := cell_of_row _ _ j _ _ _ h.box
section
variable{a:Act}{w:World}{d:Option Tmp}{p:String}{af:Array Edge}{gd:Option (Nat×Bool)}{x y z:Tmp}{r:TypeId}
theorem q0b3{g:Nat}(hx:a.eval (.tmp x)=.pointer (some ⟨g,0,none⟩)) :
 (execOp a.eval {dst:=d,op := .fieldAddr 66 (.tmp x) 1,type:=r,pos:=p,after:=af,guard:=gd}).run prog w=.ok (.value (.pointer (some ⟨g,1,none⟩))) w:=by
 generalize a.eval=f at *;go_simp
theorem qqv5{g:Nat}(hx:a.eval (.tmp x)=.pointer (some ⟨g,0,none⟩)) :
 (execOp a.eval {dst:=d,op := .fieldAddr 66 (.tmp x) 2,type:=r,pos:=p,after:=af,guard:=gd}).run prog w=.ok (.value (.pointer (some ⟨g,2,none⟩))) w:=by
 generalize a.eval=f at *;go_simp
theorem qw8p{g:Nat}(hx:a.eval (.tmp x)=.pointer (some ⟨g,0,none⟩)) :
 (execOp a.eval {dst:=d,op := .fieldAddr 66 (.tmp x) 3,type:=r,pos:=p,after:=af,guard:=gd}).run prog w=.ok (.value (.pointer (some ⟨g,3,none⟩))) w:=by
 generalize a.eval=f at *;go_simp
theorem q7bm{g:Nat}(hx:a.eval (.tmp x)=.pointer (some ⟨g,0,none⟩)) :
 (execOp a.eval {dst:=d,op := .fieldAddr 66 (.tmp x) 4,type:=r,pos:=p,after:=af,guard:=gd}).run prog w=.ok (.value (.pointer (some ⟨g,4,none⟩))) w:=by
 generalize a.eval=f at *;go_simp
theorem qnwy{g j:Nat}{n:Int}(hx:a.eval (.tmp x)=.pointer (some ⟨g,j,none⟩))(hc:w.cell? ⟨g,j,none⟩=some (.int .i64 n)) :
 (execOp a.eval {dst:=d,op := .load 3 (.tmp x),type:=3,pos:=p,after:=af,guard:=gd}).run prog w=.ok (.value (.int .i64 n)) w:=by
 generalize a.eval=f at *;go_simp
theorem q7eg{g j:Nat}{n:Bool}(hx:a.eval (.tmp x)=.pointer (some ⟨g,j,none⟩))(hc:w.cell? ⟨g,j,none⟩=some (.bool n)) :
 (execOp a.eval {dst:=d,op := .load 4 (.tmp x),type:=4,pos:=p,after:=af,guard:=gd}).run prog w=.ok (.value (.bool n)) w:=by
 generalize a.eval=f at *;go_simp
theorem qv14{n c m:Int}(hx:a.eval (.tmp x)=.int .i64 n)(hm:IntKind.i64.wrap (n*c)=m) :
 (execOp a.eval {dst:=d,op := .binOp .mul 3 (.tmp x) (.const (.int .i64 c)) 3,type:=r,pos:=p,after:=af,guard:=gd}).run prog w=.ok (.value (.int .i64 m)) w:=by
 subst hm;have hc:a.eval (.const (.int .i64 c))=.int .i64 c:=rfl;generalize a.eval=f at *;go_simp
theorem qzzw{n c m:Int}(hx:a.eval (.tmp x)=.int .i64 n)(hm:bits .and .i64 n c=m) :
 (execOp a.eval {dst:=d,op := .binOp .and 3 (.tmp x) (.const (.int .i64 c)) 3,type:=r,pos:=p,after:=af,guard:=gd}).run prog w=.ok (.value (.int .i64 m)) w:=by
 subst hm;have hc:a.eval (.const (.int .i64 c))=.int .i64 c:=rfl;generalize a.eval=f at *;go_simp
theorem q0il{n c m:Int}(hx:a.eval (.tmp x)=.int .i64 n)(hy:a.eval (.tmp y)=.int .i64 c)(hm:bits .or .i64 n c=m) :
 (execOp a.eval {dst:=d,op := .binOp .or 3 (.tmp x) (.tmp y) 3,type:=r,pos:=p,after:=af,guard:=gd}).run prog w=.ok (.value (.int .i64 m)) w:=by
 subst hm;generalize a.eval=f at *;go_simp
end
end Go.Proofs.YtlhkgidoaggodaaGreatDoor
