/- The contract of connect.fits: do a packet's fields go with its version, its kind and one another? Condition: at most 70,000 elements a list. -/
import Derived.Test.YtefmhbioggcfaaaGreatDoorK25
import Derived.Test.YtefmhbioggcfaaaGreatDoorK32
set_option maxRecDepth 100000
set_option maxHeartbeats 8000000
namespace Go.Proofs.YtefmhbioggcfaaaGreatDoor
open Lib(hid)
open Proofs.Tryz
open Go.RowKit
section
variable{a:Act}{w:World}{d:Option Tmp}{p:String}{af:Array Edge}{gd:Option (Nat×Bool)}{x y z:Tmp}{r:TypeId}
theorem q390{g:Nat}{C:Array Value}(hx:a.eval (.tmp x)=.pointer (some ⟨g,0,none⟩))(hs:C.size=25)(hg:w.heap[g]?=some (.cells C 38 (0,0))) :
 (execOp a.eval {dst:=d,op := .load 38 (.tmp x),type:=38,pos:=p,after:=af,guard:=gd}).run prog w=.ok (.value (.agg C)) w:=by
 unfold execOp;simp only[hx,Instr.loadAt,Instr.sureAddr,Sem.run_bind,Sem.run_pure,Result.andThen_ok,run_loadVar_row w g 38 38 C (0,0) _ hg underlying38 rfl (by rw[hs];exact q5nr)]
theorem q809{g:Nat}(hx:a.eval (.tmp x)=.pointer (some ⟨g,0,none⟩)) :
 (execOp a.eval {dst:=d,op := .fieldAddr 38 (.tmp x) 0,type:=r,pos:=p,after:=af,guard:=gd}).run prog w=.ok (.value (.pointer (some ⟨g,0,none⟩))) w:=by
 generalize a.eval=f at *;go_simp
theorem qta9{g:Nat}{k:Int}(hx:a.eval (.tmp x)=.pointer (some ⟨g,0,none⟩))(hc:w.cell? ⟨g,0,none⟩=some (.int .i64 k)) :
 (execOp a.eval {dst:=d,op := .load 3 (.tmp x),type:=3,pos:=p,after:=af,guard:=gd}).run prog w=.ok (.value (.int .i64 k)) w:=by
 generalize a.eval=f at *;go_simp
theorem qdfg{b c:Bool}(hx:a.eval (.tmp x)=.bool b)(hc:(!b)=c) :
 (execOp a.eval {dst:=d,op := .unOp .not 4 (.tmp x),type:=r,pos:=p,after:=af,guard:=gd}).run prog w=.ok (.value (.bool c)) w:=by
 subst hc;generalize a.eval=f at *;go_simp
end
theorem qyqy{Q:Exit->Act->World->Prop}{S:World->Prop}{W:World}{v k:Int}{C U:Array Value}{m:Bool}{B:Nat}{x5 x6 x7 x8 x9 x10 x11 x12 x13 x14 x15 x16 x17 x18 x19 x20 x21 x22 x23 x24 x25 x26 x27 x28 x29 x30 x31 x32 x33 x34 x35 x36 x37 x38 x39 x40 x41 x42 x43 x44 x45 x46 x47 x48 x49 x50 x51 x52 x53 x54 x55 x56 x57 x58 x59 x60 x61 x62:Value}
 (hS:S W.drew) (hC:C.size=25) (hS0:∀w,S w->w.cell? ⟨B,0,none⟩=some (.int .i64 k)) (hS1:∀w,S w->w.heap[B]?=some (.cells C 38 (0,0)))
 (KN:∀w,S w->Calls prog 114 #[.int .i64 v,.int .i64 k] w fun e w'=>e=.returned (.bool true)/\S w')
 (US:∀w,S w->Calls prog 185 #[.int .i64 v,.agg C] w fun e w'=>e=.returned (.agg U)/\S w')
 (SM:∀w,S w->Calls prog 162 #[.agg C,.agg U] w fun e w'=>e=.returned (.bool m)/\S w')
 (fin:∀w,S w->Q .normal ⟨#[(.int .i64 v),(.agg C),undef,(.pointer (some ⟨B,0,none⟩)),(.bool false),x5,(.int .i64 v),(.pointer (some ⟨B,0,none⟩)),(.int .i64 k),(.bool true),(.bool false),(.bool false),(.agg C),(.int .i64 v),(.agg C),(.agg U),(.bool m),(.bool (!m)),(.bool (!m)),x19,x20,x21,x22,x23,x24,x25,x26,x27,x28,x29,x30,x31,x32,x33,x34,x35,x36,x37,x38,x39,x40,x41,x42,x43,x44,x45,x46,x47,x48,x49,x50,x51,x52,x53,x54,x55,x56,x57,x58,x59,x60,x61,x62],[]⟩ w) :
 (Code.region 1 (qfhu.opsAt 1 Tryz.f148.body) true).wp prog Q ⟨#[(.int .i64 v),(.agg C),undef,(.pointer (some ⟨B,0,none⟩)),(.bool false),x5,x6,x7,x8,x9,x10,x11,x12,x13,x14,x15,x16,x17,x18,x19,x20,x21,x22,x23,x24,x25,x26,x27,x28,x29,x30,x31,x32,x33,x34,x35,x36,x37,x38,x39,x40,x41,x42,x43,x44,x45,x46,x47,x48,x49,x50,x51,x52,x53,x54,x55,x56,x57,x58,x59,x60,x61,x62],[]⟩ W:=by
 refine qfhu.wp_in (ds:=[6,7,8,9,10,11,12,13,14,15,16,17,18]) (D:=[]) (by kernel_rfl) (by kernel_rfl) (by kernel_rfl) ?_ hS ?_ fin
 ·exact(by repeat (first|exact trivial|refine⟨.inr rfl,?_⟩|refine⟨.inl rfl,?_⟩))
 refine qfhu.pu rfl rfl rfl rfl (fun w hS=>rfl) ?_;refine qfhu.pu rfl rfl rfl rfl (fun w hS=>q809 rfl) ?_;refine qfhu.pu rfl rfl rfl rfl (fun w hS=>qta9 rfl (hS0 w hS)) ?_;refine qfhu.ca rfl rfl rfl rfl (fun w=>qpjl.enter2 func114 rfl rfl rfl) KN ?_;refine qfhu.pu rfl rfl rfl rfl (fun w hS=>qdfg rfl rfl) ?_;refine qfhu.pu rfl rfl rfl rfl (fun w hS=>rfl) ?_;refine qfhu.pu rfl rfl rfl rfl (fun w hS=>q390 rfl hC (hS1 w hS)) ?_;refine qfhu.pu rfl rfl rfl rfl (fun w hS=>rfl) ?_;refine qfhu.pu rfl rfl rfl rfl (fun w hS=>q390 rfl hC (hS1 w hS)) ?_;refine qfhu.ca rfl rfl rfl rfl (fun w=>qpjl.enter2 func185 rfl rfl rfl) US ?_;refine qfhu.ca rfl rfl rfl rfl (fun w=>qpjl.enter2 func162 rfl rfl rfl) SM ?_;refine qfhu.pu rfl rfl rfl rfl (fun w hS=>qdfg rfl rfl) ?_;refine qfhu.pu rfl rfl rfl rfl (fun w hS=>rfl) ?_;exact qfhu.All.fin rfl
theorem q070{Q:Exit->Act->World->Prop}{S:World->Prop}{W:World}{v k:Int}{C:Array Value}{B:Nat}{x5 x6 x7 x8 x9 x10 x11 x12 x13 x14 x15 x16 x17 x18 x19 x20 x21 x22 x23 x24 x25 x26 x27 x28 x29 x30 x31 x32 x33 x34 x35 x36 x37 x38 x39 x40 x41 x42 x43 x44 x45 x46 x47 x48 x49 x50 x51 x52 x53 x54 x55 x56 x57 x58 x59 x60 x61 x62:Value}
 (hS:S W.drew) (hS0:∀w,S w->w.cell? ⟨B,0,none⟩=some (.int .i64 k))
 (KN:∀w,S w->Calls prog 114 #[.int .i64 v,.int .i64 k] w fun e w'=>e=.returned (.bool false)/\S w')
 (fin:∀w,S w->Q .normal ⟨#[(.int .i64 v),(.agg C),undef,(.pointer (some ⟨B,0,none⟩)),(.bool false),x5,(.int .i64 v),(.pointer (some ⟨B,0,none⟩)),(.int .i64 k),(.bool false),(.bool true),(.bool true),undef,undef,undef,undef,undef,undef,(.bool true),x19,x20,x21,x22,x23,x24,x25,x26,x27,x28,x29,x30,x31,x32,x33,x34,x35,x36,x37,x38,x39,x40,x41,x42,x43,x44,x45,x46,x47,x48,x49,x50,x51,x52,x53,x54,x55,x56,x57,x58,x59,x60,x61,x62],[]⟩ w) :
 (Code.region 1 (qfhu.opsAt 1 Tryz.f148.body) true).wp prog Q ⟨#[(.int .i64 v),(.agg C),undef,(.pointer (some ⟨B,0,none⟩)),(.bool false),x5,x6,x7,x8,x9,x10,x11,x12,x13,x14,x15,x16,x17,x18,x19,x20,x21,x22,x23,x24,x25,x26,x27,x28,x29,x30,x31,x32,x33,x34,x35,x36,x37,x38,x39,x40,x41,x42,x43,x44,x45,x46,x47,x48,x49,x50,x51,x52,x53,x54,x55,x56,x57,x58,x59,x60,x61,x62],[]⟩ W:=by
 refine qfhu.wp_in (ds:=[6,7,8,9,10,11,12,13,14,15,16,17,18]) (D:=[]) (by kernel_rfl) (by kernel_rfl) (by kernel_rfl) ?_ hS ?_ fin
 ·exact(by repeat (first|exact trivial|refine⟨.inr rfl,?_⟩|refine⟨.inl rfl,?_⟩))
 refine qfhu.pu rfl rfl rfl rfl (fun w hS=>rfl) ?_;refine qfhu.pu rfl rfl rfl rfl (fun w hS=>q809 rfl) ?_;refine qfhu.pu rfl rfl rfl rfl (fun w hS=>qta9 rfl (hS0 w hS)) ?_;refine qfhu.ca rfl rfl rfl rfl (fun w=>qpjl.enter2 func114 rfl rfl rfl) KN ?_;refine qfhu.pu rfl rfl rfl rfl (fun w hS=>qdfg rfl rfl) ?_
 iterate 8 (first|refine qfhu.sk rfl rfl rfl rfl ?_|refine qfhu.pu rfl rfl rfl rfl (fun w hS=>rfl) ?_)
 exact qfhu.All.fin rfl
theorem qcax(p:Pk)(hk:p.kind=1\/p.kind=2):q8po 5 p=qm70 p:=by
 unfold q8po qm70;rcases hk with hk|hk
 ·have h2:¬p.kind=2:=by omega
  rw[if_neg h2,if_neg h2];unfold us6 us5 us4 us3 us1;cases p.hasWill<;>simp
 ·rw[if_pos hk,if_pos hk];unfold us2 us1;simp
theorem qysa(p:Pk)(hk:p.kind=1\/p.kind=2):q8po 4 p={qm70 p with props:=[],wProps:=[]}:=by
 unfold q8po qm70;rcases hk with hk|hk
 ·have h2:¬p.kind=2:=by omega
  rw[if_neg h2,if_neg h2];unfold us6 us5 us4 us3 us1;cases p.hasWill<;>simp
 ·rw[if_pos hk,if_pos hk];unfold us2 us1;simp[Pk.zero]
theorem q5bu(v:Int)(p:Pk)(hv:v=4\/v=5)(hk:p.kind=1\/p.kind=2):decide (p=q8po v p)=(decide (p=qm70 p)&&!(v==4&&!(p.props.isEmpty&&p.wProps.isEmpty))):=by
 rcases hv with rfl|rfl
 ·rw[qysa p hk,Bool.eq_iff_iff];simp only[decide_eq_true_eq,Bool.and_eq_true,beq_self_eq_true,Bool.true_and,Bool.not_not,List.isEmpty_iff];constructor
  ·intro h;have h1:p.props=[]:=by rw[h]
   have h2:p.wProps=[]:=by rw[h]
   refine⟨?_,h1,h2⟩;have h3:(qm70 p).props=[]:=by unfold qm70;split<;>simp[h1]
   have h4:(qm70 p).wProps=[]:=by unfold qm70;split<;>simp[h2,Pk.zero]
   conv=>lhs;rw[h]
   generalize qm70 p=q at h3 h4;obtain⟨⟩:=q;simp only at h3 h4;subst h3 h4
   rfl
  ·rintro⟨h,h1,h2⟩;have h3:(qm70 p).props=[]:=by rw[<-h];exact h1
   have h4:(qm70 p).wProps=[]:=by rw[<-h];exact h2
   conv=>lhs;rw[h]
   generalize qm70 p=q at h3 h4;obtain⟨⟩:=q;simp only at h3 h4;subst h3 h4
   rfl
 ·rw[qcax p hk];simp
def qqa5(v:Int)(p:Pk):Bool:=
 if p.kind=2 then(if v=4 then qfn3 p.code else mayR 2 p.code)&&(!p.session || p.code==0)
 else !(v==4&&(p.client.isEmpty&&!p.clean || p.hasPass&&!p.hasUser))&&decide (0<=p.keep/\p.keep<=65535)&&decide (0<=p.wQos/\p.wQos<=2)
theorem qmc6(v:Int)(p:Pk):okC v p=(versC v&&(p.kind==1 || p.kind==2)&&(decide (p=qm70 p)&&!(v==4&&!(p.props.isEmpty&&p.wProps.isEmpty)))&&qqa5 v p):=by unfold okC qqa5;simp only[Bool.and_assoc]
theorem qien{w:World}{v:Int}{p:Pk}{a:Ad}(h:PkAt w p a):PkAt w (q8po v p) (qyxc v p a):=by
 unfold q8po qyxc;split
 ·refine⟨fun e=>absurd rfl e,fun e=>absurd rfl e,fun e=>absurd rfl e,?_⟩;show PL w (if v=5 then a.ps else none) (if v=5 then p.props else []);split
  ·exact h.ps
  ·exact fun e=>absurd rfl e
 ·refine⟨?_,fun e=>absurd rfl e,fun e=>absurd rfl e,?_⟩
  ·show PL w (if p.hasWill then(if v=5 then a.w else none) else none) (if p.hasWill then(if v=5 then p.wProps else []) else []);split
   ·split
    ·exact h.w
    ·exact fun e=>absurd rfl e
   ·exact fun e=>absurd rfl e
  ·show PL w (if v=5 then a.ps else none) (if v=5 then p.props else []);split
   ·exact h.ps
   ·exact fun e=>absurd rfl e
theorem qyzo{v:Int}{p:Pk}(h:q21o p):q21o (q8po v p):=by
 obtain⟨_,_,h3,h4⟩:=h;unfold q8po;split
 ·refine⟨Nat.zero_le _,Nat.zero_le _,?_,Nat.zero_le _⟩;show(if v=5 then p.props else []).length<=70000;split
  ·exact h3
  ·exact Nat.zero_le _
 ·refine⟨Nat.zero_le _,Nat.zero_le _,?_,?_⟩
  ·show(if v=5 then p.props else []).length<=70000;split
   ·exact h3
   ·exact Nat.zero_le _
  ·show(if p.hasWill then(if v=5 then p.wProps else []) else []).length<=70000;split
   ·split
    ·exact h4
    ·exact Nat.zero_le _
   ·exact Nat.zero_le _
theorem qdnc(v:Int)(p:Pk)(a:Ad)(w:World)(hp:PkAt w p a)(sp:q21o p) :
 Calls prog 148 #[.int .i64 v,pkV p a] w fun e w'=>e=.returned (.bool (okC v p))/\Below w.heap.size w w':=by
 have S0:=BxS.made w p a;have KN:∀W,BxS w p a W->Calls prog 114 #[.int .i64 v,.int .i64 p.kind] W fun e w'=>e=.returned (.bool (versC v&&(p.kind==1 || p.kind==2)))/\BxS w p a w':=fun W h=>(q564 v p.kind W).mono fun e w' ⟨he,hw⟩=>⟨he,hw▸h⟩
 have US:∀W,BxS w p a W->Calls prog 185 #[.int .i64 v,.agg (pkC p a)] W fun e w'=>e=.returned (.agg (pkC (q8po v p) (qyxc v p a)))/\BxS w p a w':=fun W h=>(qhin v p a W).mono fun e w' ⟨he,hb⟩=>⟨he,h.call hb⟩
 have SM:∀W,BxS w p a W->Calls prog 162 #[.agg (pkC p a),.agg (pkC (q8po v p) (qyxc v p a))] W fun e w'=>e=.returned (.bool (decide (p=q8po v p)))/\BxS w p a w':=fun W h=>(qyk8 p (q8po v p) a (qyxc v p a) W (hp.below h.low) (qien (hp.below h.low)) sp (qyzo sp)).mono fun e w' ⟨he,hb⟩=>⟨he,h.call hb⟩
 have C1:=qwmp p a;have P0:∀W,BxS w p a W->W.cell? ⟨w.heap.size,0,none⟩=some (.int .i64 p.kind):=fun W h=>h.cell 0;have P1:∀W,BxS w p a W->W.heap[w.heap.size]?=some (.cells (pkC p a) 38 (0,0)):=fun W h=>h.box;have HS0:=hid S0.draw;have hC1:=hid C1;have hP0:=hid P0;have hP1:=hid P1;rw[qmc6];by_cases hkn:(versC v&&(p.kind==1 || p.kind==2))=true
 ·have hv:v=4\/v=5:=by simp only[versC,Bool.and_eq_true,Bool.or_eq_true,beq_iff_eq] at hkn;exact hkn.1
  have hk:p.kind=1\/p.kind=2:=by simp only[Bool.and_eq_true,Bool.or_eq_true,beq_iff_eq] at hkn;exact hkn.2
  rw[hkn] at KN ⊢;rw[<-q5bu v p hv hk,Bool.true_and];have hKN:=hid KN;have hUS:=hid US;by_cases he:p=q8po v p
  ·rw[decide_eq_true he] at SM ⊢;have hSM:=hid SM;rw[Bool.true_and];obtain⟨r,hr⟩:∃r,qqa5 v p=r:=⟨_,rfl⟩
   rw[hr];have HR:=hid hr;have HV:=hid hv;have HK:=hid hk;have HE:=hid he;unfold pkV;clear S0 KN US SM C1 P0 P1 hkn hv hk he hr;go_in
   go_upto_region 1 with fail
   refine qyqy (S:=BxS w p a) (B:=w.heap.size) HS0.out hC1.out hP0.out hP1.out hKN.out hUS.out hSM.out ?_;intro W hW;have HW:=hid hW;clear hW HS0;have k0:=HW.out.cell 0;change _=some (Value.int .i64 p.kind) at k0;by_cases h2:p.kind=2
   ·rw[h2] at k0;have hr:=HR.out;rw[qqa5,if_pos h2] at hr;have k17:W.cell? ⟨w.heap.size,21,none⟩=some (.int .i64 p.code):=HW.out.cell 21;have CC:=qtz4 v p.code;generalize (if v=4 then qfn3 p.code else mayR 2 p.code)=cf at hr CC;have CC:=hid CC;clear h2 HR HE HK;cases cf with
    |false=>have HR:=hid hr;clear hr;go_wp2_with fail;refine(CC.out _).mono ?_;rintro e W2 ⟨rfl,hb⟩;have B2:=hid (HW.out.call hb).low;clear hb;go_wp2;go_ret;exact⟨congrArg (fun b=>Ending.returned (Value.bool b)) HR.out,B2.out⟩
    |true=>
     by_cases hc:p.code=0
     ·have HR:=hid (show true=r by rw[<-hr,hc];simp);have HC:=hid hc;rw[hc] at k17 CC;clear hr hc;have CC:=hid CC.out;go_wp2_with fail;refine(CC.out _).mono ?_;rintro e W2 ⟨rfl,hb⟩;have B2:=hid (HW.out.call hb).low;have k17:W2.cell? ⟨w.heap.size,21,none⟩=some (.int .i64 p.code):=(HW.out.call hb).cell 21;rw[HC.out] at k17;clear hb;go_wp2;go_ret;exact⟨congrArg (fun b=>Ending.returned (Value.bool b)) HR.out,B2.out⟩
     ·have hc':(p.code==0)=false:=beq_eq_false_iff_ne.2 hc;have HR:=hid (show(!p.session)=r by rw[<-hr,hc'];simp);clear hr hc;go_wp2_with fail;refine(CC.out _).mono ?_;rintro e W2 ⟨rfl,hb⟩;have B2:=hid (HW.out.call hb).low;have k17:W2.cell? ⟨w.heap.size,21,none⟩=some (.int .i64 p.code):=(HW.out.call hb).cell 21;have k16:W2.cell? ⟨w.heap.size,20,none⟩=some (.bool p.session):=(HW.out.call hb).cell 20;clear hb;go_wp2;go_ret;exact⟨congrArg (fun b=>Ending.returned (Value.bool b)) HR.out,B2.out⟩
   ·have h2':(p.kind==2)=false:=beq_eq_false_iff_ne.2 h2;obtain⟨nm,hnm⟩:∃x,(v != 4 || (!p.client.isEmpty || p.clean))=x:=⟨_,rfl⟩
    have hr:=HR.out;have hf:(p.hasWill || (p.wQos==0&&!p.wRetain))=true:=by
     cases hw:p.hasWill with
     |true=>rfl
     |false=>
      have h:=HE.out;rw[q8po,if_neg h2] at h;have h1:p.wQos=0:=by rw[h];unfold us6 us5 us4;simp[hw]
      have h3:p.wRetain=false:=by rw[h];unfold us6 us5 us4;simp[hw]
      rw[h1,h3];rfl
    have hr2:r=(nm&&(decide (0<=p.keep)&&(decide (p.keep<=65535)&&fitC v p.hasWill p.hasPass p.hasUser p.wRetain p.wQos))):=by
     rw[<-hr,qqa5,if_neg h2,fitC,hf,<-hnm];have hq:decide (0<=p.wQos/\p.wQos<=2)=(decide (0<=p.wQos)&&decide (p.wQos<=2)):=by rw[Bool.decide_and]
     have hk:decide (0<=p.keep/\p.keep<=65535)=(decide (0<=p.keep)&&decide (p.keep<=65535)):=by rw[Bool.decide_and]
     rw[hq,hk,show(v != 4)=!(v==4) from rfl];generalize (v==4)=b1;generalize p.client.isEmpty=b2;generalize decide (0<=p.wQos)=b3;generalize decide (p.wQos<=2)=b4;generalize decide (0<=p.keep)=b5;generalize decide (p.keep<=65535)=b6;generalize p.clean=b7;generalize p.hasPass=b8;generalize p.hasUser=b9
     revert b1 b2 b3 b4 b5 b6 b7 b8 b9
     decide
    have FF:=hid (fun W=>qntu v (c:=pkC p a) W (show(pkC p a)[10]?=some (.bool p.hasUser) from rfl) (show(pkC p a)[12]?=some (.bool p.hasPass) from rfl) (show(pkC p a)[14]?=some (.bool p.hasWill) from rfl) (show(pkC p a)[17]?=some (.int .i64 p.wQos) from rfl) (show(pkC p a)[18]?=some (.bool p.wRetain) from rfl));generalize fitC v p.hasWill p.hasPass p.hasUser p.wRetain p.wQos=ft at hr2 FF;have HR2:=hid hr2;have k9:W.cell? ⟨w.heap.size,9,none⟩=some (.string (bs p.client)):=HW.out.cell 9;have k7:W.cell? ⟨w.heap.size,7,none⟩=some (.bool p.clean):=HW.out.cell 7;clear h2 hr hr2 hf HR HE HK
    go_upto_region 5 with fail
    go_cut [5] (fun s5 wx=>s5=.bool nm/\wx=W)
    case first=>
     by_cases h4:v=4
     ·subst h4;have hE:(bs p.client).toList.isEmpty=p.client.isEmpty:=by rw[q0c6]
      generalize bs p.client=C at k9 hE;cases hc:p.client.isEmpty with
      |true=>
       rw[hc] at hE;cases hcl:p.clean
       all_goals
        have HN:=hid hnm;rw[hc,hcl] at HN;rw[hcl] at k7;clear hnm hc hcl;go_wp2_with fail
        go_meet
        exact⟨congrArg Value.bool HN.out,rfl⟩
      |false=>
       rw[hc] at hE;have HN:=hid hnm;rw[hc] at HN;clear hnm hc;go_wp2_with fail
       go_meet
       exact⟨congrArg Value.bool HN.out,rfl⟩
     ·have h4':(v==4)=false:=beq_eq_false_iff_ne.2 h4;have HN:=hid (show true=nm by rw[<-hnm,show(v != 4)=!(v==4) from rfl,h4'];rfl);have h4n:(v != 4)=true:=by rw[show(v != 4)=!(v==4) from rfl,h4'];rfl
      clear h4 hnm h4';go_wp2_with fail
      go_meet
      exact⟨congrArg Value.bool HN.out,rfl⟩
    case rest=>
     obtain⟨rfl,rfl⟩:=hcut;clear k9 k7 hnm h2' k0;have k8:wc.cell? ⟨w.heap.size,8,none⟩=some (.int .i64 p.keep):=HW.out.cell 8;cases nm with
     |false=>have HR:=hid HR2.out.symm;clear HR2;have LO:=hid HW.out.low;go_wp2;go_ret;exact⟨congrArg (fun b=>Ending.returned (Value.bool b)) HR.out,LO.out⟩
     |true=>
      by_cases q0:p.keep<0
      ·have HR:=hid (show false=r by rw[HR2.out,decide_eq_false (show ¬0<=p.keep by omega)];rfl);have LO:=hid HW.out.low;clear HR2;go_wp2;go_ret;exact⟨congrArg (fun b=>Ending.returned (Value.bool b)) HR.out,LO.out⟩
      by_cases q1:65535<p.keep
      ·have HR:=hid (show false=r by rw[HR2.out,decide_eq_true (show 0<=p.keep by omega),decide_eq_false (show ¬p.keep<=65535 by omega)];rfl);have LO:=hid HW.out.low;clear HR2;go_wp2;go_ret;exact⟨congrArg (fun b=>Ending.returned (Value.bool b)) HR.out,LO.out⟩
      have HR:=hid (show ft=r by rw[HR2.out,decide_eq_true (show 0<=p.keep by omega),decide_eq_true (show p.keep<=65535 by omega)];rfl);clear HR2;have GB:=hid HW.out.box;go_wp2_with (refine q2a5 rfl _ _ rfl w.heap.size rfl 38 _ (0,0) _ GB.out underlying38 rfl (by rw[hC1.out];exact q5nr) ?_);refine(FF.out _).mono ?_;rintro e W2 ⟨rfl,hb⟩;have LO:=hid (qxh2 HW.out.low hb);clear hb;go_wp2;go_ret;exact⟨congrArg (fun b=>Ending.returned (Value.bool b)) HR.out,LO.out⟩
  ·rw[decide_eq_false he] at SM ⊢;have hSM:=hid SM;unfold pkV;clear S0 KN US SM C1 P0 P1 hkn hv hk he;go_in
   go_upto_region 1 with fail
   refine qyqy (S:=BxS w p a) (B:=w.heap.size) HS0.out hC1.out hP0.out hP1.out hKN.out hUS.out hSM.out ?_;intro W hW;have HW:=hid hW.low;clear hW HS0;go_wp2;go_ret;exact⟨rfl,HW.out⟩
 ·have hkn:(versC v&&(p.kind==1 || p.kind==2))=false:=by simpa using hkn
  rw[hkn] at KN ⊢;have hKN:=hid KN;unfold pkV;clear S0 KN US SM C1 P0 P1 hkn;go_in
  go_upto_region 1 with fail
  refine q070 (S:=BxS w p a) (B:=w.heap.size) HS0.out hP0.out hKN.out ?_;intro W hW;have HW:=hid hW.low;clear hW HS0;go_wp2;go_ret;exact⟨rfl,HW.out⟩
def qfkc(t:Bool)(p:Pk):Pk:={Pk.zero with kind:=p.kind,code:=if t then p.code else 0,props:=if t then p.props else []}
def q43o(t:Bool)(a:Ad):Ad:={adZ with ps:=if t then a.ps else none,pc:=if t then a.pc else 0}
theorem qt8s(v:Int)(p:Pk):usedK v p=qfkc (!q6gd v p.kind) p:=by unfold usedK qfkc;cases q6gd v p.kind<;>rfl
theorem q2c6{w:World}{p:Pk}{a:Ad}(t:Bool)(h:PkAt w p a):PkAt w (qfkc t p) (q43o t a):=by
 refine⟨fun e=>absurd rfl e,fun e=>absurd rfl e,fun e=>absurd rfl e,?_⟩;unfold qfkc q43o;cases t with
 |true=>exact h.ps
 |false=>exact fun e=>absurd rfl e
theorem qynt{p:Pk}(t:Bool)(h:q21o p):q21o (qfkc t p):=by
 refine⟨Nat.zero_le _,Nat.zero_le _,?_,Nat.zero_le _⟩;cases t with
 |true=>exact h.2.2.1
 |false=>exact Nat.zero_le _
section
variable{w W W':World}{p x:Pk}{a b:Ad}
theorem SmS.cell(h:SmS w p a x b W)(j:Nat):W.cell? ⟨w.heap.size,j,none⟩=(pkC p a)[j]? := cell_of_row _ _ j _ _ _ h.p
theorem SmS.ncell(h:SmS w p a x b W)(j:Nat):W.cell? ⟨w.heap.size+1,j,none⟩=(pkC x b)[j]? := cell_of_row _ _ j _ _ _ h.q
theorem SmS.fr(h:SmS w p a x b W)(j:Nat):W.frozen? ⟨w.heap.size+1,j,none⟩=false:=frozen_of_row _ _ _ _ _ h.q
theorem SmS.put(h:SmS w p a x b W)(j:Nat)(u:Value){x':Pk}{b':Ad}(he:(pkC x b).setIfInBounds j u=pkC x' b'):SmS w p a x' b' (W.setCell ⟨w.heap.size+1,j,none⟩ u):=
 ⟨h.low.setCell (by show _<=w.heap.size+1;omega) u,(heap_setCell_other W ⟨w.heap.size+1,j,none⟩ _ u (by show w.heap.size≠w.heap.size+1;omega)).trans h.p,
  by have:=qlvy h.q j u;rw[he] at this;exact this⟩
theorem SmS.drew(h:SmS w p a x b W):SmS w p a x b W.drew:=⟨h.low.drew,h.p,h.q⟩
end
def qdz0(p:Pk):Pk:={Pk.zero with kind:=p.kind}
theorem qqfg(t:Bool)(p:Pk)(a:Ad)(w:World)(hp:PkAt w p a)(sp:q21o p) :
 Calls prog 183 #[.bool t,.agg (pkC p a)] w fun e w'=>e=.returned (.bool (decide (p=qfkc t p)&&(!t || mayR p.kind p.code)))/\Below w.heap.size w w':=by
 have Z0:(w.alloc (.cells (pkC p a) 38)).heap.size=w.heap.size+1:=by simp
 have GN:((w.alloc (.cells (pkC p a) 38)).alloc (.cells pkZ 38)).heap[w.heap.size+1]?=some (.cells pkZ 38 (0,0)):=by
  have:=heap_alloc_new (w.alloc (.cells (pkC p a) 38)) (.cells pkZ 38)
  rw[Z0] at this;exact this
 have S0:SmS w p a (qdz0 p) adZ (((w.alloc (.cells (pkC p a) 38)).alloc (.cells pkZ 38)).setRow (w.heap.size+1) (pkC (qdz0 p) adZ)):=
  ⟨q8xz (qxh2 (qybm _) (qybm _)) (by omega) _,(setRow_other _ _ _ _ (by omega)).trans (heap_alloc2_old _ _ _),setRow_heap _ _ _ _ _ _ GN⟩
 have SM:=hid (fun V (h:SmS w p a (qfkc t p) (q43o t a) V)=>(qyk8 p (qfkc t p) a (q43o t a) V (hp.below h.low) (q2c6 t (hp.below h.low)) sp (qynt t sp)).mono fun e W' hh=>(⟨hh.1,h.call hh.2⟩:_/\SmS w p a (qfkc t p) (q43o t a) W'));have MA:=hid (fun V (h:SmS w p a (qfkc t p) (q43o t a) V)=>(qeiz p.kind p.code V).mono fun e W' hh=>(⟨hh.1,h.call hh.2⟩:_/\SmS w p a (qfkc t p) (q43o t a) W'));have hzv:=qrai;have hne:¬pkZ=#[]:=by intro h;have:=qbwp;rw[h] at this;cases this
 have HZ:=hid qbwp;have GN:=hid GN;have hD1:=qwmp (qdz0 p) adZ;have hD2:=qmz0 (qdz0 p) adZ;obtain⟨D,hD⟩:∃D,pkC (qdz0 p) adZ=D:=⟨_,rfl⟩
 rw[hD] at hD1 hD2 S0;have HD:=hid hD;have HD1:=hid hD1;have HD2:=hid hD2;have HS0:=hid S0;have C1:=hid (qwmp p a);have C2:=hid (qwmp (qfkc t p) (q43o t a));have k0:(w.alloc (.cells (pkC p a) 38)).cell? ⟨w.heap.size,0,none⟩=some (.int .i64 p.kind):=cell_of_row _ _ 0 _ _ _ (heap_alloc_new _ _);clear S0 hD hD1 hD2 Z0 hp sp;generalize decide (p=qfkc t p)=s at *;generalize mayR p.kind p.code=m at *;obtain⟨r,hr⟩:∃r,(s&&(!t || m))=r:=⟨_,rfl⟩
 rw[hr];have HR:=hid hr;clear hr;go_in
 go_upto_if 9 with (first
  |(refine wpList_buildTo rfl 38 _ rfl (some _) rfl D (by rw[<-HD.out];kernel_rfl) ?_)
  |(refine wpList_store_row rfl _ _ _ rfl (w.heap.size+1) D rfl rfl 38 _ GN.out (by rw[HD1.out];exact q5nr) (by rw[HZ.out,HD1.out]) HD2.out ?_))
 clear k0 GN HZ hne hzv;go_cut [] (fun wx=>SmS w p a (qfkc t p) (q43o t a) wx)
 case first=>
  generalize ((w.alloc (.cells (pkC p a) 38)).alloc (.cells pkZ 38)).setRow (w.heap.size+1) D=W at *;cases t with
  |true=>
   have S1:=hid ((HS0.out.put 21 (.int .i64 p.code) (x':={qdz0 p with code:=p.code}) (b':=adZ) rfl).put 24 (.slice a.ps p.props.length a.pc) (x':=qfkc true p) (b':=q43o true a) rfl);have k21:W.cell? ⟨w.heap.size,21,none⟩=some (.int .i64 p.code):=HS0.out.cell 21;have k24:W.cell? ⟨w.heap.size,24,none⟩=some (.slice a.ps p.props.length a.pc):=HS0.out.cell 24;have n21:W.cell? ⟨w.heap.size+1,21,none⟩=some (.int .i64 0):=HS0.out.ncell 21;have n24:W.cell? ⟨w.heap.size+1,24,none⟩=some (.slice none 0 0):=HS0.out.ncell 24;have f21:=HS0.out.fr 21;have f24:=HS0.out.fr 24;clear HS0
   go_upto_region 3 with fail
   go_region
   go_wp2_with fail
   go_meet
   exact S1.out.drew
  |false=>
   go_wp2_with fail
   go_meet
   exact HS0.out
 case rest=>
  have HS:=hid hcut;clear hcut HS0
  go_upto_region 4 with fail
  clear HD HD1 HD2;obtain⟨C,hC⟩:∃C,pkC p a=C:=⟨_,rfl⟩
  obtain⟨E,hE⟩:∃E,pkC (qfkc t p) (q43o t a)=E:=⟨_,rfl⟩
  have BC:=hid (fun V (h:SmS w p a (qfkc t p) (q43o t a) V)=>(by rw[<-hC];exact h.p:V.heap[w.heap.size]?=some (.cells C 38 (0,0))));have BE:=hid (fun V (h:SmS w p a (qfkc t p) (q43o t a) V)=>(by rw[<-hE];exact h.q:V.heap[w.heap.size+1]?=some (.cells E 38 (0,0))));have LOW:=hid (fun V (h:SmS w p a (qfkc t p) (q43o t a) V)=>h.low);have c0:∀V,SmS w p a (qfkc t p) (q43o t a) V->V.cell? ⟨w.heap.size,0,none⟩=some (.int .i64 p.kind):=fun V h=>h.cell 0;have c21:∀V,SmS w p a (qfkc t p) (q43o t a) V->V.cell? ⟨w.heap.size,21,none⟩=some (.int .i64 p.code):=fun V h=>h.cell 21;have K0:=hid c0;have K21:=hid c21;clear c0 c21;unfold pkV at SM;rw[hC] at C1 SM;rw[hE] at C2 SM;rw[hC];clear hC hE;generalize p.kind=k at *;generalize p.code=c at *;cases s with
  |false=>
   clear MA;go_wp2_with (first
    |(refine wpList_load_row rfl _ _ rfl w.heap.size rfl 38 _ (0,0) _ (BC.out _ HS.out) underlying38 rfl (by rw[C1.out];exact q5nr) ?_)
    |(refine wpList_load_row rfl _ _ rfl (w.heap.size+1) rfl 38 _ (0,0) _ (BE.out _ HS.out) underlying38 rfl (by rw[C2.out];exact q5nr) ?_))
   refine(SM.out _ HS.out).mono ?_;rintro e W ⟨rfl,hb⟩;have LO:=hid (LOW.out _ hb);clear hb;go_wp2;go_ret;exact⟨by rw[<-HR.out];rfl,LO.out⟩
  |true=>
   cases t with
   |false=>
    clear MA;go_wp2_with (first
     |(refine wpList_load_row rfl _ _ rfl w.heap.size rfl 38 _ (0,0) _ (BC.out _ HS.out) underlying38 rfl (by rw[C1.out];exact q5nr) ?_)
     |(refine wpList_load_row rfl _ _ rfl (w.heap.size+1) rfl 38 _ (0,0) _ (BE.out _ HS.out) underlying38 rfl (by rw[C2.out];exact q5nr) ?_))
    refine(SM.out _ HS.out).mono ?_;rintro e W ⟨rfl,hb⟩;have LO:=hid (LOW.out _ hb);clear hb;go_wp2;go_ret;exact⟨by rw[<-HR.out];rfl,LO.out⟩
   |true=>
    go_wp2_with (first
     |(refine wpList_load_row rfl _ _ rfl w.heap.size rfl 38 _ (0,0) _ (BC.out _ HS.out) underlying38 rfl (by rw[C1.out];exact q5nr) ?_)
     |(refine wpList_load_row rfl _ _ rfl (w.heap.size+1) rfl 38 _ (0,0) _ (BE.out _ HS.out) underlying38 rfl (by rw[C2.out];exact q5nr) ?_))
    refine(SM.out _ HS.out).mono ?_;rintro e W ⟨rfl,hb⟩;have HS2:=hid hb;have k0:W.cell? ⟨w.heap.size,0,none⟩=some (.int .i64 k):=K0.out _ hb;have k21:W.cell? ⟨w.heap.size,21,none⟩=some (.int .i64 c):=K21.out _ hb;clear hb HS;go_wp2_with fail;refine(MA.out _ HS2.out).mono ?_;rintro e W2 ⟨rfl,hb⟩;have LO:=hid (LOW.out _ hb);clear hb;go_wp2;go_ret;exact⟨by rw[<-HR.out];rfl,LO.out⟩
theorem qeqd{Q:Exit->Act->World->Prop}{S:World->Prop}{W:World}{b B cb:Nat}{f:Int}{C:Array Value}{x0 x1 x2 x3 x5 x8 x9 x10 x11 x12 x13 x14 x15 x16 x17 x18 x19 x20 x21 x22 x23 x24 x25 x26 x27 x28 x29 x30 x31 x32 x33 x34 x35 x36 x37 x38 x39 x40 x41 x42 x43 x44 x45 x46 x47 x48 x49 x50 x51 x52:Value}
 (hS:S W.drew) (hC:C.size=25) (h1:C.all (·.oneCell')=true) (hb:B≠b) (KB:∀w,S w->w.heap[B]?=some (.cells C 38 (0,0))) (KR:∀w,S w->∃old,w.heap[b]?=some (.cells old 38 (0,0))/\old.size=25)
 (H0:∀w,S w->Calls prog 42 #[(.pointer (some ⟨cb,0,none⟩))] w fun e w'=>e=.returned (.int .i64 f)/\w=w')
 (H1:∀w,S w->Calls prog 42 #[(.pointer (some ⟨cb,0,none⟩))] (w.setRow b C) fun e w'=>e=.returned (.int .i64 f)/\w.setRow b C=w')
 (fin:∀w,S w->Q .normal ⟨#[x0,x1,x2,x3,(.pointer (some ⟨b,0,none⟩)),(.int .i64 f),(.pointer (some ⟨cb,0,none⟩)),(.pointer (some ⟨B,0,none⟩)),x8,x9,x10,x11,x12,x13,x14,x15,x16,x17,x18,x19,x20,x21,x22,x23,x24,x25,x26,x27,x28,x29,x30,x31,x32,x33,x34,x35,x36,x37,x38,x39,x40,x41,x42,x43,x44,x45,x46,x47,x48,x49,(.agg C),(.pointer (some ⟨cb,0,none⟩)),(.int .i64 f)],[]⟩ (w.setRow b C)) :
 (Code.region 11 (qfhu.opsAt 11 Tryz.f146.body) true).wp prog Q ⟨#[x0,x1,x2,x3,(.pointer (some ⟨b,0,none⟩)),x5,(.pointer (some ⟨cb,0,none⟩)),(.pointer (some ⟨B,0,none⟩)),x8,x9,x10,x11,x12,x13,x14,x15,x16,x17,x18,x19,x20,x21,x22,x23,x24,x25,x26,x27,x28,x29,x30,x31,x32,x33,x34,x35,x36,x37,x38,x39,x40,x41,x42,x43,x44,x45,x46,x47,x48,x49,x50,x51,x52],[]⟩ W:=by
 refine q2y4.wp (x:=false) (S:=fun x W=>∃V,S V/\W=if x=true then V.setRow b C else V) (made:=fun i x=>i=3->x=true) (war:=[]) (ds:=[50,51,52,5]) (A:=[x0,x1,x2,x3,(.pointer (some ⟨b,0,none⟩)),x5,(.pointer (some ⟨cb,0,none⟩)),(.pointer (some ⟨B,0,none⟩)),x8,x9,x10,x11,x12,x13,x14,x15,x16,x17,x18,x19,x20,x21,x22,x23,x24,x25,x26,x27,x28,x29,x30,x31,x32,x33,x34,x35,x36,x37,x38,x39,x40,x41,x42,x43,x44,x45,x46,x47,x48,x49,x50,x51,x52]) (B:=fun x=>[x0,x1,x2,x3,(.pointer (some ⟨b,0,none⟩)),(.int .i64 f),(.pointer (some ⟨cb,0,none⟩)),(.pointer (some ⟨B,0,none⟩)),x8,x9,x10,x11,x12,x13,x14,x15,x16,x17,x18,x19,x20,x21,x22,x23,x24,x25,x26,x27,x28,x29,x30,x31,x32,x33,x34,x35,x36,x37,x38,x39,x40,x41,x42,x43,x44,x45,x46,x47,x48,x49,(.agg C),(.pointer (some ⟨cb,0,none⟩)),(.int .i64 f)]) (D:=[]) (by kernel_rfl) (by kernel_rfl) (by kernel_rfl) ?_ ⟨_,hS,rfl⟩ ?_ ?fin
 case refine_1=>exact fun x=>(by repeat (first|exact trivial|refine⟨.inr rfl,?_⟩|refine⟨.inl rfl,?_⟩))
 refine q2y4.All.step rfl (q2y4.Does.pure (val:=fun x=>(.agg C)) rfl (fun x h=>absurd h (by decide)) (fun x w hm hS=>⟨rfl,rfl,qjuh rfl hC (by
  obtain⟨V,hV,hw⟩:=hS;subst hw;cases x
  ·exact KB V hV
  ·exact(setRow_other V b B C hb).trans (KB V hV))⟩)) ?_
 refine q2y4.All.step rfl (q2y4.Does.pure (val:=fun x=>(.pointer (some ⟨cb,0,none⟩))) rfl (fun x h=>absurd h (by decide)) (fun x w hm hS=>⟨rfl,rfl,rfl⟩)) ?_;refine q2y4.All.step rfl (q2y4.Does.call (val:=fun x=>(.int .i64 f)) rfl (fun x h=>absurd h (by decide)) (fun x w hm hS=>⟨rfl,rfl,qpjl.enter1 func42 rfl rfl,by
  obtain⟨V,hV,hw⟩:=hS;subst hw;cases x
  ·exact(H0 V hV).mono fun e w' ⟨he,hk⟩=>⟨he,V,hV,hk.symm⟩
  ·exact(H1 V hV).mono fun e w' ⟨he,hk⟩=>⟨he,V,hV,hk.symm⟩⟩)) ?_
 refine q2y4.All.step rfl (fun x w hm hS=>by
  obtain⟨V,hV,hw⟩:=hS;obtain⟨old,ho,hs⟩:=KR V hV;refine .inl ⟨rfl,.skip true (V.setRow b C) ?_ ⟨fun d hd=>(by cases hd),⟨V,hV,rfl⟩,fun _=>rfl,fun i h e=>rfl,[],rfl,q2y4.off_refl 0 _⟩⟩;subst hw;cases x
  ·exact qn4o rfl rfl hC h1 ho hs
  ·exact(qn4o rfl rfl hC h1 (setRow_heap V b old C _ _ ho) hC).trans (by rw[setRow_setRow])) ?_
 refine q2y4.All.step rfl (q2y4.Does.pure (val:=fun x=>(.int .i64 f)) rfl (fun x h=>absurd h (by decide)) (fun x w hm hS=>⟨rfl,rfl,rfl⟩)) ?_;exact q2y4.All.fin rfl
 case fin=>intro x w hm hS;obtain⟨V,hV,hw⟩:=hS;obtain rfl:=hm 3 (by decide+kernel) rfl;subst hw;exact fin V hV
def fiC(f:Fi):Array Value:=#[.string (bs f.topic),.int .i64 f.qos,.bool f.noLocal,.bool f.asPub,.int .i64 f.handling]
theorem qxzo(f:Fi):(fiC f).size=5:=rfl
theorem qx37(f:Fi):(fiC f).all (·.oneCell')=true:=by simp[fiC,Value.oneCell']
theorem qhg6:(prog.info? 78).map (·.size)=some 5:=by kernel_rfl
theorem q4j3:(prog.info? 78).map (fun i=>(i.zero,i.size,i.bytes))=some (some (.agg #[.string .empty,.int .i64 0,.bool false,.bool false,.int .i64 0]),5,40):=by kernel_rfl
structure BxF(w:World)(f:Fi)(W:World):Prop where
 low:Below w.heap.size w W
 box:W.heap[w.heap.size]?=some (.cells (fiC f) 78 (0,0))
theorem BxF.made(w:World)(f:Fi):BxF w f (w.alloc (.cells (fiC f) 78)):=⟨qybm _,heap_alloc_new _ _⟩
theorem BxF.call{w W W':World}{f:Fi}(h:BxF w f W)(hb:Below W.heap.size W W'):BxF w f W':=⟨qxh2 h.low hb,(hb.block _ (lt_of_block h.box)).trans h.box⟩
theorem BxF.draw{w W:World}{f:Fi}(h:BxF w f W):BxF w f W.drew:=⟨h.low.drew,h.box⟩
theorem BxF.cell{w W:World}{f:Fi}(h:BxF w f W)(j:Nat):W.cell? ⟨w.heap.size,j,none⟩=(fiC f)[j]? := cell_of_row _ _ j _ _ _ h.box
section
variable{a:Act}{w:World}{d:Option Tmp}{p:String}{af:Array Edge}{gd:Option (Nat×Bool)}{x y z:Tmp}{r:TypeId}
theorem q0b3{g:Nat}(hx:a.eval (.tmp x)=.pointer (some ⟨g,0,none⟩)) :
 (execOp a.eval {dst:=d,op := .fieldAddr 78 (.tmp x) 1,type:=r,pos:=p,after:=af,guard:=gd}).run prog w=.ok (.value (.pointer (some ⟨g,1,none⟩))) w:=by
 generalize a.eval=f at *;go_simp
theorem qqv5{g:Nat}(hx:a.eval (.tmp x)=.pointer (some ⟨g,0,none⟩)) :
 (execOp a.eval {dst:=d,op := .fieldAddr 78 (.tmp x) 2,type:=r,pos:=p,after:=af,guard:=gd}).run prog w=.ok (.value (.pointer (some ⟨g,2,none⟩))) w:=by
 generalize a.eval=f at *;go_simp
theorem qw8p{g:Nat}(hx:a.eval (.tmp x)=.pointer (some ⟨g,0,none⟩)) :
 (execOp a.eval {dst:=d,op := .fieldAddr 78 (.tmp x) 3,type:=r,pos:=p,after:=af,guard:=gd}).run prog w=.ok (.value (.pointer (some ⟨g,3,none⟩))) w:=by
 generalize a.eval=f at *;go_simp
theorem q7bm{g:Nat}(hx:a.eval (.tmp x)=.pointer (some ⟨g,0,none⟩)) :
 (execOp a.eval {dst:=d,op := .fieldAddr 78 (.tmp x) 4,type:=r,pos:=p,after:=af,guard:=gd}).run prog w=.ok (.value (.pointer (some ⟨g,4,none⟩))) w:=by
 generalize a.eval=f at *;go_simp
theorem qnwy{g j:Nat}{n:Int}(hx:a.eval (.tmp x)=.pointer (some ⟨g,j,none⟩))(hc:w.cell? ⟨g,j,none⟩=some (.int .i64 n)) :
 (execOp a.eval {dst:=d,op := .load 3 (.tmp x),type:=3,pos:=p,after:=af,guard:=gd}).run prog w=.ok (.value (.int .i64 n)) w:=by
 generalize a.eval=f at *;go_simp
theorem q7eg{g j:Nat}{n:Bool}(hx:a.eval (.tmp x)=.pointer (some ⟨g,j,none⟩))(hc:w.cell? ⟨g,j,none⟩=some (.bool n)) :
 (execOp a.eval {dst:=d,op := .load 4 (.tmp x),type:=4,pos:=p,after:=af,guard:=gd}).run prog w=.ok (.value (.bool n)) w:=by
 generalize a.eval=f at *;go_simp
theorem qv14{n c m:Int}(hx:a.eval (.tmp x)=.int .i64 n)(hm:IntKind.i64.wrap (n*c)=m) :
 (execOp a.eval {dst:=d,op := .binOp .mul 3 (.tmp x) (.const (.int .i64 c)) 3,type:=r,pos:=p,after:=af,guard:=gd}).run prog w=.ok (.value (.int .i64 m)) w:=by
 subst hm;have hc:a.eval (.const (.int .i64 c))=.int .i64 c:=rfl;generalize a.eval=f at *;go_simp
theorem qzzw{n c m:Int}(hx:a.eval (.tmp x)=.int .i64 n)(hm:bits .and .i64 n c=m) :
 (execOp a.eval {dst:=d,op := .binOp .and 3 (.tmp x) (.const (.int .i64 c)) 3,type:=r,pos:=p,after:=af,guard:=gd}).run prog w=.ok (.value (.int .i64 m)) w:=by
 subst hm;have hc:a.eval (.const (.int .i64 c))=.int .i64 c:=rfl;generalize a.eval=f at *;go_simp
theorem q0il{n c m:Int}(hx:a.eval (.tmp x)=.int .i64 n)(hy:a.eval (.tmp y)=.int .i64 c)(hm:bits .or .i64 n c=m) :
 (execOp a.eval {dst:=d,op := .binOp .or 3 (.tmp x) (.tmp y) 3,type:=r,pos:=p,after:=af,guard:=gd}).run prog w=.ok (.value (.int .i64 m)) w:=by
 subst hm;generalize a.eval=f at *;go_simp
end
theorem qmrg:(prog.info? 179).map (·.size)=some 3:=by kernel_rfl
section
variable{a:Act}{w:World}{d:Option Tmp}{p:String}{af:Array Edge}{gd:Option (Nat×Bool)}{x y z:Tmp}{r:TypeId}
theorem qxjc{g:Nat}(hx:a.eval (.tmp x)=.pointer (some ⟨g,0,none⟩)) :
 (execOp a.eval {dst:=d,op := .fieldAddr 179 (.tmp x) 2,type:=r,pos:=p,after:=af,guard:=gd}).run prog w=.ok (.value (.pointer (some ⟨g,2,none⟩))) w:=by
 generalize a.eval=f at *;go_simp
theorem qtbf{g:Nat}{u0 u1 u2:Value}(hx:a.eval (.tmp x)=.pointer (some ⟨g,0,none⟩))(hg:w.heap[g]?=some (.cells #[u0,u1,u2] 179 (0,0))) :
 (execOp a.eval {dst:=d,op := .load 179 (.tmp x),type:=179,pos:=p,after:=af,guard:=gd}).run prog w=.ok (.value (.agg #[u0,u1,u2])) w:=by
 unfold execOp;simp only[hx,Instr.loadAt,Instr.sureAddr,Sem.run_bind,Sem.run_pure,Result.andThen_ok,run_loadVar_row w g 179 179 #[u0,u1,u2] (0,0) _ hg underlying179 rfl qmrg]
end
theorem qje9{Q:Exit->Act->World->Prop}{S:Option (Option Addr×Nat)->World->Prop}{W:World}{B cb n:Nat}{v kind k f:Int}{t:ByteArray}{x0 x2 x3 x4 x5 x6 x7 x8 x9 x10 x11 x12 x13 x14 x15 x16 x17 x18 x19 x20 x21 x22:Value}
 (hS:S none W.drew) (KR:∀x w,S x w->w.heap[B]?=some (.cells #[(.pointer (some ⟨cb,0,none⟩)),.int .i64 v,.int .i64 kind] 179 (0,0))) (K2:∀x w,S x w->w.cell? ⟨B,2,none⟩=some (.int .i64 kind))
 (H0:∀x w,S x w->Calls prog 224 #[(.agg #[(.pointer (some ⟨cb,0,none⟩)),.int .i64 v,.int .i64 kind])] w fun e w'=>e=.returned (.string t)/\S x w')
 (H1:∀x w,S x w->Calls prog 168 #[.int .i64 kind,.string t] w fun e w'=>∃A c,e=.returned (.tuple #[.slice A n c,.int .i64 k,.int .i64 f])/\S (some (A,c)) w')
 (fin:∀x w,x.isSome=true->S x w->Q .normal ⟨#[x0,(.pointer (some ⟨B,0,none⟩)),x2,(.slice (gA x) n (gC x)),(.int .i64 k),(.int .i64 f),x6,x7,x8,(.tuple #[(.slice (gA x) n (gC x)),(.int .i64 k),(.int .i64 f)]),(.pointer (some ⟨B,2,none⟩)),(.int .i64 kind),(.agg #[(.pointer (some ⟨cb,0,none⟩)),.int .i64 v,.int .i64 kind]),(.string t),(.tuple #[(.slice (gA x) n (gC x)),(.int .i64 k),(.int .i64 f)]),(.slice (gA x) n (gC x)),(.int .i64 k),(.int .i64 f),x18,x19,x20,x21,x22],[]⟩ w) :
 (Code.region 3 (qfhu.opsAt 3 Tryz.f179.body) true).wp prog Q ⟨#[x0,(.pointer (some ⟨B,0,none⟩)),x2,x3,x4,x5,x6,x7,x8,x9,x10,x11,x12,x13,x14,x15,x16,x17,x18,x19,x20,x21,x22],[]⟩ W:=by
 refine q2y4.wp (x:=none) (S:=S) (made:=fun i x=>i=4->x.isSome=true) (war:=[]) (ds:=[10,11,12,13,14,9,15,16,17,3,4,5]) (A:=[x0,(.pointer (some ⟨B,0,none⟩)),x2,x3,x4,x5,x6,x7,x8,x9,x10,x11,x12,x13,x14,x15,x16,x17,x18,x19,x20,x21,x22]) (B:=fun x=>[x0,(.pointer (some ⟨B,0,none⟩)),x2,(.slice (gA x) n (gC x)),(.int .i64 k),(.int .i64 f),x6,x7,x8,(.tuple #[(.slice (gA x) n (gC x)),(.int .i64 k),(.int .i64 f)]),(.pointer (some ⟨B,2,none⟩)),(.int .i64 kind),(.agg #[(.pointer (some ⟨cb,0,none⟩)),.int .i64 v,.int .i64 kind]),(.string t),(.tuple #[(.slice (gA x) n (gC x)),(.int .i64 k),(.int .i64 f)]),(.slice (gA x) n (gC x)),(.int .i64 k),(.int .i64 f),x18,x19,x20,x21,x22]) (D:=[]) (by kernel_rfl) (by kernel_rfl) (by kernel_rfl) ?_ hS ?_ (fun x w hm hS=>fin x w (hm 4 (by decide+kernel) rfl) hS)
 ·exact fun x=>(by repeat (first|exact trivial|refine⟨.inr rfl,?_⟩|refine⟨.inl rfl,?_⟩))
 refine q2y4.All.step rfl (q2y4.Does.pure (val:=fun x=>(.pointer (some ⟨B,2,none⟩))) rfl (fun x h=>absurd h (by decide)) (fun x w hm hS=>⟨rfl,rfl,qxjc rfl⟩)) ?_;refine q2y4.All.step rfl (q2y4.Does.pure (val:=fun x=>(.int .i64 kind)) rfl (fun x h=>absurd h (by decide)) (fun x w hm hS=>⟨rfl,rfl,qkcv rfl (K2 x w hS)⟩)) ?_;refine q2y4.All.step rfl (q2y4.Does.pure (val:=fun x=>(.agg #[(.pointer (some ⟨cb,0,none⟩)),.int .i64 v,.int .i64 kind])) rfl (fun x h=>absurd h (by decide)) (fun x w hm hS=>⟨rfl,rfl,qtbf rfl (KR x w hS)⟩)) ?_;refine q2y4.All.step rfl (q2y4.Does.call (val:=fun x=>(.string t)) rfl (fun x h=>absurd h (by decide)) (fun x w hm hS=>⟨rfl,rfl,qpjl.enter1 func224 rfl rfl,H0 x w hS⟩)) ?_;refine q2y4.All.step rfl (fun x w hm hS => .inl ⟨rfl,.call _ _ (qpjl.enter2 func168 rfl rfl rfl) ((H1 x w hS).mono fun e w' ⟨A,c,he,h1⟩=>⟨_,some (A,c),he,(fun d hd=>by cases hd;rfl),h1,(fun _=>rfl),(fun i _ _=>rfl),[14,9,15,3],by kernel_rfl,(by repeat (first|exact trivial|refine⟨.inr rfl,?_⟩|refine⟨.inl rfl,?_⟩))⟩)⟩) ?_;refine q2y4.All.step rfl (q2y4.Does.pure (val:=fun x=>(.tuple #[(.slice (gA x) n (gC x)),(.int .i64 k),(.int .i64 f)])) rfl (fun x h=>absurd h (by decide)) (fun x w hm hS=>⟨rfl,rfl,rfl⟩)) ?_;refine q2y4.All.step rfl (q2y4.Does.pure (val:=fun x=>(.slice (gA x) n (gC x))) rfl (fun x h=>absurd h (by decide)) (fun x w hm hS=>⟨rfl,rfl,rfl⟩)) ?_;refine q2y4.All.step rfl (q2y4.Does.pure (val:=fun x=>(.int .i64 k)) rfl (fun x h=>absurd h (by decide)) (fun x w hm hS=>⟨rfl,rfl,rfl⟩)) ?_;refine q2y4.All.step rfl (q2y4.Does.pure (val:=fun x=>(.int .i64 f)) rfl (fun x h=>absurd h (by decide)) (fun x w hm hS=>⟨rfl,rfl,rfl⟩)) ?_;refine q2y4.All.step rfl (q2y4.Does.pure (val:=fun x=>(.slice (gA x) n (gC x))) rfl (fun x h=>absurd h (by decide)) (fun x w hm hS=>⟨rfl,rfl,rfl⟩)) ?_;refine q2y4.All.step rfl (q2y4.Does.pure (val:=fun x=>(.int .i64 k)) rfl (fun x h=>absurd h (by decide)) (fun x w hm hS=>⟨rfl,rfl,rfl⟩)) ?_;refine q2y4.All.step rfl (q2y4.Does.pure (val:=fun x=>(.int .i64 f)) rfl (fun x h=>absurd h (by decide)) (fun x w hm hS=>⟨rfl,rfl,rfl⟩)) ?_;exact q2y4.All.fin rfl
section
variable{a:Act}{w:World}{d:Option Tmp}{p:String}{af:Array Edge}{gd:Option (Nat×Bool)}{x y z:Tmp}{r:TypeId}
theorem qxwk{g:Nat}(hx:a.eval (.tmp x)=.pointer (some ⟨g,0,none⟩)) :
 (execOp a.eval {dst:=d,op := .fieldAddr 179 (.tmp x) 0,type:=r,pos:=p,after:=af,guard:=gd}).run prog w=.ok (.value (.pointer (some ⟨g,0,none⟩))) w:=by
 generalize a.eval=f at *;go_simp
theorem qswu{g j:Nat}{q:Option Addr}(hx:a.eval (.tmp x)=.pointer (some ⟨g,j,none⟩))(hc:w.cell? ⟨g,j,none⟩=some (.pointer q)) :
 (execOp a.eval {dst:=d,op := .load 84 (.tmp x),type:=84,pos:=p,after:=af,guard:=gd}).run prog w=.ok (.value (.pointer q)) w:=by
 generalize a.eval=f at *;go_simp
end
theorem qf2v{Q:Exit->Act->World->Prop}{S:Nat->World->Prop}{W:World}{B cb:Nat}{n:Int}{t:ByteArray}{x0 x2 x3 x4 x5 x6 x7 x8 x9 x10 x11 x12 x13 x14 x15 x16 x17 x18 x19 x20 x21 x22 x23 x24 x25:Value}
 (hS:S 0 W.drew) (K0:∀x w,S x w->w.cell? ⟨B,0,none⟩=some (.pointer (some ⟨cb,0,none⟩)))
 (H0:∀w,S 0 w->Calls prog 84 #[(.pointer (some ⟨cb,0,none⟩))] w fun e w'=>e=.returned (.int .i64 n)/\S 1 w')
 (H1:∀w,S 1 w->Calls prog 53 #[(.pointer (some ⟨cb,0,none⟩)),.int .i64 n] w fun e w'=>e=.returned (.string t)/\S 2 w')
 (fin:∀w,S 2 w->Q .normal ⟨#[x0,(.pointer (some ⟨B,0,none⟩)),x2,x3,(.string t),x5,(.pointer (some ⟨B,0,none⟩)),(.pointer (some ⟨cb,0,none⟩)),(.pointer (some ⟨B,0,none⟩)),(.pointer (some ⟨cb,0,none⟩)),(.int .i64 n),(.string t),x12,x13,x14,x15,x16,x17,x18,x19,x20,x21,x22,x23,x24,x25],[]⟩ w) :
 (Code.region 2 (qfhu.opsAt 2 Tryz.f182.body) true).wp prog Q ⟨#[x0,(.pointer (some ⟨B,0,none⟩)),x2,x3,x4,x5,x6,x7,x8,x9,x10,x11,x12,x13,x14,x15,x16,x17,x18,x19,x20,x21,x22,x23,x24,x25],[]⟩ W:=by
 refine qu7n.wp (fresh:=fun i x=>(i=4->x=0)/\(i=5->x<=1)) (hf0:=fun i=>⟨fun _=>rfl,fun _=>Nat.zero_le _⟩) (x:=0) (S:=S) (made:=fun i x=>(i=4->1<=x)/\(i=5->x=2)) (war:=[]) (ds:=[6,7,8,9,10,11,4]) (A:=[x0,(.pointer (some ⟨B,0,none⟩)),x2,x3,x4,x5,x6,x7,x8,x9,x10,x11,x12,x13,x14,x15,x16,x17,x18,x19,x20,x21,x22,x23,x24,x25]) (B:=fun _=>[x0,(.pointer (some ⟨B,0,none⟩)),x2,x3,(.string t),x5,(.pointer (some ⟨B,0,none⟩)),(.pointer (some ⟨cb,0,none⟩)),(.pointer (some ⟨B,0,none⟩)),(.pointer (some ⟨cb,0,none⟩)),(.int .i64 n),(.string t),x12,x13,x14,x15,x16,x17,x18,x19,x20,x21,x22,x23,x24,x25]) (D:=[]) (by kernel_rfl) (by kernel_rfl) (by kernel_rfl) ?_ hS ?_ (fun x w hm hS=>fin w (by have h:=(hm 5 (by decide)).2 rfl;rw[<-h];exact hS))
 ·exact fun x=>(by repeat (first|exact trivial|refine⟨.inr rfl,?_⟩|refine⟨.inl rfl,?_⟩))
 refine q2y4.All.step rfl (qu7n.Does.pure (val:=fun x=>(.pointer (some ⟨B,0,none⟩))) rfl (fun x=>⟨fun h=>absurd h (by decide),fun h=>absurd h (by decide)⟩) (fun x w hm hS=>⟨rfl,rfl,qxwk rfl⟩)) ?_;refine q2y4.All.step rfl (qu7n.Does.pure (val:=fun x=>(.pointer (some ⟨cb,0,none⟩))) rfl (fun x=>⟨fun h=>absurd h (by decide),fun h=>absurd h (by decide)⟩) (fun x w hm hS=>⟨rfl,rfl,qswu rfl (K0 x w hS)⟩)) ?_;refine q2y4.All.step rfl (qu7n.Does.pure (val:=fun x=>(.pointer (some ⟨B,0,none⟩))) rfl (fun x=>⟨fun h=>absurd h (by decide),fun h=>absurd h (by decide)⟩) (fun x w hm hS=>⟨rfl,rfl,qxwk rfl⟩)) ?_;refine q2y4.All.step rfl (qu7n.Does.pure (val:=fun x=>(.pointer (some ⟨cb,0,none⟩))) rfl (fun x=>⟨fun h=>absurd h (by decide),fun h=>absurd h (by decide)⟩) (fun x w hm hS=>⟨rfl,rfl,qswu rfl (K0 x w hS)⟩)) ?_;refine q2y4.All.step rfl (fun x w hp hf hS => .inl ⟨rfl,.call _ _ (qpjl.enter1 func84 rfl rfl) (by obtain rfl:x=0:=hf.1 rfl;exact(H0 w hS).mono fun e w' ⟨he,h1⟩=>⟨_,1,he,(fun d hd=>by cases hd;rfl),h1,⟨fun _=>Nat.le_refl _,fun h=>absurd h (by decide)⟩,(fun i h=>⟨fun _=>Nat.le_refl _,fun e=>absurd (h.2 e) (by decide)⟩),(fun i hi _=>⟨fun e=>absurd e hi,fun _=>Nat.le_refl _⟩),[],rfl,q2y4.off_refl 0 _⟩)⟩) ?_
 refine q2y4.All.step rfl (fun x w hp hf hS => .inl ⟨rfl,.call _ _ (qpjl.enter2 func53 rfl rfl rfl) (by
  have h1:1<=x:=(hp 4 (by decide+kernel) (by decide)).1 rfl;have h2:x<=1:=hf.2 rfl;obtain rfl:x=1:=by omega
  exact(H1 w hS).mono fun e w' ⟨he,h1⟩=>⟨_,2,he,(fun d hd=>by cases hd;rfl),h1,⟨fun h=>absurd h (by decide),fun _=>rfl⟩,(fun i _=>⟨fun _=>by decide,fun _=>rfl⟩),(fun i hi h=>⟨fun e=>absurd (h.1 e) (by decide),fun e=>absurd e hi⟩),[],rfl,q2y4.off_refl 0 _⟩)⟩) ?_
 refine q2y4.All.step rfl (qu7n.Does.pure (val:=fun x=>(.string t)) rfl (fun x=>⟨fun h=>absurd h (by decide),fun h=>absurd h (by decide)⟩) (fun x w hm hS=>⟨rfl,rfl,rfl⟩)) ?_;exact q2y4.All.fin rfl
def XG:=Bool×Option Nat×Bool
def xn(x:XG):Bool:=x.1
def xa(x:XG):Option Nat:=x.2.1
def xg(x:XG):Nat:=x.2.1.getD 0
def xs(x:XG):Bool:=x.2.2
section
variable{a:Act}{w:World}{d:Option Tmp}{p:String}{af:Array Edge}{gd:Option (Nat×Bool)}{x y z:Tmp}{r:TypeId}
theorem q0mg:(execOp a.eval {dst:=d,op := .alloc 38,type:=r,pos:=p,after:=af,guard:=gd}).run prog w=.ok (.value (.pointer (some ⟨w.heap.size,0,none⟩))) (w.alloc (.cells pkZ 38)):=by have hzv:=qrai w;generalize a.eval=f at *;go_simp
theorem q654{n:Int}(hx:a.eval (.tmp x)=.int .u64 n)(h0:0<=n)(h1:n<65536) :
 (execOp a.eval {dst:=d,op := .convert 86 3 (.tmp x),type:=3,pos:=p,after:=af,guard:=gd}).run prog w=.ok (.value (.int .i64 n)) w:=by
 generalize a.eval=f at *;go_simp;rw[IntKind.wrap_i64];omega
theorem quib{D:Array Value}{k i:Int}(hx:a.eval (.tmp x)=.int .i64 k)(hy:a.eval (.tmp y)=.int .i64 i)(hD:pkC {Pk.zero with kind:=k,id:=i} adZ=D) :
 (execOp a.eval {dst:=d,op := .build 38 #[(0,.tmp x),(4,.tmp y)],type:=38,pos:=p,after:=af,guard:=gd}).run prog w=.ok (.value (.agg D)) w:=by
 generalize a.eval=f at *;go_simp;exact hD
theorem q2e0{g:Nat}{D old:Array Value}(hx:a.eval (.tmp x)=.pointer (some ⟨g,0,none⟩))(hy:a.eval (.tmp y)=.agg D)(hD:D.size=25)(h1:D.all (·.oneCell')=true)(hg:w.heap[g]?=some (.cells old 38 (0,0)))(ho:old.size=25) :
 (execOp a.eval {dst:=d,op := .store 38 (.tmp x) (.tmp y),type:=r,pos:=p,after:=af,guard:=gd}).run prog w=.ok .skip (w.setRow g D):=by
 unfold execOp;simp only[hx,hy,Instr.storeAt,Instr.sureAddr,Sem.run_bind,Sem.run_pure,Result.andThen_ok,run_storeVar_row w g 38 38 old D hg (by rw[hD];exact q5nr) (by rw[ho,hD]) h1]
end
theorem q3p3{Q:Exit->Act->World->Prop}{S:XG->World->Prop}{W:World}{B cb:Nat}{kind i:Int}{D:Array Value}{x0 x2 x3 x4 x5 x6 x7 x8 x9 x10 x11 x12 x13 x14 x15 x16 x17 x18 x19 x20 x21 x22 x23:Value}
 (hS:S (false,none,false) W.drew) (hD:D.size=25) (hD1:D.all (·.oneCell')=true) (hDb:pkC {Pk.zero with kind:=kind,id:=i} adZ=D) (i0:0<=i) (i1:i<65536)
 (K0:∀x w,S x w->w.cell? ⟨B,0,none⟩=some (.pointer (some ⟨cb,0,none⟩))) (K2:∀x w,S x w->w.cell? ⟨B,2,none⟩=some (.int .i64 kind))
 (H0:∀g w,S (false,g,false) w->Calls prog 41 #[(.pointer (some ⟨cb,0,none⟩)),.int .i64 2] w fun e w'=>e=.returned (.int .u64 i)/\S (true,g,false) w')
 (H1:∀n w,S (n,none,false) w->S (n,some w.heap.size,false) (w.alloc (.cells pkZ 38)))
 (H2:∀g w,S (true,some g,false) w->w.heap[g]?=some (.cells pkZ 38 (0,0))/\S (true,some g,true) (w.setRow g D))
 (fin:∀g w,S (true,some g,true) w->Q .normal ⟨#[x0,(.pointer (some ⟨B,0,none⟩)),x2,(.pointer (some ⟨g,0,none⟩)),(.pointer (some ⟨B,2,none⟩)),(.int .i64 kind),(.pointer (some ⟨B,0,none⟩)),(.pointer (some ⟨cb,0,none⟩)),(.int .u64 i),(.int .i64 i),(.agg D),x11,x12,x13,x14,x15,x16,x17,x18,x19,x20,x21,x22,x23],[]⟩ w) :
 (Code.region 1 (qfhu.opsAt 1 Tryz.f142.body) true).wp prog Q ⟨#[x0,(.pointer (some ⟨B,0,none⟩)),x2,x3,x4,x5,x6,x7,x8,x9,x10,x11,x12,x13,x14,x15,x16,x17,x18,x19,x20,x21,x22,x23],[]⟩ W:=by
 refine qu7n.wp (fresh:=fun i x=>(i=4->xn x=false)/\(i=7->xa x=none)/\(i<=8->i=4\/i=7\/i=8->xs x=false)) (hf0:=fun i=>⟨fun _=>rfl,fun _=>rfl,fun _ _=>rfl⟩) (x:=(false,none,false)) (S:=S) (made:=fun i x=>(i=4->xn x=true)/\(i=7->(xa x).isSome=true)/\(i=8->xs x=true)) (war:=[]) (ds:=[4,5,6,7,8,9,10,3]) (A:=[x0,(.pointer (some ⟨B,0,none⟩)),x2,x3,x4,x5,x6,x7,x8,x9,x10,x11,x12,x13,x14,x15,x16,x17,x18,x19,x20,x21,x22,x23]) (B:=fun x=>[x0,(.pointer (some ⟨B,0,none⟩)),x2,(.pointer (some ⟨xg x,0,none⟩)),(.pointer (some ⟨B,2,none⟩)),(.int .i64 kind),(.pointer (some ⟨B,0,none⟩)),(.pointer (some ⟨cb,0,none⟩)),(.int .u64 i),(.int .i64 i),(.agg D),x11,x12,x13,x14,x15,x16,x17,x18,x19,x20,x21,x22,x23]) (D:=[]) (by kernel_rfl) (by kernel_rfl) (by kernel_rfl) ?_ hS ?_ (fun x w hm hS=>by obtain⟨n,g,s⟩:=x;obtain rfl:n=true:=(hm 4 (by decide)).1 rfl;obtain⟨g,rfl⟩:=Option.isSome_iff_exists.1 ((hm 7 (by decide)).2.1 rfl:g.isSome=true);obtain rfl:s=true:=(hm 8 (by decide)).2.2 rfl;exact fin g w hS)
 ·exact fun x=>(by repeat (first|exact trivial|refine⟨.inr rfl,?_⟩|refine⟨.inl rfl,?_⟩))
 refine q2y4.All.step rfl (qu7n.Does.pure (val:=fun x=>(.pointer (some ⟨B,2,none⟩))) rfl (fun x=>⟨fun h=>absurd h (by decide),fun h=>absurd h (by decide),fun h=>absurd h (by decide)⟩) (fun x w hm hS=>⟨rfl,rfl,qxjc rfl⟩)) ?_;refine q2y4.All.step rfl (qu7n.Does.pure (val:=fun x=>(.int .i64 kind)) rfl (fun x=>⟨fun h=>absurd h (by decide),fun h=>absurd h (by decide),fun h=>absurd h (by decide)⟩) (fun x w hm hS=>⟨rfl,rfl,qkcv rfl (K2 x w hS)⟩)) ?_;refine q2y4.All.step rfl (qu7n.Does.pure (val:=fun x=>(.pointer (some ⟨B,0,none⟩))) rfl (fun x=>⟨fun h=>absurd h (by decide),fun h=>absurd h (by decide),fun h=>absurd h (by decide)⟩) (fun x w hm hS=>⟨rfl,rfl,qxwk rfl⟩)) ?_;refine q2y4.All.step rfl (qu7n.Does.pure (val:=fun x=>(.pointer (some ⟨cb,0,none⟩))) rfl (fun x=>⟨fun h=>absurd h (by decide),fun h=>absurd h (by decide),fun h=>absurd h (by decide)⟩) (fun x w hm hS=>⟨rfl,rfl,qswu rfl (K0 x w hS)⟩)) ?_;refine q2y4.All.step rfl (fun x w hp hf hS => .inl ⟨rfl,.call _ _ (qpjl.enter2 func41 rfl rfl rfl) (by obtain⟨n,g,s⟩:=x;obtain rfl:n=false:=hf.1 rfl;obtain rfl:s=false:=hf.2.2 (by decide) (by decide);exact(H0 g w hS).mono fun e w' ⟨he,h1⟩=>⟨_,(true,g,false),he,(fun d hd=>by cases hd;rfl),h1,⟨fun _=>rfl,fun h=>absurd h (by decide),fun h=>absurd h (by decide)⟩,(fun i h=>⟨fun _=>rfl,h.2.1,h.2.2⟩),(fun i hi h=>⟨fun e=>absurd e hi,h.2.1,h.2.2⟩),[],rfl,q2y4.off_refl 0 _⟩)⟩) ?_
 refine q2y4.All.step rfl (qu7n.Does.pure (val:=fun x=>(.int .i64 i)) rfl (fun x=>⟨fun h=>absurd h (by decide),fun h=>absurd h (by decide),fun h=>absurd h (by decide)⟩) (fun x w hm hS=>⟨rfl,rfl,q654 rfl i0 i1⟩)) ?_;refine q2y4.All.step rfl (qu7n.Does.pure (val:=fun x=>(.agg D)) rfl (fun x=>⟨fun h=>absurd h (by decide),fun h=>absurd h (by decide),fun h=>absurd h (by decide)⟩) (fun x w hm hS=>⟨rfl,rfl,quib rfl rfl hDb⟩)) ?_;refine q2y4.All.step rfl (fun x w hp hf hS => .inl ⟨rfl,.value _ (xn x,some w.heap.size,false) _ q0mg (by obtain⟨n,g,s⟩:=x;obtain rfl:g=none:=hf.2.1 rfl;obtain rfl:s=false:=hf.2.2 (by decide) (by decide);exact⟨(fun d hd=>by cases hd;rfl),H1 n w hS,⟨fun h=>absurd h (by decide),fun _=>rfl,fun h=>absurd h (by decide)⟩,(fun i h=>⟨h.1,fun _=>rfl,h.2.2⟩),(fun i hi h=>⟨h.1,fun e=>absurd e hi,h.2.2⟩),[3],by kernel_rfl,(by repeat (first|exact trivial|refine⟨.inr rfl,?_⟩|refine⟨.inl rfl,?_⟩))⟩)⟩) ?_
 refine q2y4.All.step rfl (fun x w hp hf hS=>by
  obtain⟨n,g,s⟩:=x;obtain rfl:n=true:=(hp 4 (by decide+kernel) (by decide)).1 rfl;obtain⟨g,rfl⟩:=Option.isSome_iff_exists.1 ((hp 7 (by decide+kernel) (by decide)).2.1 rfl:g.isSome=true);obtain rfl:s=false:=hf.2.2 (by decide) (by decide);obtain⟨h1,h2⟩:=H2 g w hS;exact .inl ⟨rfl,.skip (true,some g,true) _ (q2e0 rfl rfl hD hD1 h1 qbwp) ⟨(fun d hd=>by cases hd),h2,⟨fun _=>rfl,fun _=>rfl,fun _=>rfl⟩,(fun i h=>⟨fun _=>rfl,fun _=>rfl,fun _=>rfl⟩),(fun i hi h=>⟨h.1,h.2.1,fun _ e=>by
   rcases e with rfl|rfl|rfl
   ·exact absurd (h.1 rfl) (by simp[xn])
   ·exact absurd (h.2.1 rfl) (by simp[xa])
   ·exact absurd rfl hi⟩),[],rfl,q2y4.off_refl 0 _⟩⟩) ?_
 exact q2y4.All.fin rfl
section
variable{a:Act}{w:World}{d:Option Tmp}{p:String}{af:Array Edge}{gd:Option (Nat×Bool)}{x y z:Tmp}{r:TypeId}{ts:Array TypeId}
theorem qxyk{g:Nat}(hx:a.eval (.tmp x)=.pointer (some ⟨g,0,none⟩)) :
 (execOp a.eval {dst:=d,op := .fieldAddr 38 (.tmp x) 18,type:=r,pos:=p,after:=af,guard:=gd}).run prog w=.ok (.value (.pointer (some ⟨g,22,none⟩))) w:=by
 generalize a.eval=f at *;go_simp
theorem qvcr{g:Nat}(hx:a.eval (.tmp x)=.pointer (some ⟨g,0,none⟩)) :
 (execOp a.eval {dst:=d,op := .fieldAddr 38 (.tmp x) 19,type:=r,pos:=p,after:=af,guard:=gd}).run prog w=.ok (.value (.pointer (some ⟨g,23,none⟩))) w:=by
 generalize a.eval=f at *;go_simp
theorem qag2{g j n c:Nat}{A:Option Addr}(hx:a.eval (.tmp x)=.pointer (some ⟨g,j,none⟩))(hc:w.cell? ⟨g,j,none⟩=some (.slice A n c)) :
 (execOp a.eval {dst:=d,op := .load 35 (.tmp x),type:=35,pos:=p,after:=af,guard:=gd}).run prog w=.ok (.value (.slice A n c)) w:=by
 generalize a.eval=f at *;go_simp
theorem qdeq{g j n c:Nat}{A:Option Addr}(hx:a.eval (.tmp x)=.pointer (some ⟨g,j,none⟩))(hc:w.cell? ⟨g,j,none⟩=some (.slice A n c)) :
 (execOp a.eval {dst:=d,op := .load 36 (.tmp x),type:=36,pos:=p,after:=af,guard:=gd}).run prog w=.ok (.value (.slice A n c)) w:=by
 generalize a.eval=f at *;go_simp
theorem qki8{n c:Nat}{A:Option Addr}(hx:a.eval (.tmp x)=.slice A n c) :
 (execOp a.eval {dst:=d,op := .call {callee := .builtin .len,args:=#[.tmp x],argTypes:=#[35]},type:=r,pos:=p,after:=af,guard:=gd}).run prog w=.ok (.value (.int .i64 (n:Nat))) w:=by
 generalize a.eval=f at *;go_simp
theorem q73a{n c:Nat}{A:Option Addr}(hx:a.eval (.tmp x)=.slice A n c) :
 (execOp a.eval {dst:=d,op := .call {callee := .builtin .len,args:=#[.tmp x],argTypes:=#[36]},type:=r,pos:=p,after:=af,guard:=gd}).run prog w=.ok (.value (.int .i64 (n:Nat))) w:=by
 generalize a.eval=f at *;go_simp
theorem qvpr{n:Nat}{b:Bool}(h:decide (0<n)=b):decide ((0:Int)<(n:Int))=b:=by rw[<-h,decide_eq_decide];omega
end
theorem qhgg{Q:Exit->Act->World->Prop}{S:World->Prop}{W:World}{B nc nf cc fc:Nat}{v k i:Int}{C D:Array Value}{b s:Bool}{ac af:Option Addr}{x1 x2 x5 x6 x7 x8 x9 x10 x11 x12 x13 x14 x15 x16 x17 x18 x19 x20 x21 x22 x23 x24 x25 x26 x27 x28 x29 x30 x31 x32 x33 x34 x35 x36 x37 x38 x39 x40 x41 x42 x43:Value}
 (hS:S W.drew)
 (hC:C.size=25) (KC:∀w,S w->w.heap[B]?=some (.cells C 38 (0,0))) (K0:∀w,S w->w.cell? ⟨B,0,none⟩=some (.int .i64 k)) (K4:∀w,S w->w.cell? ⟨B,4,none⟩=some (.int .i64 i))
 (K22:∀w,S w->w.cell? ⟨B,22,none⟩=some (.slice ac nc cc)) (K23:∀w,S w->w.cell? ⟨B,23,none⟩=some (.slice af nf fc))
 (H0:∀w,S w->Calls prog 141 #[.int .i64 v,.int .i64 k] w fun e w'=>e=.returned (.bool (versC v&&qfws k))/\S w')
 (H1:∀w,S w->Calls prog 217 #[.int .i64 v,.int .i64 k] w fun e w'=>e=.returned (.bool b)/\S w')
 (H2:∀w,S w->Calls prog 218 #[.int .i64 v,.agg C] w fun e w'=>e=.returned (.agg D)/\S w')
 (H3:∀w,S w->Calls prog 162 #[.agg C,.agg D] w fun e w'=>e=.returned (.bool s)/\S w')
 (fin:∀(r:Bool) (w:World),((versC v&&qfws k)&&(decide (0<i))&&(decide (i<=65535))&&((decide (0<nf)) || (decide (0<nc)) || b)&&s)=r->S w->∀x5 x6 x7 x8 x9 x10 x11 x12 x13 x14 x15 x16 x17 x18 x19 x20 x21 x22 x23 x24 x25 x26 x27 x28 x29 x30 x31 x32 x33 x34 x35 x36 x37 x38 x39 x40 x41 x42 x43,Q .normal ⟨#[(.int .i64 v),x1,x2,(.pointer (some ⟨B,0,none⟩)),(.bool r),x5,x6,x7,x8,x9,x10,x11,x12,x13,x14,x15,x16,x17,x18,x19,x20,x21,x22,x23,x24,x25,x26,x27,x28,x29,x30,x31,x32,x33,x34,x35,x36,x37,x38,x39,x40,x41,x42,x43],[]⟩ w) :
 (Code.region 1 (qfhu.opsAt 1 Tryz.f174.body) true).wp prog Q ⟨#[(.int .i64 v),x1,x2,(.pointer (some ⟨B,0,none⟩)),(.bool false),x5,x6,x7,x8,x9,x10,x11,x12,x13,x14,x15,x16,x17,x18,x19,x20,x21,x22,x23,x24,x25,x26,x27,x28,x29,x30,x31,x32,x33,x34,x35,x36,x37,x38,x39,x40,x41,x42,x43],[]⟩ W:=by
 obtain⟨d0,ed0⟩:∃d,(versC v&&qfws k)=d:=⟨_,rfl⟩
 obtain⟨d1,ed1⟩:∃d,(decide (0<i))=d:=⟨_,rfl⟩
 obtain⟨d2,ed2⟩:∃d,(decide (i<=65535))=d:=⟨_,rfl⟩
 obtain⟨c0,ec0⟩:∃d,(decide (0<nf))=d:=⟨_,rfl⟩
 obtain⟨c1,ec1⟩:∃d,(decide (0<nc))=d:=⟨_,rfl⟩
 obtain⟨c2,ec2⟩:∃d,(b)=d:=⟨_,rfl⟩
 obtain⟨d4,ed4⟩:∃d,(s)=d:=⟨_,rfl⟩
 rw[ed0,ed1,ed2,ec0,ec1,ec2,ed4] at fin;rw[ed0] at H0;rw[ec2] at H1;rw[ed4] at H3;cases d0
 case' false=>refine qfhu.wp_in (ds:=[5,6,7,8,9,10,11,12,13,14,15,16,17,18,19,20,21,22,23,24,25,26,27,28,29,30,31,32,33,34,35,36,37,38,39,40,41,42,43,4]) (B:=[(.int .i64 v),x1,x2,(.pointer (some ⟨B,0,none⟩)),(.bool false),(.int .i64 v),(.pointer (some ⟨B,0,none⟩)),(.int .i64 k),(.bool false),(.bool false),undef,undef,undef,(.bool false),(.bool false),undef,undef,undef,(.bool false),(.bool false),undef,undef,undef,undef,undef,undef,undef,undef,undef,undef,undef,undef,undef,undef,undef,undef,(.bool false),(.bool false),undef,undef,undef,undef,undef,(.bool false)]) (D:=[]) (by kernel_rfl) (by kernel_rfl) (by kernel_rfl) ?_ hS ?_ (fun w hS=>fin false w rfl hS _ _ _ _ _ _ _ _ _ _ _ _ _ _ _ _ _ _ _ _ _ _ _ _ _ _ _ _ _ _ _ _ _ _ _ _ _ _ _)
 case' true=>
  cases d1
  case' false=>refine qfhu.wp_in (ds:=[5,6,7,8,9,10,11,12,13,14,15,16,17,18,19,20,21,22,23,24,25,26,27,28,29,30,31,32,33,34,35,36,37,38,39,40,41,42,43,4]) (B:=[(.int .i64 v),x1,x2,(.pointer (some ⟨B,0,none⟩)),(.bool false),(.int .i64 v),(.pointer (some ⟨B,0,none⟩)),(.int .i64 k),(.bool true),(.bool true),(.pointer (some ⟨B,4,none⟩)),(.int .i64 i),(.bool false),(.bool false),(.bool false),undef,undef,undef,(.bool false),(.bool false),undef,undef,undef,undef,undef,undef,undef,undef,undef,undef,undef,undef,undef,undef,undef,undef,(.bool false),(.bool false),undef,undef,undef,undef,undef,(.bool false)]) (D:=[]) (by kernel_rfl) (by kernel_rfl) (by kernel_rfl) ?_ hS ?_ (fun w hS=>fin false w rfl hS _ _ _ _ _ _ _ _ _ _ _ _ _ _ _ _ _ _ _ _ _ _ _ _ _ _ _ _ _ _ _ _ _ _ _ _ _ _ _)
  case' true=>
   cases d2
   case' false=>refine qfhu.wp_in (ds:=[5,6,7,8,9,10,11,12,13,14,15,16,17,18,19,20,21,22,23,24,25,26,27,28,29,30,31,32,33,34,35,36,37,38,39,40,41,42,43,4]) (B:=[(.int .i64 v),x1,x2,(.pointer (some ⟨B,0,none⟩)),(.bool false),(.int .i64 v),(.pointer (some ⟨B,0,none⟩)),(.int .i64 k),(.bool true),(.bool true),(.pointer (some ⟨B,4,none⟩)),(.int .i64 i),(.bool true),(.bool true),(.bool true),(.pointer (some ⟨B,4,none⟩)),(.int .i64 i),(.bool false),(.bool false),(.bool false),undef,undef,undef,undef,undef,undef,undef,undef,undef,undef,undef,undef,undef,undef,undef,undef,(.bool false),(.bool false),undef,undef,undef,undef,undef,(.bool false)]) (D:=[]) (by kernel_rfl) (by kernel_rfl) (by kernel_rfl) ?_ hS ?_ (fun w hS=>fin false w rfl hS _ _ _ _ _ _ _ _ _ _ _ _ _ _ _ _ _ _ _ _ _ _ _ _ _ _ _ _ _ _ _ _ _ _ _ _ _ _ _)
   case' true=>
    cases c0
    case' false=>
     cases c1
     case' false=>
      cases c2
      case' false=>refine qfhu.wp_in (ds:=[5,6,7,8,9,10,11,12,13,14,15,16,17,18,19,20,21,22,23,24,25,26,27,28,29,30,31,32,33,34,35,36,37,38,39,40,41,42,43,4]) (B:=[(.int .i64 v),x1,x2,(.pointer (some ⟨B,0,none⟩)),(.bool false),(.int .i64 v),(.pointer (some ⟨B,0,none⟩)),(.int .i64 k),(.bool true),(.bool true),(.pointer (some ⟨B,4,none⟩)),(.int .i64 i),(.bool true),(.bool true),(.bool true),(.pointer (some ⟨B,4,none⟩)),(.int .i64 i),(.bool true),(.bool true),(.bool true),(.pointer (some ⟨B,23,none⟩)),(.slice af nf fc),(.int .i64 (nf:Nat)),(.bool false),(.bool false),(.pointer (some ⟨B,22,none⟩)),(.slice ac nc cc),(.int .i64 (nc:Nat)),(.bool false),(.bool false),(.bool false),(.int .i64 v),(.pointer (some ⟨B,0,none⟩)),(.int .i64 k),(.bool false),(.bool false),(.bool false),(.bool false),undef,undef,undef,undef,undef,(.bool false)]) (D:=[]) (by kernel_rfl) (by kernel_rfl) (by kernel_rfl) ?_ hS ?_ (fun w hS=>fin false w rfl hS _ _ _ _ _ _ _ _ _ _ _ _ _ _ _ _ _ _ _ _ _ _ _ _ _ _ _ _ _ _ _ _ _ _ _ _ _ _ _)
      case' true=>
       cases d4
       case' false=>refine qfhu.wp_in (ds:=[5,6,7,8,9,10,11,12,13,14,15,16,17,18,19,20,21,22,23,24,25,26,27,28,29,30,31,32,33,34,35,36,37,38,39,40,41,42,43,4]) (B:=[(.int .i64 v),x1,x2,(.pointer (some ⟨B,0,none⟩)),(.bool false),(.int .i64 v),(.pointer (some ⟨B,0,none⟩)),(.int .i64 k),(.bool true),(.bool true),(.pointer (some ⟨B,4,none⟩)),(.int .i64 i),(.bool true),(.bool true),(.bool true),(.pointer (some ⟨B,4,none⟩)),(.int .i64 i),(.bool true),(.bool true),(.bool true),(.pointer (some ⟨B,23,none⟩)),(.slice af nf fc),(.int .i64 (nf:Nat)),(.bool false),(.bool false),(.pointer (some ⟨B,22,none⟩)),(.slice ac nc cc),(.int .i64 (nc:Nat)),(.bool false),(.bool false),(.bool false),(.int .i64 v),(.pointer (some ⟨B,0,none⟩)),(.int .i64 k),(.bool true),(.bool true),(.bool true),(.bool true),(.agg C),(.int .i64 v),(.agg C),(.agg D),(.bool false),(.bool false)]) (D:=[]) (by kernel_rfl) (by kernel_rfl) (by kernel_rfl) ?_ hS ?_ (fun w hS=>fin false w rfl hS _ _ _ _ _ _ _ _ _ _ _ _ _ _ _ _ _ _ _ _ _ _ _ _ _ _ _ _ _ _ _ _ _ _ _ _ _ _ _)
       case' true=>refine qfhu.wp_in (ds:=[5,6,7,8,9,10,11,12,13,14,15,16,17,18,19,20,21,22,23,24,25,26,27,28,29,30,31,32,33,34,35,36,37,38,39,40,41,42,43,4]) (B:=[(.int .i64 v),x1,x2,(.pointer (some ⟨B,0,none⟩)),(.bool true),(.int .i64 v),(.pointer (some ⟨B,0,none⟩)),(.int .i64 k),(.bool true),(.bool true),(.pointer (some ⟨B,4,none⟩)),(.int .i64 i),(.bool true),(.bool true),(.bool true),(.pointer (some ⟨B,4,none⟩)),(.int .i64 i),(.bool true),(.bool true),(.bool true),(.pointer (some ⟨B,23,none⟩)),(.slice af nf fc),(.int .i64 (nf:Nat)),(.bool false),(.bool false),(.pointer (some ⟨B,22,none⟩)),(.slice ac nc cc),(.int .i64 (nc:Nat)),(.bool false),(.bool false),(.bool false),(.int .i64 v),(.pointer (some ⟨B,0,none⟩)),(.int .i64 k),(.bool true),(.bool true),(.bool true),(.bool true),(.agg C),(.int .i64 v),(.agg C),(.agg D),(.bool true),(.bool true)]) (D:=[]) (by kernel_rfl) (by kernel_rfl) (by kernel_rfl) ?_ hS ?_ (fun w hS=>fin true w rfl hS _ _ _ _ _ _ _ _ _ _ _ _ _ _ _ _ _ _ _ _ _ _ _ _ _ _ _ _ _ _ _ _ _ _ _ _ _ _ _)
     case' true=>
      cases d4
      case' false=>refine qfhu.wp_in (ds:=[5,6,7,8,9,10,11,12,13,14,15,16,17,18,19,20,21,22,23,24,25,26,27,28,29,30,31,32,33,34,35,36,37,38,39,40,41,42,43,4]) (B:=[(.int .i64 v),x1,x2,(.pointer (some ⟨B,0,none⟩)),(.bool false),(.int .i64 v),(.pointer (some ⟨B,0,none⟩)),(.int .i64 k),(.bool true),(.bool true),(.pointer (some ⟨B,4,none⟩)),(.int .i64 i),(.bool true),(.bool true),(.bool true),(.pointer (some ⟨B,4,none⟩)),(.int .i64 i),(.bool true),(.bool true),(.bool true),(.pointer (some ⟨B,23,none⟩)),(.slice af nf fc),(.int .i64 (nf:Nat)),(.bool false),(.bool false),(.pointer (some ⟨B,22,none⟩)),(.slice ac nc cc),(.int .i64 (nc:Nat)),(.bool true),(.bool true),(.bool true),undef,undef,undef,undef,(.bool true),(.bool true),(.bool true),(.agg C),(.int .i64 v),(.agg C),(.agg D),(.bool false),(.bool false)]) (D:=[]) (by kernel_rfl) (by kernel_rfl) (by kernel_rfl) ?_ hS ?_ (fun w hS=>fin false w rfl hS _ _ _ _ _ _ _ _ _ _ _ _ _ _ _ _ _ _ _ _ _ _ _ _ _ _ _ _ _ _ _ _ _ _ _ _ _ _ _)
      case' true=>refine qfhu.wp_in (ds:=[5,6,7,8,9,10,11,12,13,14,15,16,17,18,19,20,21,22,23,24,25,26,27,28,29,30,31,32,33,34,35,36,37,38,39,40,41,42,43,4]) (B:=[(.int .i64 v),x1,x2,(.pointer (some ⟨B,0,none⟩)),(.bool true),(.int .i64 v),(.pointer (some ⟨B,0,none⟩)),(.int .i64 k),(.bool true),(.bool true),(.pointer (some ⟨B,4,none⟩)),(.int .i64 i),(.bool true),(.bool true),(.bool true),(.pointer (some ⟨B,4,none⟩)),(.int .i64 i),(.bool true),(.bool true),(.bool true),(.pointer (some ⟨B,23,none⟩)),(.slice af nf fc),(.int .i64 (nf:Nat)),(.bool false),(.bool false),(.pointer (some ⟨B,22,none⟩)),(.slice ac nc cc),(.int .i64 (nc:Nat)),(.bool true),(.bool true),(.bool true),undef,undef,undef,undef,(.bool true),(.bool true),(.bool true),(.agg C),(.int .i64 v),(.agg C),(.agg D),(.bool true),(.bool true)]) (D:=[]) (by kernel_rfl) (by kernel_rfl) (by kernel_rfl) ?_ hS ?_ (fun w hS=>fin true w rfl hS _ _ _ _ _ _ _ _ _ _ _ _ _ _ _ _ _ _ _ _ _ _ _ _ _ _ _ _ _ _ _ _ _ _ _ _ _ _ _)
    case' true=>
     cases d4
     case' false=>refine qfhu.wp_in (ds:=[5,6,7,8,9,10,11,12,13,14,15,16,17,18,19,20,21,22,23,24,25,26,27,28,29,30,31,32,33,34,35,36,37,38,39,40,41,42,43,4]) (B:=[(.int .i64 v),x1,x2,(.pointer (some ⟨B,0,none⟩)),(.bool false),(.int .i64 v),(.pointer (some ⟨B,0,none⟩)),(.int .i64 k),(.bool true),(.bool true),(.pointer (some ⟨B,4,none⟩)),(.int .i64 i),(.bool true),(.bool true),(.bool true),(.pointer (some ⟨B,4,none⟩)),(.int .i64 i),(.bool true),(.bool true),(.bool true),(.pointer (some ⟨B,23,none⟩)),(.slice af nf fc),(.int .i64 (nf:Nat)),(.bool true),(.bool true),undef,undef,undef,undef,(.bool true),(.bool true),undef,undef,undef,undef,(.bool true),(.bool true),(.bool true),(.agg C),(.int .i64 v),(.agg C),(.agg D),(.bool false),(.bool false)]) (D:=[]) (by kernel_rfl) (by kernel_rfl) (by kernel_rfl) ?_ hS ?_ (fun w hS=>fin false w rfl hS _ _ _ _ _ _ _ _ _ _ _ _ _ _ _ _ _ _ _ _ _ _ _ _ _ _ _ _ _ _ _ _ _ _ _ _ _ _ _)
     case' true=>refine qfhu.wp_in (ds:=[5,6,7,8,9,10,11,12,13,14,15,16,17,18,19,20,21,22,23,24,25,26,27,28,29,30,31,32,33,34,35,36,37,38,39,40,41,42,43,4]) (B:=[(.int .i64 v),x1,x2,(.pointer (some ⟨B,0,none⟩)),(.bool true),(.int .i64 v),(.pointer (some ⟨B,0,none⟩)),(.int .i64 k),(.bool true),(.bool true),(.pointer (some ⟨B,4,none⟩)),(.int .i64 i),(.bool true),(.bool true),(.bool true),(.pointer (some ⟨B,4,none⟩)),(.int .i64 i),(.bool true),(.bool true),(.bool true),(.pointer (some ⟨B,23,none⟩)),(.slice af nf fc),(.int .i64 (nf:Nat)),(.bool true),(.bool true),undef,undef,undef,undef,(.bool true),(.bool true),undef,undef,undef,undef,(.bool true),(.bool true),(.bool true),(.agg C),(.int .i64 v),(.agg C),(.agg D),(.bool true),(.bool true)]) (D:=[]) (by kernel_rfl) (by kernel_rfl) (by kernel_rfl) ?_ hS ?_ (fun w hS=>fin true w rfl hS _ _ _ _ _ _ _ _ _ _ _ _ _ _ _ _ _ _ _ _ _ _ _ _ _ _ _ _ _ _ _ _ _ _ _ _ _ _ _)
 all_goals first
  |(
   refine qfhu.pu rfl rfl rfl rfl (fun w hS=>rfl) ?_;refine qfhu.pu rfl rfl rfl rfl (fun w hS=>qd7q rfl) ?_;refine qfhu.pu rfl rfl rfl rfl (fun w hS=>qkcv rfl (K0 w hS)) ?_;refine qfhu.ca rfl rfl rfl rfl (fun w=>qpjl.enter2 func141 rfl rfl rfl) H0 ?_;refine qfhu.pu rfl rfl rfl rfl (fun w hS=>rfl) ?_
   first|refine qfhu.sk rfl rfl rfl rfl ?_|refine qfhu.pu rfl rfl rfl rfl (fun w hS=>q43k rfl) ?_
   first|refine qfhu.sk rfl rfl rfl rfl ?_|refine qfhu.pu rfl rfl rfl rfl (fun w hS=>qkcv rfl (K4 w hS)) ?_
   first|refine qfhu.sk rfl rfl rfl rfl ?_|refine qfhu.pu rfl rfl rfl rfl (fun w hS=>qyhu rfl ed1) ?_
   refine qfhu.pu rfl rfl rfl rfl (fun w hS=>rfl) ?_;refine qfhu.pu rfl rfl rfl rfl (fun w hS=>rfl) ?_
   first|refine qfhu.sk rfl rfl rfl rfl ?_|refine qfhu.pu rfl rfl rfl rfl (fun w hS=>q43k rfl) ?_
   first|refine qfhu.sk rfl rfl rfl rfl ?_|refine qfhu.pu rfl rfl rfl rfl (fun w hS=>qkcv rfl (K4 w hS)) ?_
   first|refine qfhu.sk rfl rfl rfl rfl ?_|refine qfhu.pu rfl rfl rfl rfl (fun w hS=>qbhz rfl ed2) ?_
   refine qfhu.pu rfl rfl rfl rfl (fun w hS=>rfl) ?_;refine qfhu.pu rfl rfl rfl rfl (fun w hS=>rfl) ?_
   first|refine qfhu.sk rfl rfl rfl rfl ?_|refine qfhu.pu rfl rfl rfl rfl (fun w hS=>qvcr rfl) ?_
   first|refine qfhu.sk rfl rfl rfl rfl ?_|refine qfhu.pu rfl rfl rfl rfl (fun w hS=>qdeq rfl (K23 w hS)) ?_
   first|refine qfhu.sk rfl rfl rfl rfl ?_|refine qfhu.pu rfl rfl rfl rfl (fun w hS=>q73a rfl) ?_
   first|refine qfhu.sk rfl rfl rfl rfl ?_|refine qfhu.pu rfl rfl rfl rfl (fun w hS=>qyhu rfl (qvpr ec0)) ?_
   first|refine qfhu.sk rfl rfl rfl rfl ?_|refine qfhu.pu rfl rfl rfl rfl (fun w hS=>rfl) ?_
   first|refine qfhu.sk rfl rfl rfl rfl ?_|refine qfhu.pu rfl rfl rfl rfl (fun w hS=>qxyk rfl) ?_
   first|refine qfhu.sk rfl rfl rfl rfl ?_|refine qfhu.pu rfl rfl rfl rfl (fun w hS=>qag2 rfl (K22 w hS)) ?_
   first|refine qfhu.sk rfl rfl rfl rfl ?_|refine qfhu.pu rfl rfl rfl rfl (fun w hS=>qki8 rfl) ?_
   first|refine qfhu.sk rfl rfl rfl rfl ?_|refine qfhu.pu rfl rfl rfl rfl (fun w hS=>qyhu rfl (qvpr ec1)) ?_
   first|refine qfhu.sk rfl rfl rfl rfl ?_|refine qfhu.pu rfl rfl rfl rfl (fun w hS=>rfl) ?_
   first|refine qfhu.sk rfl rfl rfl rfl ?_|refine qfhu.pu rfl rfl rfl rfl (fun w hS=>rfl) ?_
   first|refine qfhu.sk rfl rfl rfl rfl ?_|refine qfhu.pu rfl rfl rfl rfl (fun w hS=>rfl) ?_
   first|refine qfhu.sk rfl rfl rfl rfl ?_|refine qfhu.pu rfl rfl rfl rfl (fun w hS=>qd7q rfl) ?_
   first|refine qfhu.sk rfl rfl rfl rfl ?_|refine qfhu.pu rfl rfl rfl rfl (fun w hS=>qkcv rfl (K0 w hS)) ?_
   first|refine qfhu.sk rfl rfl rfl rfl ?_|refine qfhu.ca rfl rfl rfl rfl (fun w=>qpjl.enter2 func217 rfl rfl rfl) H1 ?_
   first|refine qfhu.sk rfl rfl rfl rfl ?_|refine qfhu.pu rfl rfl rfl rfl (fun w hS=>rfl) ?_
   refine qfhu.pu rfl rfl rfl rfl (fun w hS=>rfl) ?_;refine qfhu.pu rfl rfl rfl rfl (fun w hS=>rfl) ?_
   first|refine qfhu.sk rfl rfl rfl rfl ?_|refine qfhu.pu rfl rfl rfl rfl (fun w hS=>qjuh rfl hC (KC w hS)) ?_
   first|refine qfhu.sk rfl rfl rfl rfl ?_|refine qfhu.pu rfl rfl rfl rfl (fun w hS=>rfl) ?_
   first|refine qfhu.sk rfl rfl rfl rfl ?_|refine qfhu.pu rfl rfl rfl rfl (fun w hS=>qjuh rfl hC (KC w hS)) ?_
   first|refine qfhu.sk rfl rfl rfl rfl ?_|refine qfhu.ca rfl rfl rfl rfl (fun w=>qpjl.enter2 func218 rfl rfl rfl) H2 ?_
   first|refine qfhu.sk rfl rfl rfl rfl ?_|refine qfhu.ca rfl rfl rfl rfl (fun w=>qpjl.enter2 func162 rfl rfl rfl) H3 ?_
   refine qfhu.pu rfl rfl rfl rfl (fun w hS=>rfl) ?_;refine qfhu.pu rfl rfl rfl rfl (fun w hS=>rfl) ?_;exact qfhu.All.fin rfl)
  |exact(by repeat (first|exact trivial|refine⟨.inr rfl,?_⟩|refine⟨.inl rfl,?_⟩))
end Go.Proofs.YtefmhbioggcfaaaGreatDoor
