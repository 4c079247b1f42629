/- The contracts of control.byKind and control.tailed. Condition: kind and version are ints. -/
import Derived.Deep.CutBlock
import Derived.Great.Frames
import Derived.Test.YtlhkgidoaggodaaGreatDoorK15
import Derived.Test.YtlhkgidoaggodaaGreatDoorK12
set_option maxRecDepth 100000
set_option maxHeartbeats 4000000
namespace Go.Proofs.YtlhkgidoaggodaaGreatDoor
open Lib(hid)
open Proofs.Tryz
open Go.RowKit
def qv0k(f:Nat):Value := .func (.func f) #[.agg #[]] #[]
def qo38:List (Int×Value):=[(15,qv0k 206),(14,qv0k 205),(13,qv0k 204),(12,qv0k 204)]
def qvwa(w:World)(b:Nat):Prop:=qwau prog 3 w b .nilFunc qo38
theorem qa1p(w:World):Calls prog 160 #[] w fun e w'=>∃b,e=.returned (.map (some b))/\qvwa w' b/\Below w.heap.size w w':=by
 have hmf:∀(fn:Fn) (first cap:Array Value) (w:World),(Instr.makeFunc fn first cap).run prog w=.ok (.func fn first cap) w:=fun _ _ _ _=>rfl;have hmm:=@run_makeMap prog;have hG:qpdk prog 3 w ((w.alloc (.cells #[] 222)).alloc (.map #[] 0)) (w.heap.size+1) .nilFunc []:=by have h:=qwau.made (w.alloc (.cells #[] 222)) prog 3 .nilFunc;rw[show(w.alloc (.cells #[] 222)).heap.size=w.heap.size+1 by simp] at h;exact⟨h,((Below.refl _ _).alloc (Nat.le_refl _) _).alloc (by simp) _,Nat.le_succ _⟩
 go_in;go_wp2_with (refine q6d2 rfl _ _ _ 189 rfl 3 187 underlying3 underlying189 _ _ _ rfl hG (by simp[maxLen]) _ _ rfl rfl (by decide) ?_;clear hG;intro w1 hG);go_ret;exact⟨_,rfl,hG.1,hG.2.1⟩
theorem qena(x:Int)(w:World):Calls prog 204 #[.agg #[],.int .i64 x] w fun e w'=>e=.returned (.tuple #[.bool false,.int .i64 0])/\Below w.heap.size w w':=by
 go_in;go_wp2
 go_ret2
 exact⟨rfl,qybm _⟩
theorem qugm(x:Int)(w:World):Calls prog 205 #[.agg #[],.int .i64 x] w fun e w'=>e=.returned (.tuple #[.bool (x==5),.int .i64 0])/\Below w.heap.size w w':=by
 go_in;go_wp2
 go_ret2
 exact⟨rfl,qybm _⟩
theorem qtnb(x:Int)(w:World):Calls prog 206 #[.agg #[],.int .i64 x] w fun e w'=>e=.returned (.tuple #[.bool (x==5),.int .i64 (if x=5 then 0 else 8)])/\Below w.heap.size w w':=by
 by_cases h5:x=5
 ·subst h5;go_in;go_wp2
  go_ret2
  exact⟨rfl,qybm _⟩
 ·have h1:(x==5)=false:=beq_eq_false_iff_ne.2 h5;have h2:(x != 5)=true:=by simpa using h5
  rw[if_neg h5,h1];clear h5;go_in;go_wp2
  go_ret2
  exact⟨rfl,qybm _⟩
theorem q24b(W:World):(zeroValue 187).run prog W=.ok .nilFunc W:=by kernel_rfl
theorem qv3n{n:Int}(h0:-9223372036854775808<=n)(h1:n<=9223372036854775807):(Lit.int .i64 n).wf=true:=by simp[Lit.wf,IntKind.min,IntKind.max,IntKind.signed,IntKind.bits];omega
theorem q2qrj{k:Int}(hk0:-9223372036854775808<=k)(hk1:k<=9223372036854775807)(W:World)(b:Nat)(h:qvwa W b) :
 (Instr.lookup 189 (.map (some b)) (.int .i64 k) true).run prog W=.ok (.tuple #[q1n3 .nilFunc qo38 k,.bool (hasK qo38 k)]) W:=
 h.look underlying3 underlying189 (q24b W) (qv3n hk0 hk1)
theorem qkgb(v k:Int)(w:World)(hk0:-9223372036854775808<=k)(hk1:k<=9223372036854775807) :
 Calls prog 121 #[.int .i64 v,.int .i64 k] w fun e w'=>e=.returned (.tuple #[.bool (qyjk v k).1,.int .i64 ((qyjk v k).2:Nat)])/\Below w.heap.size w w':=by
 have LK:=q2qrj hk0 hk1;have hv:(v=4\/v=5)\/((v==4)=false/\(v==5)=false)/\(v != 4)=true/\(v != 5)=true/\versC v=false:=by
  by_cases h4:v=4
  ·exact .inl (.inl h4)
  by_cases h5:v=5
  ·exact .inl (.inr h5)
  exact .inr ⟨⟨beq_eq_false_iff_ne.2 h4,beq_eq_false_iff_ne.2 h5⟩,by simpa using h4,by simpa using h5,by simp[versC,h4,h5]⟩
 have hk:(k=12\/k=13\/k=14\/k=15)\/q1n3 .nilFunc qo38 k=.nilFunc/\hasK qo38 k=false/\q5t0 k=false:=by
  by_cases h:k=12\/k=13\/k=14\/k=15
  ·exact .inl h
  ·refine .inr ⟨?_,?_,?_⟩
   ·simp only[qo38,q1n3];rw[if_neg (by omega),if_neg (by omega),if_neg (by omega),if_neg (by omega)]
   ·simp only[qo38,hasK];rw[if_neg (by omega),if_neg (by omega),if_neg (by omega),if_neg (by omega)]
   ·simp only[q5t0,Bool.and_eq_false_iff,decide_eq_false_iff_not];omega
 have PI:=hid qena;have DI:=hid qugm;have AU:=hid qtnb;have KD:=hid qa1p;rcases hk with hk|⟨l1,l2,l3⟩
 ·rcases hv with hv|⟨⟨v1,v2⟩,v3,v4,v5⟩
  ·rcases hk with rfl|rfl|rfl|rfl
   case' inl=>have hh:hasK qo38 12=true:=rfl;have hl:q1n3 .nilFunc qo38 12=.func (.func 204) #[.agg #[]] #[]:=rfl
   case' inr.inl=>have hh:hasK qo38 13=true:=rfl;have hl:q1n3 .nilFunc qo38 13=.func (.func 204) #[.agg #[]] #[]:=rfl
   case' inr.inr.inl=>have hh:hasK qo38 14=true:=rfl;have hl:q1n3 .nilFunc qo38 14=.func (.func 205) #[.agg #[]] #[]:=rfl
   case' inr.inr.inr=>have hh:hasK qo38 15=true:=rfl;have hl:q1n3 .nilFunc qo38 15=.func (.func 206) #[.agg #[]] #[]:=rfl
   all_goals
    rw[hh,hl] at LK;have LKH:=hid LK;clear LK hh hl hk0 hk1;rcases hv with rfl|rfl
    all_goals
     go_in;go_wp2_with fail;refine(KD.out _).mono ?_;rintro e W ⟨b,rfl,hK,hb⟩;have lk:=LKH.out W b hK;have LO:=hid hb;clear hb hK;go_wp2_with fail
     first
      |with_reducible refine(PI.out _ _).mono ?_
      |with_reducible refine(DI.out _ _).mono ?_
      |with_reducible refine(AU.out _ _).mono ?_
     rintro e W2 ⟨rfl,hb⟩;have LO2:=hid (qxh2 LO.out hb);clear hb LO;go_wp2
     go_ret2
     exact⟨rfl,LO2.out⟩
  ·have ht:qyjk v k=(false,2):=by simp[qyjk,v5]
   rw[ht];clear ht v5;obtain⟨hh,f,hl⟩:hasK qo38 k=true/\∃f,q1n3 .nilFunc qo38 k=.func (.func f) #[.agg #[]] #[]:=by
    rcases hk with rfl|rfl|rfl|rfl
    all_goals exact⟨rfl,_,rfl⟩
   rw[hh,hl] at LK;have LKH:=hid LK;clear LK hh hl hk hk0 hk1;go_in;go_wp2_with fail;refine(KD.out _).mono ?_;rintro e W ⟨b,rfl,hK,hb⟩;have lk:=LKH.out W b hK;have LO:=hid hb;clear hb hK;go_wp2
   go_ret2
   exact⟨rfl,LO.out⟩
 ·have ht:qyjk v k=(false,2):=by simp[qyjk,l3]
  rw[ht];rw[l1,l2] at LK;have LKH:=hid LK;clear LK ht l1 l2 l3 hv hk0 hk1;go_in;go_wp2_with fail;refine(KD.out _).mono ?_;rintro e W ⟨b,rfl,hK,hb⟩;have lk:=LKH.out W b hK;have LO:=hid hb;clear hb hK;go_wp2
  go_ret2
  exact⟨rfl,LO.out⟩
def FitM(p:Pk):Prop:=PkOk p/\q21o p
def CapM(p:Pk)(a:Ad):Prop:=p.props.length<=a.pc/\(p.kind<=2->PkCap p a)
def qtij(v:Int)(p:Pk):Pk:={Pk.zero with kind:=p.kind,id:=p.id,filters:=if qsfj p.kind then p.filters else [],codes:=if !qsfj p.kind&&!qojk v p.kind then p.codes else [],props:=if v=5 then p.props else []}
def qlcd(v k:Int)(a:Ad):Ad:={adZ with fs:=if qsfj k then a.fs else none,fc:=if qsfj k then a.fc else 0,cs:=if !qsfj k&&!qojk v k then a.cs else none,cc:=if !qsfj k&&!qojk v k then a.cc else 0,ps:=if v=5 then a.ps else none,pc:=if v=5 then a.pc else 0}
theorem qciq{w:World}{p:Pk}{a:Ad}(v:Int)(h:PkAt w p a):PkAt w (qtij v p) (qlcd v p.kind a):=by
 refine⟨fun e=>absurd rfl e,?_,?_,?_⟩
 ·unfold qtij qlcd;cases (!qsfj p.kind&&!qojk v p.kind)
  ·exact fun e=>absurd rfl e
  ·exact h.cs
 ·unfold qtij qlcd;cases qsfj p.kind
  ·exact fun e=>absurd rfl e
  ·exact h.fs
 ·unfold qtij qlcd;by_cases h5:v=5
  ·simp only[if_pos h5];exact h.ps
  ·simp only[if_neg h5];exact fun e=>absurd rfl e
theorem q191{p:Pk}(v:Int)(h:q21o p):q21o (qtij v p):=by
 refine⟨?_,?_,?_,Nat.zero_le _⟩
 ·unfold qtij;cases (!qsfj p.kind&&!qojk v p.kind)
  ·exact Nat.zero_le _
  ·exact h.1
 ·unfold qtij;cases qsfj p.kind
  ·exact Nat.zero_le _
  ·exact h.2.1
 ·unfold qtij;by_cases h5:v=5
  ·simp only[if_pos h5];exact h.2.2.1
  ·simp only[if_neg h5];exact Nat.zero_le _
def us0T(p:Pk):Pk:={Pk.zero with kind:=p.kind,id:=p.id}
def us1T(v:Int)(p:Pk):Pk:={Pk.zero with kind:=p.kind,id:=p.id,filters:=if qsfj p.kind then p.filters else [],codes:=if !qsfj p.kind&&!qojk v p.kind then p.codes else []}
def qxsp(v k:Int)(a:Ad):Ad:={adZ with fs:=if qsfj k then a.fs else none,fc:=if qsfj k then a.fc else 0,cs:=if !qsfj k&&!qojk v k then a.cs else none,cc:=if !qsfj k&&!qojk v k then a.cc else 0}
theorem q1ms(v:Int)(p:Pk)(a:Ad)(w:World):Calls prog 195 #[.int .i64 v,.agg (pkC p a)] w fun e w'=>e=.returned (.agg (pkC (qtij v p) (qlcd v p.kind a)))/\Below w.heap.size w w':=by
 have Z0:((w.alloc (.cells (pkC p a) 40)).alloc (.cells pkZ 40)).heap.size=w.heap.size+1+1:=by simp
 have GN:(((w.alloc (.cells (pkC p a) 40)).alloc (.cells pkZ 40)).alloc (.cells pkZ 40)).heap[w.heap.size+1+1]?=some (.cells pkZ 40 (0,0)):=by
  have:=heap_alloc_new ((w.alloc (.cells (pkC p a) 40)).alloc (.cells pkZ 40)) (.cells pkZ 40)
  rw[Z0] at this;exact this
 have S0:UsS w p a (us0T p) adZ ((((w.alloc (.cells (pkC p a) 40)).alloc (.cells pkZ 40)).alloc (.cells pkZ 40)).setRow (w.heap.size+1+1) (pkC (us0T p) adZ)):=by
  refine⟨q8xz (qxh2 (qxh2 (qybm _) (qybm _)) (qybm _)) (by omega) _,?_,?_,setRow_heap _ _ _ _ _ _ GN⟩
  ·exact(setRow_other _ _ _ _ (by omega)).trans ((heap_alloc_old _ _ (by rw[Z0];omega)).trans (heap_alloc2_old _ _ _))
  ·exact(setRow_other _ _ _ _ (by omega)).trans ((heap_alloc_old _ _ (by rw[Z0];omega)).trans (heap_alloc2_new _ _ _))
 have hzv:=qrai;have hne:¬pkZ=#[]:=by intro h;have:=qbwp;rw[h] at this;cases this
 have HZ:=hid qbwp;have GN:=hid GN;have hD1:=qwmp (us0T p) adZ;have hD2:=qmz0 (us0T p) adZ;obtain⟨D,hD⟩:∃D,pkC (us0T p) adZ=D:=⟨_,rfl⟩
 rw[hD] at hD1 hD2 S0;have HD:=hid hD;have HD1:=hid hD1;have HD2:=hid hD2;have HS0:=hid S0;have k0:((w.alloc (.cells (pkC p a) 40)).alloc (.cells pkZ 40)).cell? ⟨w.heap.size,0,none⟩=some (.int .i64 p.kind):=cell_of_row _ _ 0 _ _ _ (heap_alloc2_old _ _ _);have k4:((w.alloc (.cells (pkC p a) 40)).alloc (.cells pkZ 40)).cell? ⟨w.heap.size,4,none⟩=some (.int .i64 p.id):=cell_of_row _ _ 4 _ _ _ (heap_alloc2_old _ _ _);clear S0 hD hD1 hD2 Z0;go_in;go_upto_block 0 with (first
  |(refine wpList_buildTo rfl 40 _ rfl (some _) rfl D (by rw[<-HD.out];kernel_rfl) ?_)
  |(refine wpList_store_row rfl _ _ _ rfl (w.heap.size+1+1) D rfl rfl 40 _ GN.out (by rw[HD1.out];exact q5nr) (by rw[HZ.out,HD1.out]) HD2.out ?_))
 clear k0 k4 GN HZ hne hzv;generalize (((w.alloc (.cells (pkC p a) 40)).alloc (.cells pkZ 40)).alloc (.cells pkZ 40)).setRow (w.heap.size+1+1) D=W at *;dsimp only[Act.put];go_cut [] (fun wx=>UsS w p a (us1T v p) (qxsp v p.kind a) wx)
 case first=>
  have k0:W.cell? ⟨w.heap.size,0,none⟩=some (.int .i64 p.kind):=HS0.out.cell 0;cases ha:qsfj p.kind with
  |true=>
   have S1:=hid (HS0.out.put 23 (.slice a.fs p.filters.length a.fc) (x':=us1T v p) (b':=qxsp v p.kind a) (by unfold us1T qxsp us0T;rw[ha];rfl));have k23:W.cell? ⟨w.heap.size,23,none⟩=some (.slice a.fs p.filters.length a.fc):=HS0.out.cell 23;have n23:W.cell? ⟨w.heap.size+1+1,23,none⟩=some (.slice none 0 0):=HS0.out.ncell 23;have f23:=HS0.out.fr 23;have AS:=hid (fun W=>(ha▸qczm p.kind W:Calls prog 156 #[.int .i64 p.kind] W fun e w'=>e=.returned (.bool true)/\W=w'));clear HS0 ha;go_wp2_with (go_at_call 156;refine(AS.out _).mono ?_;rintro e W2 ⟨rfl,rfl⟩)
   go_meet
   exact S1.out
  |false=>
   have AS:=hid (fun W=>(ha▸qczm p.kind W:Calls prog 156 #[.int .i64 p.kind] W fun e w'=>e=.returned (.bool false)/\W=w'));cases hb:qojk v p.kind with
   |true=>
    have BA:=hid (fun W=>(hb▸q1kd v p.kind W:Calls prog 194 #[.int .i64 v,.int .i64 p.kind] W fun e w'=>e=.returned (.bool true)/\W=w'));have S1:=hid (show UsS w p a (us1T v p) (qxsp v p.kind a) W by unfold us1T qxsp;rw[ha,hb];exact HS0.out);clear HS0 ha hb;go_wp2_with (first
     |(go_at_call 156;refine(AS.out _).mono ?_;rintro e W2 ⟨rfl,rfl⟩)
     |(go_at_call 194;refine(BA.out _).mono ?_;rintro e W2 ⟨rfl,rfl⟩))
    go_meet
    exact S1.out
   |false=>
    have BA:=hid (fun W=>(hb▸q1kd v p.kind W:Calls prog 194 #[.int .i64 v,.int .i64 p.kind] W fun e w'=>e=.returned (.bool false)/\W=w'));have S1:=hid (HS0.out.put 22 (.slice a.cs p.codes.length a.cc) (x':=us1T v p) (b':=qxsp v p.kind a) (by unfold us1T qxsp us0T;rw[ha,hb];rfl));have k22:W.cell? ⟨w.heap.size,22,none⟩=some (.slice a.cs p.codes.length a.cc):=HS0.out.cell 22;have n22:W.cell? ⟨w.heap.size+1+1,22,none⟩=some (.slice none 0 0):=HS0.out.ncell 22;have f22:=HS0.out.fr 22;clear HS0 ha hb;go_wp2_with (first
     |(go_at_call 156;refine(AS.out _).mono ?_;rintro e W2 ⟨rfl,rfl⟩)
     |(go_at_call 194;refine(BA.out _).mono ?_;rintro e W2 ⟨rfl,rfl⟩))
    go_meet
    exact S1.out
 case rest=>
  have H1:=hid hcut;clear hcut HS0
  go_upto_if 28 with fail
  go_cut [] (fun wx=>UsS w p a (qtij v p) (qlcd v p.kind a) wx)
  case first=>
   by_cases h5:v=5
   ·subst h5;have S1:=hid (H1.out.put 24 (.slice a.ps p.props.length a.pc) (x':=qtij 5 p) (b':=qlcd 5 p.kind a) rfl);have k24:wc.cell? ⟨w.heap.size,24,none⟩=some (.slice a.ps p.props.length a.pc):=H1.out.cell 24;have n24:wc.cell? ⟨w.heap.size+1+1,24,none⟩=some (.slice none 0 0):=H1.out.ncell 24;have f24:=H1.out.fr 24;clear H1;go_wp2_with fail
    go_meet
    exact S1.out
   ·have h5':(v==5)=false:=beq_eq_false_iff_ne.2 h5;have SB:=hid (show UsS w p a (qtij v p) (qlcd v p.kind a) wc by unfold qtij qlcd;rw[if_neg h5,if_neg h5,if_neg h5];exact H1.out)
    clear H1 h5;go_wp2_with fail
    go_meet
    exact SB.out
  case rest=>
   have HS:=hid hcut;clear hcut H1;have GB:=HS.out.new;have GR:=hid HS.out.res;have LO:=hid HS.out.low;have hR1:=qwmp (qtij v p) (qlcd v p.kind a);have hR2:=qmz0 (qtij v p) (qlcd v p.kind a);obtain⟨R,hR⟩:∃R,pkC (qtij v p) (qlcd v p.kind a)=R:=⟨_,rfl⟩
   rw[hR] at GB hR1 hR2;have HR:=hid hR;have GB:=hid GB;have HR1:=hid hR1;have HR2:=hid hR2;clear hR1 hR2 HS hR;go_wp2_with (first
    |(refine wpList_load_row rfl _ _ rfl (w.heap.size+1+1) rfl 40 R (0,0) _ GB.out underlying40 rfl (by rw[HR1.out];exact q5nr) ?_)
    |(refine wpList_store_row rfl _ _ _ rfl (w.heap.size+1) R rfl rfl 40 _ GR.out (by rw[HR1.out];exact q5nr) (by rw[qbwp,HR1.out]) HR2.out ?_))
   exact q7wi (cs:=R) rfl rfl rfl underlying40 rfl (by rw[HR1.out];exact q5nr) (setRow_heap _ _ _ _ _ _ GR.out) ⟨by rw[HR.out],q8xz LO.out (by omega) _⟩
abbrev fnV(f:Nat):Value := .func (.func f) #[] #[]
abbrev wayV(f g:Nat):Value := .agg #[fnV f,fnV g]
abbrev conW:Value:=wayV 58 59
abbrev pubW:Value:=wayV 60 61
abbrev ackW:Value:=wayV 62 63
abbrev subW:Value:=wayV 64 65
abbrev ctlW:Value:=wayV 66 67
def qtav:List (Int×Value):=[(15,ctlW),(14,ctlW),(13,ctlW),(12,ctlW),(11,subW),(10,subW),(9,subW),(8,subW),(7,ackW),(6,ackW),(5,ackW),(4,ackW),(3,pubW),(2,conW),(1,conW)]
abbrev noW:Value := .agg #[.nilFunc,.nilFunc]
def qvkg(w:World)(b:Nat):Prop:=qmfc prog 3 w b noW qtav
theorem qvkg.below{w w':World}{b:Nat}(h:qvkg w b)(hb:Below w.heap.size w w'):qvkg w' b:=h.of_block (hb.block _ h.lt)
theorem q2q5(W:World):(zeroValue 99).run prog W=.ok noW W:=by kernel_rfl
theorem qvkg.look{W:World}{b:Nat}(h:qvkg W b){k:Int}(hk0:1<=k)(hk1:k<=15):(Instr.lookup 100 (.map (some b)) (.int .i64 k) false).run prog W=.ok (q1n3 noW qtav k) W:=
 qmfc.look h underlying3 underlying100 (q2q5 W) (qv3n (by omega) (by omega))
theorem qter:(prog.info? 99).map (·.size)=some 2:=by kernel_rfl
structure WyF(b:Nat)(gs:List (Nat×Nat))(a:Act):Prop where
 size:a.tmps.size=28
 defers:a.defers=[]
 map:a.eval (.tmp 11)=.map (some b)
 ptr:∀q∈gs,q.1<11/\a.eval (.tmp q.1)=.pointer (some ⟨q.2,0,none⟩)
theorem WyF.put{b:Nat}{gs:List (Nat×Nat)}{a:Act}(h:WyF b gs a){d:Nat}(hd:11<d)(v u:Value):WyF b gs ((a.put (some d) v).put none u):=
 ⟨by show(a.put (some d) v).tmps.size=28;rw[Act.size_put];exact h.size,by show(a.put (some d) v).defers=[];rw[Act.defers_put'];exact h.defers,
  (Act.eval_put_ne a d 11 v (by omega)).trans h.map,fun q hq=>⟨(h.ptr q hq).1,(Act.eval_put_ne a d q.1 v (by have:=(h.ptr q hq).1;omega)).trans (h.ptr q hq).2⟩⟩
theorem qr31{ops:Array Oper}{rest:List Oper}{Q:Exit->Act->World->Prop}{a:Act}{w w0:World}{b:Nat}{gs:List (Nat×Nat)}{l:List (Int×Value)}{p p':String}{af af':Array Edge}{r:TypeId}
 (D:Array Value) {d t g:Nat} {k:Int} (hF:WyF b gs a) (hG:MapG prog 3 w0 w b noW l) (ht:(t,g)∈gs) (hd:11<d/\d<28) (hR:∀w',Below w0.heap.size w0 w'->w'.heap[g]?=some (.cells D 99 (0,0))) (hD:D.size=2) (hl:l.length<15) (hk:(Lit.int .i64 k).wf=true)
 (hK:∀a' w',WyF b gs a'->MapG prog 3 w0 w' b noW ((k,.agg D)::l)->wpList prog ops Q rest a' w') :
 wpList prog ops Q ({dst:=some d,op := .load 99 (.tmp t),type:=99,pos:=p,after:=af,guard:=none}::{dst:=none,op := .insert 100 (.tmp 11) (.const (.int .i64 k)) (.tmp d),type:=r,pos:=p',after:=af',guard:=none}::rest) a w:=by
 refine wpList_load_row rfl _ _ rfl g (hF.ptr _ ht).2 99 D (0,0) _ (hR _ hG.2.1) underlying99 rfl (by rw[hD];exact qter) ?_;exact q32q rfl _ _ _ 100 rfl 3 99 underlying3 underlying100 _ _ _ ((Act.eval_put_ne a d 11 _ (by omega)).trans hF.map) hG (by show l.length<9223372036854775807;omega) _ _ rfl (Act.eval_put_same a d _ (by rw[hF.size];omega)) hk fun w' h=>hK _ w' (hF.put hd.1 _ _) h
theorem q9tb{ops:Array Oper}{Q:Exit->Act->World->Prop}{a:Act}{w:World}{b:Nat}{gs:List (Nat×Nat)}{p p':String}{af af':Array Edge}{r r':TypeId}(hF:WyF b gs a)
 (hK:∀a',a'.defers=[]->a'.tmps.getD 0 undef=.map (some b)->Q .normal a' w) :
 wpList prog ops Q [{dst:=some 27,op := .move (.tmp 11),type:=r,pos:=p,after:=af,guard:=none},{dst:=some 0,op := .assign (.tmp 27),type:=r',pos:=p',after:=af',guard:=none}] a w:=by
 refine wpList_plain rfl fun K1 h1=>h1 _ _ (wpList_plain rfl fun K2 h2=>h2 _ _ ?_);unfold wpList;refine hK _ ((Act.defers_put' _ _ _).trans ((Act.defers_put' _ _ _).trans hF.defers)) ?_;have e1:=Act.eval_put_same a 27 (a.eval (.tmp 11)) (by rw[hF.size];decide);have e0:=Act.eval_put_same (a.put (some 27) (a.eval (.tmp 11))) 0 ((a.put (some 27) (a.eval (.tmp 11))).eval (.tmp 27)) (by rw[Act.size_put,hF.size];decide);exact e0.trans (e1.trans hF.map)
theorem qvww{ops:Array Oper}{l:List Oper}{Q:Exit->Act->World->Prop}{a:Act}{w:World}{b:Nat}{gs:List (Nat×Nat)}(hF:WyF b gs a)(h:∀a,WyF b gs a->wpList prog ops Q l a w):wpList prog ops Q l a w:=h a hF
def qpst(w:World):World:=((((w.alloc (.cells #[fnV 58,fnV 59] 99)).alloc (.cells #[fnV 60,fnV 61] 99)).alloc (.cells #[fnV 62,fnV 63] 99)).alloc (.cells #[fnV 64,fnV 65] 99)).alloc (.cells #[fnV 66,fnV 67] 99)
theorem qpoq(w:World):Below w.heap.size w (qpst w)/\(qpst w).heap.size=w.heap.size+5/\(qpst w).heap[w.heap.size]?=some (.cells #[fnV 58,fnV 59] 99 (0,0))/\(qpst w).heap[w.heap.size+1]?=some (.cells #[fnV 60,fnV 61] 99 (0,0))/\(qpst w).heap[w.heap.size+1+1]?=some (.cells #[fnV 62,fnV 63] 99 (0,0))/\(qpst w).heap[w.heap.size+1+1+1]?=some (.cells #[fnV 64,fnV 65] 99 (0,0))/\(qpst w).heap[w.heap.size+1+1+1+1]?=some (.cells #[fnV 66,fnV 67] 99 (0,0)):=by
 have o:∀{W:World} {k:Nat} {x y:Obj},W.heap[k]?=some x->(W.alloc y).heap[k]?=some x:=fun h=>(heap_alloc_old _ _ (lt_of_block h)).trans h;have n:∀{W:World} {k:Nat} {x:Obj},W.heap.size=k->(W.alloc x).heap[k]?=some x:=fun h=>h▸heap_alloc_new _ _;unfold qpst;exact⟨(((((Below.refl _ _).alloc (Nat.le_refl _) _).alloc (by simp) _).alloc (by simp;omega) _).alloc (by simp;omega) _).alloc (by simp;omega) _,by simp,
  o (o (o (o (n rfl)))),o (o (o (n (by simp)))),o (o (n (by simp))),o (n (by simp)),n (by simp)⟩
theorem qdie(w:World):Calls prog 50 #[] w fun e w'=>∃b,e=.returned (.map (some b))/\qvkg w' b/\Below w.heap.size w w':=by
 have hmm:=@run_makeMap prog;have hst:∀(w:World) (a:Addr) (f:Nat) m,(store a (.func (.func f) #[] #[]) m).run prog w=stored prog w a (.func (.func f) #[] #[]) m:=fun w a f m=>run_store _ w a _ m rfl;go_in
 go_upto_region 6 with fail
 obtain⟨B5,Z5,R1,R2,R3,R4,R5⟩:=qpoq w;change Code.wp _ _ _ _ (qpst w);generalize qpst w=W5 at *;clear Z5;generalize w.heap.size+1+1+1+1=g5 at R5 ⊢;generalize w.heap.size+1+1+1=g4 at R4 ⊢;generalize w.heap.size+1+1=g3 at R3 ⊢;generalize w.heap.size+1=g2 at R2 ⊢;have hG:MapG prog 3 W5 (W5.alloc (.map #[] 0)) W5.heap.size noW []:=⟨qmfc.made _ _ _ _,qybm _,Nat.le_refl _⟩
 have K:=fun(g:Nat) (D:Array Value) (R:W5.heap[g]?=some (.cells D 99 (0,0))) (w':World) (h:Below W5.heap.size W5 w')=>(h.block _ (lt_of_block R)).trans R;replace R1:=hid (K _ _ R1);replace R2:=hid (K _ _ R2);replace R3:=hid (K _ _ R3);replace R4:=hid (K _ _ R4);replace R5:=hid (K _ _ R5);clear hst K;go_wp2_with (
  refine qvww (b:=W5.heap.size) (gs:=[(1,w.heap.size),(2,g2),(3,g3),(4,g4),(5,g5)]) ⟨rfl,rfl,rfl,by simp only[List.forall_mem_cons];exact⟨⟨by decide,rfl⟩,⟨by decide,rfl⟩,⟨by decide,rfl⟩,⟨by decide,rfl⟩,⟨by decide,rfl⟩,fun _ h=>(nomatch h)⟩⟩ ?_;intro a hF;refine qr31 #[fnV 58,fnV 59] hF hG (by simp) (by decide) R1.out rfl (by simp) (by decide) fun a w1 hF hG=>?_;refine qr31 #[fnV 58,fnV 59] hF hG (by simp) (by decide) R1.out rfl (by simp) (by decide) fun a w1 hF hG=>?_;refine qr31 #[fnV 60,fnV 61] hF hG (by simp) (by decide) R2.out rfl (by simp) (by decide) fun a w1 hF hG=>?_;refine qr31 #[fnV 62,fnV 63] hF hG (by simp) (by decide) R3.out rfl (by simp) (by decide) fun a w1 hF hG=>?_;refine qr31 #[fnV 62,fnV 63] hF hG (by simp) (by decide) R3.out rfl (by simp) (by decide) fun a w1 hF hG=>?_;refine qr31 #[fnV 62,fnV 63] hF hG (by simp) (by decide) R3.out rfl (by simp) (by decide) fun a w1 hF hG=>?_;refine qr31 #[fnV 62,fnV 63] hF hG (by simp) (by decide) R3.out rfl (by simp) (by decide) fun a w1 hF hG=>?_;refine qr31 #[fnV 64,fnV 65] hF hG (by simp) (by decide) R4.out rfl (by simp) (by decide) fun a w1 hF hG=>?_;refine qr31 #[fnV 64,fnV 65] hF hG (by simp) (by decide) R4.out rfl (by simp) (by decide) fun a w1 hF hG=>?_;refine qr31 #[fnV 64,fnV 65] hF hG (by simp) (by decide) R4.out rfl (by simp) (by decide) fun a w1 hF hG=>?_;refine qr31 #[fnV 64,fnV 65] hF hG (by simp) (by decide) R4.out rfl (by simp) (by decide) fun a w1 hF hG=>?_;refine qr31 #[fnV 66,fnV 67] hF hG (by simp) (by decide) R5.out rfl (by simp) (by decide) fun a w1 hF hG=>?_;refine qr31 #[fnV 66,fnV 67] hF hG (by simp) (by decide) R5.out rfl (by simp) (by decide) fun a w1 hF hG=>?_;refine qr31 #[fnV 66,fnV 67] hF hG (by simp) (by decide) R5.out rfl (by simp) (by decide) fun a w1 hF hG=>?_;refine qr31 #[fnV 66,fnV 67] hF hG (by simp) (by decide) R5.out rfl (by simp) (by decide) fun a w1 hF hG=>?_;refine q9tb hF fun a h1 h2=>?_)
 refine bodyPost_ret (results_tmp rfl _ _ _) h1 ?_;rw[h2];exact⟨_,rfl,hG.1,B5.trans (hG.2.1.mono B5.size)⟩
def q10u(p:Pk)(a:Ad)(g:Nat):Prop:=∃i,p.wProps≠[]/\a.w=some ⟨g,i,none⟩\/p.codes≠[]/\a.cs=some ⟨g,i,none⟩\/p.filters≠[]/\a.fs=some ⟨g,i,none⟩\/p.props≠[]/\a.ps=some ⟨g,i,none⟩
theorem FrA.lists{w:World}{p:Pk}{a:Ad}(h:FrA w p a){g:Nat}(hg:q10u p a g):w.heap.size<=g:=by
 obtain⟨i,h1|h1|h1|h1⟩:=hg
 ·exact h g i (.inl h1)
 ·exact h g i (.inr (.inl h1))
 ·exact h g i (.inr (.inr (.inl h1)))
 ·exact h g i (.inr (.inr (.inr h1.2)))
theorem PkAt.lists_lt{W:World}{p:Pk}{a:Ad}(h:PkAt W p a){g:Nat}(hg:q10u p a g):g<W.heap.size:=by
 obtain⟨i,⟨h1,h2⟩|⟨h1,h2⟩|⟨h1,h2⟩|⟨h1,h2⟩⟩:=hg
 ·obtain⟨g',i',e,hl,-⟩:=h.w h1;rw[h2] at e;cases e;exact hl
 ·obtain⟨g',i',e,hl,-⟩:=h.cs (fun e=>h1 (by simpa [ics] using e));rw[h2] at e;cases e;exact hl
 ·obtain⟨g',i',e,hl,-⟩:=h.fs (fun e=>h1 (by
   cases hf:p.filters with
   |nil=>rfl
   |cons f l=>rw[hf] at e;exact absurd e (by simp[fcs,quk6])));rw[h2] at e;cases e;exact hl
 ·obtain⟨g',i',e,hl,-⟩:=h.ps h1;rw[h2] at e;cases e;exact hl
theorem PkAt.moved{W W':World}{p:Pk}{a:Ad}(h:PkAt W p a)(hz:W.heap.size<=W'.heap.size)(hb:∀g,q10u p a g->W'.heap[g]?=W.heap[g]?):PkAt W' p a:=by
 refine⟨fun hn=>h.w.kept hz (fun g i e _=>hb g ⟨i,.inl ⟨hn,e⟩⟩) hn,fun hn=>h.cs.kept hz (fun g i e _=>hb g ⟨i,.inr (.inl ⟨?_,e⟩)⟩) hn,fun hn=>h.fs.kept hz (fun g i e _=>hb g ⟨i,.inr (.inr (.inl ⟨?_,e⟩))⟩) hn,fun hn=>h.ps.kept hz (fun g i e _=>hb g ⟨i,.inr (.inr (.inr ⟨hn,e⟩))⟩) hn⟩
 ·intro e;rw[e] at hn;exact hn rfl
 ·intro e;rw[e] at hn;exact hn rfl
abbrev Pa:=Pk×Ad
def pkCs(l:List Pa):List Value:=l.flatMap fun q=>(pkC q.1 q.2).toList
theorem q6wm(l:List Pa):(pkCs l).length=l.length*25:=by
 induction l with
 |nil=>rfl
 |cons q l ih=>show((pkC q.1 q.2).toList++pkCs l).length=_;rw[List.length_append,ih,Array.length_toList,qwmp,List.length_cons];omega
theorem q0mi(l m:List Pa):pkCs (l++m)=pkCs l++pkCs m:=by simp[pkCs]
theorem qlyl:∀(l:List Pa) (i j:Nat) (q:Pa) (u:Value),l[i]?=some q->(pkC q.1 q.2)[j]?=some u->(pkCs l)[i*25+j]?=some u
 |[],i,j,q,u,h,_=>by simp at h
 |x::l,0,j,q,u,h,hu=>by
  have h:x=q:=by simpa using h
  subst h;have hj:j<25:=by
   have:=(Array.getElem?_eq_some_iff.1 hu).1
   rwa [qwmp] at this
  show((pkC x.1 x.2).toList++pkCs l)[0*25+j]?=some u;rw[show 0*25+j=j by omega,List.getElem?_append_left (by rw[Array.length_toList,qwmp];exact hj)];simpa using hu
 |x::l,i+1,j,q,u,h,hu=>by have ih:=qlyl l i j q u (by simpa using h) hu;show((pkC x.1 x.2).toList++pkCs l)[(i+1)*25+j]?=some u;rw[List.getElem?_append_right (by rw[Array.length_toList,qwmp];omega),Array.length_toList,qwmp,show(i+1)*25+j-25=i*25+j by omega];exact ih
structure PKL(W:World)(A:Option Addr)(l:List Pa):Prop where
 cl:CL W A (pkCs l)
 each:∀q∈l,PkAt W q.1 q.2
section
variable{W W':World}{A:Option Addr}{l m:List Pa}{q:Pa}
theorem PKL.nil:PKL W A []:=⟨CL.nil,fun _ h=>(nomatch h)⟩
theorem PKL.below(h:PKL W A l)(hb:Below W.heap.size W W'):PKL W' A l:=⟨h.cl.below hb,fun q hq=>(h.each q hq).below hb⟩
theorem PKL.at(h:PKL W A l){i:Nat}(hi:l[i]?=some q):∃g o,A=some ⟨g,o,none⟩/\g<W.heap.size/\∀(j:Nat) (u:Value),(pkC q.1 q.2)[j]?=some u->W.cell? ⟨g,o+i*25+j,none⟩=some u:=by
 have hne:pkCs l≠[]:=fun e=>by have h1:=qlyl l i 0 q _ hi (show(pkC q.1 q.2)[0]?=some _ from rfl);rw[e] at h1;cases h1
 obtain⟨g,o,e,hg,hc⟩:=h.cl hne;refine⟨g,o,e,hg,fun j u hu=>?_⟩;rw[Nat.add_assoc];exact hc _ _ (qlyl l i j q u hi hu)
theorem PKL.get(h:PKL W A l){i:Nat}(hi:l[i]?=some q):PkAt W q.1 q.2:=h.each q (List.mem_of_getElem? hi)
end
end Go.Proofs.YtlhkgidoaggodaaGreatDoor
