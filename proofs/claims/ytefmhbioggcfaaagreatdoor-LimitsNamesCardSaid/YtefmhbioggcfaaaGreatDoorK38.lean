/- The contracts of ack.fits and ack.Valid. Condition: the packet's fields are what their types hold; at most 70,000 properties, within their capacity. -/
import Derived.Test.YtefmhbioggcfaaaGreatDoorK24
import Derived.Test.YtefmhbioggcfaaaGreatDoorK34
set_option maxRecDepth 100000
set_option maxHeartbeats 4000000
namespace Go.Proofs.YtefmhbioggcfaaaGreatDoor
open Lib(hid)
open Proofs.Tryz
open Go.RowKit
theorem q7g5(p:Pk):qo3o 5 p=qiby p:=rfl
theorem qo99(p:Pk):qo3o 4 p={qiby p with code:=0,props:=[]}:=rfl
theorem qf43(v:Int)(p:Pk):(versC v&&qvya p.kind&&decide (0<p.id)&&decide (p.id<=65535)&&mayR p.kind p.code&&decide (p=qo3o v p))=okA v p:=by
 unfold okA;have hd:decide ((0:Int)<p.id)=decide (1<=p.id):=by congr 1
 rw[hd];by_cases h5:v=5
 ·subst h5;rw[q7g5];rw[show((5:Int)==4)=false from rfl,Bool.false_and,Bool.not_false,Bool.and_true];generalize decide (p=qiby p)=a;generalize mayR p.kind p.code=b;generalize decide (1<=p.id)=c;generalize decide (p.id<=65535)=d;generalize (versC 5&&qvya p.kind)=x;cases a<;>cases b<;>cases c<;>cases d<;>cases x<;>rfl
 ·by_cases h4:v=4
  ·subst h4;have e:decide (p=qo3o 4 p)=(decide (p=qiby p)&&!((4:Int)==4&&!(p.code==0&&p.props.isEmpty))):=by
    rw[qo99];rw[Bool.eq_iff_iff];simp only[decide_eq_true_eq,Bool.and_eq_true,Bool.not_eq_true',beq_self_eq_true,Bool.true_and,Bool.not_eq_false',beq_iff_eq,List.isEmpty_iff];constructor
    ·intro h;have h1:p.code=0:=by rw[h]
     have h2:p.props=[]:=by rw[h]
     refine⟨?_,h1,h2⟩
     conv=>lhs;rw[h]
     simp only[qiby,h1,h2]
    ·rintro⟨h,h1,h2⟩
     conv=>lhs;rw[h]
     simp only[qiby,h1,h2]
   rw[e];generalize decide (p=qiby p)=a;generalize mayR p.kind p.code=b;generalize decide (1<=p.id)=c;generalize decide (p.id<=65535)=d;generalize (versC 4&&qvya p.kind)=x;generalize (!((4:Int)==4&&!(p.code==0&&p.props.isEmpty)))=y;cases a<;>cases b<;>cases c<;>cases d<;>cases x<;>cases y<;>rfl
  ·have:versC v=false:=by simp[versC,h4,h5]
   simp[this]
theorem q3sg(v:Int)(p:Pk)(a:Ad)(w:World)(hp:PkAt w p a)(sp:q21o p):Calls prog 169 #[.int .i64 v,.agg (pkC p a)] w fun e w'=>e=.returned (.bool (okA v p))/\Below w.heap.size w w':=by
 have S0:=hid (BxS.made w p a);have C1:=hid (qwmp p a);have KN:=hid (fun V (h:BxS w p a V)=>(qnzz v p.kind V).mono fun e W' (hh:_/\V=W')=>(⟨hh.1,hh.2▸h⟩:_/\BxS w p a W'));have MA:=hid (fun V (h:BxS w p a V)=>(qeiz p.kind p.code V).mono fun e W' hh=>(⟨hh.1,h.call hh.2⟩:_/\BxS w p a W'));have US:=hid (fun V (h:BxS w p a V)=>(qbym v p a V).mono fun e W' hh=>(⟨hh.1,h.call hh.2⟩:_/\BxS w p a W'));have SM:=hid (fun V (h:BxS w p a V)=>(qyk8 p (qo3o v p) a (qi8p v a) V (hp.below h.low) (qvqb v (hp.below h.low)) sp (q9mw v sp)).mono fun e W' hh=>(⟨hh.1,h.call hh.2⟩:_/\BxS w p a W'));have FI:=hid (qf43 v p);generalize okA v p=R at *;generalize mayR p.kind p.code=m at *;generalize decide (p=qo3o v p)=s at *;clear hp sp;go_in
 go_upto_region 1 with fail
 refine qm47 (S:=BxS w p a) (B:=w.heap.size) (k:=p.kind) (i:=p.id) (c:=p.code) (C:=pkC p a) (D:=pkC (qo3o v p) (qi8p v a)) (m:=m) (s:=s) S0.out.draw C1.out (fun W h=>h.box) (fun W h=>h.cell 0) (fun W h=>h.cell 4) (fun W h=>h.cell 21) KN.out MA.out US.out SM.out ?_;intro r W hr h;rw[FI.out] at hr;subst hr;have LO:=hid h.low;clear h
 intros
 go_wp2;go_ret;exact⟨rfl,LO.out⟩
theorem qat7(v:Int)(p:Pk)(a:Ad)(w:World)(hp:PkAt w p a)(sp:q21o p)(ok:PkOk p)(hc:p.props.length<=a.pc):Calls prog 131 #[.int .i64 v,.agg (pkC p a)] w fun e w'=>e=.returned (.int .i64 (qryp v p:Nat))/\Below w.heap.size w w':=by
 have S0:=hid (BxS.made w p a);have C1:=hid (qwmp p a);have FI:=hid (fun W (h:BxS w p a W)=>q3sg v p a W (hp.below h.low) sp);have VA:=fun W (h:BxS w p a W)=>qirc p.kind a.ps p.props.length a.pc p.props W ok.kind.1 ok.kind.2 (hp.below h.low).ps rfl hc (fun x hx=>(ok.pps x hx).1);have k0:=fun W (h:BxS w p a W)=>(h.cell 0:W.cell? ⟨w.heap.size,0,none⟩=some (.int .i64 p.kind))
 have k24:=fun W (h:BxS w p a W)=>(h.cell 24:W.cell? ⟨w.heap.size,24,none⟩=some (.slice a.ps p.props.length a.pc))
 have K0:=hid (And.intro k0 k24);clear k0 k24;unfold qryp;cases ho:okA v p with
 |false=>rw[ho] at FI;rw[if_pos rfl];clear hp sp ok hc VA ho;go_in;go_wp2_with (refine wpList_load_row rfl _ _ rfl w.heap.size rfl 38 _ (0,0) _ S0.out.box underlying38 rfl (by rw[C1.out];exact q5nr) ?_);refine(FI.out _ S0.out).mono ?_;rintro e W ⟨rfl,hb⟩;have LO:=hid (qxh2 S0.out.low hb);clear hb;go_wp2;go_ret;exact⟨rfl,LO.out⟩
 |true=>
  rw[ho] at FI;rw[if_neg (by decide)];have hv:qpyu p.kind p.props=rightC v p.kind p.props:=by
   obtain⟨h45,_,_,h4,_⟩:=ok_a ho;unfold rightC;by_cases h5:v=5
   ·rw[if_pos h5]
   ·rw[if_neg h5,(h4 (by omega)).2];rfl
  rw[hv] at VA;generalize rightC v p.kind p.props=q at *;have VA:=hid VA;clear hp sp ok hc ho hv;go_in;go_wp2_with (refine wpList_load_row rfl _ _ rfl w.heap.size rfl 38 _ (0,0) _ S0.out.box underlying38 rfl (by rw[C1.out];exact q5nr) ?_);refine(FI.out _ S0.out).mono ?_;rintro e W ⟨rfl,hb⟩;have S1:=hid (S0.out.call hb);have k0:W.cell? ⟨w.heap.size,0,none⟩=some (.int .i64 p.kind):=K0.out.1 W S1.out;have k24:W.cell? ⟨w.heap.size,24,none⟩=some (.slice a.ps p.props.length a.pc):=K0.out.2 W S1.out;clear hb S0;go_wp2_with fail;refine(VA.out _ S1.out).mono ?_;rintro e W2 ⟨rfl,hb⟩;have LO:=hid (S1.out.call hb).low;clear hb;go_wp2;go_ret;exact⟨rfl,LO.out⟩
theorem qtpq{v:Int}{kind:Int}(l:List Pr)(hv:v=4\/v=5)(h4:v=4->l=[]):qpyu kind l=rightC v kind l:=by
 unfold rightC;rcases hv with rfl|rfl
 ·rw[if_neg (by decide),h4 rfl];rfl
 ·rw[if_pos rfl]
theorem qspo(v:Int)(p:Pk)(a:Ad)(w:World)(hp:PkAt w p a)(sp:q21o p)(ok:PkOk p)(ca:PkCap p a) :
 Calls prog 106 #[.int .i64 v,pkV p a] w fun e w'=>e=.returned (.int .i64 ((validC v p:Nat):Int))/\Below w.heap.size w w':=by
 have S0:=hid (BxS.made w p a);have FI:=qdnc v p a;have FI:=fun W (h:BxS w p a W)=>FI W (hp.below h.low) sp;have hsz:∀t∈p.texts,(bs t).size<=9223372036854775807:=fun t ht=>by rw[qkrc];have:=ok.texts t ht;omega
 have VC:=fun W=>qkls (bs p.client) W (hsz _ (by simp[Pk.texts]));have VU:=fun W=>qkls (bs p.user) W (hsz _ (by simp[Pk.texts]));have NT:=fun W=>qqsh (bs p.wTopic) W (hsz _ (by simp[Pk.texts]));have PV:=fun W (h:BxS w p a W)=>qirc p.kind a.ps p.props.length a.pc p.props W ok.kind.1 ok.kind.2 (hp.below h.low).ps rfl ca.pc (fun x hx=>(ok.pps x hx).1);have WV:=fun W (h:BxS w p a W)=>qirc 16 a.w p.wProps.length a.wc p.wProps W (by decide) (by decide) (hp.below h.low).w rfl ca.wc (fun x hx=>(ok.wps x hx).1);rw[qkd1] at VC VU NT;obtain⟨R,hR⟩:∃R,validC v p=R:=⟨_,rfl⟩
 rw[hR];have hL1:(bs p.wPayload).size=p.wPayload.length:=qkrc _;have hL2:(bs p.pass).size=p.pass.length:=qkrc _;have C1:=hid (qwmp p a);cases hok:okC v p with
 |false=>have HR:=hid (show 2=R by rw[<-hR,validC,if_pos hok]);rw[hok] at FI;have FI:=hid FI;clear hok hR VC VU NT PV WV hsz hL1 hL2;unfold pkV at *;go_in;go_wp2_with (refine wpList_load_row rfl _ _ rfl w.heap.size rfl 38 _ (0,0) _ S0.out.box underlying38 rfl (by rw[C1.out];exact q5nr) ?_);refine(FI.out _ S0.out).mono ?_;rintro e W ⟨rfl,hb⟩;have LO:=hid (qxh2 S0.out.low hb);clear hb;go_wp2;go_ret;exact⟨congrArg (fun n:Nat=>Ending.returned (Value.int .i64 (n:Int))) HR.out,LO.out⟩
 |true=>
  obtain⟨b1,h1⟩:∃b,(!qecx p.client || !qecx p.user)=b:=⟨_,rfl⟩
  obtain⟨b2,h2⟩:∃b,(p.hasWill&&!q95c p.wTopic)=b:=⟨_,rfl⟩
  obtain⟨b3,h3⟩:∃b,(decide (65535<p.wPayload.length) || decide (65535<p.pass.length))=b:=⟨_,rfl⟩
  have hv:=(ok_c hok).1;have h4:=(ok_c hok).2.2.2.1;obtain⟨X,hX⟩:∃X,qpyu p.kind p.props=X:=⟨_,rfl⟩
  obtain⟨Y,hY⟩:∃Y,qpyu 16 p.wProps=Y:=⟨_,rfl⟩
  have hr:R=if b1=true then 6 else if b2=true then 10 else if b3=true then 2 else if X≠0 then X else Y:=by
   rw[<-hR,validC,if_neg (by rw[hok];decide),<-h1,<-h2,<-h3,<-hX,<-hY,qtpq p.props hv (fun e=>(h4 e).1),qtpq p.wProps hv (fun e=>(h4 e).2)];have e1:((qecx p.client&&qecx p.user)=false)=((!qecx p.client || !qecx p.user)=true):=by cases qecx p.client<;>cases qecx p.user<;>simp
   have e3:(65535<p.wPayload.length\/65535<p.pass.length)=((decide (65535<p.wPayload.length) || decide (65535<p.pass.length))=true):=by simp
   simp only[e1,e3]
  rw[hok] at FI;rw[hX] at PV;rw[hY] at WV;have HR:=hid hr;have H1:=hid h1;have H2:=hid h2;have H3:=hid h3;have FI:=hid FI;have PV:=hid PV;have WV:=hid WV;have HL1:=hid hL1;have HL2:=hid hL2;generalize qecx p.client=cl at *;generalize qecx p.user=us at *;generalize q95c p.wTopic=nm at *;have VC:=hid VC;have VU:=hid VU;have NT:=hid NT;clear hok hR hsz hL1 hL2 h1 h2 h3 hX hY hr hv h4 hp sp ok ca;unfold pkV at *;go_in
  go_upto_region 1 with fail
  go_wp2_with (refine wpList_load_row rfl _ _ rfl w.heap.size rfl 38 _ (0,0) _ S0.out.box underlying38 rfl (by rw[C1.out];exact q5nr) ?_);refine(FI.out _ S0.out).mono ?_;rintro e W ⟨rfl,hb⟩;have S1:=hid (S0.out.call hb);clear hb;have k9:W.cell? ⟨w.heap.size,9,none⟩=some (.string (bs p.client)):=S1.out.cell 9
  go_upto_region 3 with fail
  go_cut [11] (fun s11 wx=>s11=.bool b1/\BxS w p a wx)
  case first=>
   cases cl with
   |false=>
    have HB:=hid (show true=b1 by rw[<-H1.out];rfl);go_wp2_with fail;refine(VC.out _).mono ?_;rintro e W2 ⟨rfl,hb⟩;have S2:=hid (S1.out.call hb);clear hb;go_wp2_with fail
    go_meet
    exact⟨congrArg Value.bool HB.out,S2.out⟩
   |true=>
    have HB:=hid (show(!us)=b1 by rw[<-H1.out];rfl);go_wp2_with fail;refine(VC.out _).mono ?_;rintro e W2 ⟨rfl,hb⟩;have S2:=hid (S1.out.call hb);clear hb;have k11:W2.cell? ⟨w.heap.size,11,none⟩=some (.string (bs p.user)):=S2.out.cell 11;go_wp2_with fail;refine(VU.out _).mono ?_;rintro e W3 ⟨rfl,hb⟩;have S3:=hid (S2.out.call hb);clear hb;go_wp2_with fail
    go_meet
    exact⟨congrArg Value.bool HB.out,S3.out⟩
  case rest=>
   clear k9 S1 S0;obtain⟨rfl,hS⟩:=hcut;have S1:=hid hS;clear hS;cases b1 with
   |true=>have HRa:=hid (show 6=R by rw[HR.out];rfl);have LO:=hid S1.out.low;go_wp2;go_ret;exact⟨congrArg (fun n:Nat=>Ending.returned (Value.int .i64 (n:Int))) HRa.out,LO.out⟩
   |false=>
    have k14:wc.cell? ⟨w.heap.size,14,none⟩=some (.bool p.hasWill):=S1.out.cell 14;have k15:wc.cell? ⟨w.heap.size,15,none⟩=some (.string (bs p.wTopic)):=S1.out.cell 15
    go_upto_region 5 with fail
    go_cut [22] (fun s22 wx=>s22=.bool b2/\BxS w p a wx)
    case first=>
     cases hw:p.hasWill with
     |false=>
      rw[hw] at k14;have HB:=hid (show false=b2 by rw[<-H2.out,hw];rfl);clear hw;go_wp2_with fail
      go_meet
      exact⟨congrArg Value.bool HB.out,S1.out⟩
     |true=>
      rw[hw] at k14;have HB:=hid (show(!nm)=b2 by rw[<-H2.out,hw];rfl);clear hw;go_wp2_with fail;refine(NT.out _).mono ?_;rintro e W3 ⟨rfl,hb⟩;have S3:=hid (S1.out.call hb);clear hb;go_wp2_with fail
      go_meet
      exact⟨congrArg Value.bool HB.out,S3.out⟩
    case rest=>
     clear k14 k15 S1;obtain⟨rfl,hS⟩:=hcut;have S1:=hid hS;clear hS;cases b2 with
     |true=>have HRa:=hid (show 10=R by rw[HR.out];rfl);have LO:=hid S1.out.low;go_wp2;go_ret;exact⟨congrArg (fun n:Nat=>Ending.returned (Value.int .i64 (n:Int))) HRa.out,LO.out⟩
     |false=>
      have k16:wc.cell? ⟨w.heap.size,16,none⟩=some (.string (bs p.wPayload)):=S1.out.cell 16;have k13:wc.cell? ⟨w.heap.size,13,none⟩=some (.string (bs p.pass)):=S1.out.cell 13
      go_upto_region 7 with fail
      go_cut [32] (fun s32 wx=>s32=.bool b3/\BxS w p a wx)
      case first=>
       by_cases l1:65535<p.wPayload.length
       ·have HB:=hid (show true=b3 by rw[<-H3.out,decide_eq_true l1];rfl);have l1':decide ((65535:Int)<((bs p.wPayload).size:Int))=true:=decide_eq_true (by rw[HL1.out];omega);clear l1;go_wp2_with fail
        go_meet
        exact⟨congrArg Value.bool HB.out,S1.out⟩
       ·have l1':decide ((65535:Int)<((bs p.wPayload).size:Int))=false:=decide_eq_false (by rw[HL1.out];omega);have HB:=hid (show decide (65535<p.pass.length)=b3 by rw[<-H3.out,decide_eq_false l1];rfl);clear l1;by_cases l2:65535<p.pass.length
        ·have l2':decide ((65535:Int)<((bs p.pass).size:Int))=true:=decide_eq_true (by rw[HL2.out];omega);rw[decide_eq_true l2] at HB;clear l2;go_wp2_with fail
         go_meet
         exact⟨congrArg Value.bool HB.out,S1.out⟩
        ·have l2':decide ((65535:Int)<((bs p.pass).size:Int))=false:=decide_eq_false (by rw[HL2.out];omega);rw[decide_eq_false l2] at HB;clear l2;go_wp2_with fail
         go_meet
         exact⟨congrArg Value.bool HB.out,S1.out⟩
      case rest=>
       clear k16 k13 S1;obtain⟨rfl,hS⟩:=hcut;have S1:=hid hS;clear hS;cases b3 with
       |true=>have HRa:=hid (show 2=R by rw[HR.out];rfl);have LO:=hid S1.out.low;go_wp2;go_ret;exact⟨congrArg (fun n:Nat=>Ending.returned (Value.int .i64 (n:Int))) HRa.out,LO.out⟩
       |false=>
        have k0:wc.cell? ⟨w.heap.size,0,none⟩=some (.int .i64 p.kind):=S1.out.cell 0;have k24:wc.cell? ⟨w.heap.size,24,none⟩=some (.slice a.ps p.props.length a.pc):=S1.out.cell 24;have HRb:=hid (show R=if X≠0 then X else Y by rw[HR.out];rfl);go_wp2_with fail;refine(PV.out _ S1.out).mono ?_;rintro e W4 ⟨rfl,hb⟩;have S4:=hid (S1.out.call hb);clear hb k0 k24;by_cases hx:X=0
        ·have HRa:=hid (show Y=R by rw[HRb.out,if_neg (by simpa using hx)]);subst hx;have k19:W4.cell? ⟨w.heap.size,19,none⟩=some (.slice a.w p.wProps.length a.wc):=S4.out.cell 19;go_wp2_with fail;refine(WV.out _ S4.out).mono ?_;rintro e W5 ⟨rfl,hb⟩;have LO:=hid (qxh2 S4.out.low hb);clear hb;go_wp2;go_ret;exact⟨congrArg (fun n:Nat=>Ending.returned (Value.int .i64 (n:Int))) HRa.out,LO.out⟩
        ·have HRa:=hid (show X=R by rw[HRb.out,if_pos hx]);have hx':((X:Int)==0)=false:=by simp;omega
         have hx2:((X:Int) != 0)=true:=by simp;omega
         have LO:=hid S4.out.low;clear hx;go_wp2;go_ret;exact⟨congrArg (fun n:Nat=>Ending.returned (Value.int .i64 (n:Int))) HRa.out,LO.out⟩
end Go.Proofs.YtefmhbioggcfaaaGreatDoor
