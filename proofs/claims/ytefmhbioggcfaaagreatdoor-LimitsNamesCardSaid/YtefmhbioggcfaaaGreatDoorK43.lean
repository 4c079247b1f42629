/- The contracts of subscribe's shared, optionsFit and codeFits. Condition: a topic of at most 65,535 bytes. -/
import Derived.Test.YtefmhbioggcfaaaGreatDoorK35
import Derived.Test.YtefmhbioggcfaaaGreatDoorK42
import Derived.Test.YtefmhbioggcfaaaGreatDoorK24
set_option maxRecDepth 100000
set_option maxHeartbeats 2000000
namespace Go.Proofs.YtefmhbioggcfaaaGreatDoor
open Lib(hid)
open Proofs.Tryz
open Go.RowKit
theorem q393(s:ByteArray)(w:World)(hs:s.size<4000000000) :
 Calls prog 251 #[.string s] w fun e w'=>e=.returned (.bool (qar3 s.data.toList).2.2)/\Below w.heap.size w w':=by
 have SH:=q827 s w hs;unfold shv at SH;obtain⟨⟨x,y,z⟩,hx⟩:∃x,qar3 s.data.toList=x:=⟨_,rfl⟩
 rw[hx] at SH ⊢;simp only at SH ⊢;replace SH:=hid SH;clear hx hs;go_in;go_wp2_with fail;refine(SH.out).mono ?_;rintro e W ⟨rfl,hb⟩;have LO:=hid hb;clear hb;go_wp2;go_ret;exact⟨rfl,LO.out⟩
theorem qdnh(v kind code:Int)(w:World) :
 Calls prog 221 #[.int .i64 v,.int .i64 kind,.int .i64 code] w fun e w'=>e=.returned (.bool (q190 v kind code))/\Below w.heap.size w w':=by
 unfold q190;by_cases h:v=4
 ·subst h;rw[if_pos rfl];have GR:=hid (q0ik code w);generalize qw69 code=r at *;go_in;go_wp2_with fail;refine(GR.out).mono ?_;rintro e W ⟨rfl,rfl⟩;go_wp2;go_ret;exact⟨rfl,Below.refl _ _⟩
 ·rw[if_neg h];have h':(v==4)=false:=beq_eq_false_iff_ne.2 h;have MA:=hid (qeiz kind code w);generalize mayR kind code=r at *;clear h;go_in;go_wp2_with fail;refine(MA.out).mono ?_;rintro e W ⟨rfl,hb⟩;have LO:=hid hb;clear hb;go_wp2;go_ret;exact⟨rfl,LO.out⟩
theorem qi4t:∀n:Nat,n<64->(bits .andNot .i64 (n:Int) 3==0)=decide (n<=3)/\(bits .andNot .i64 (n:Int) 63==0)=true:=by decide+kernel
theorem qiwy(f:Fi):qang f<64:=by
 unfold qang bitC;have h1:(f.qos%4).toNat<4:=by omega
 have h2:(f.handling%4).toNat<4:=by omega
 split<;>split<;>omega
theorem qci5{v:Int}{f:Fi}(h0:0<=f.qos/\f.qos<=2)(h1:0<=f.handling/\f.handling<=2)(hs:(f.noLocal&&(qar3 f.topic).2.2)=false)(kind:Int)(hk:kind≠10) :
 (bits .andNot .i64 (qang f:Int) (qyb2 v:Int)==0)=optS v kind f:=by
 obtain⟨n1,n2⟩:=qi4t (qang f) (qiwy f);unfold optS qyb2;rw[if_neg hk];have hd:(decide (0<=f.qos)&&decide (f.qos<=2)&&(decide (0<=f.handling)&&decide (f.handling<=2)))=true:=by simp[h0,h1]
 rw[hd,Bool.true_and];by_cases h4:v=4
 ·rw[if_pos h4,if_pos h4];show(bits .andNot .i64 (qang f:Int) 3==0)=_;rw[n1];unfold qang bitC;have hh:f.handling=0\/f.handling=1\/f.handling=2:=by omega
  have hq:f.qos=0\/f.qos=1\/f.qos=2:=by omega
  rcases hq with e|e|e<;>rw[e]<;>rcases hh with e|e|e<;>rw[e]<;>cases f.noLocal<;>cases f.asPub<;>rfl
 ·rw[if_neg h4,if_neg h4];show(bits .andNot .i64 (qang f:Int) 63==0)=_;rw[n2];generalize (qar3 f.topic).2.2=x at *;have e:(!f.noLocal || !x)=!(f.noLocal&&x):=by cases f.noLocal<;>cases x<;>rfl
  rw[e,hs];rfl
theorem q5gw{v:Int}{f:Fi}(h:¬((0<=f.qos/\f.qos<=2)/\(0<=f.handling/\f.handling<=2)))(kind:Int)(hk:kind≠10):optS v kind f=false:=by
 unfold optS;rw[if_neg hk];have hd:(decide (0<=f.qos)&&decide (f.qos<=2)&&(decide (0<=f.handling)&&decide (f.handling<=2)))=false:=by rw[Bool.eq_false_iff];intro h2;simp only[Bool.and_eq_true,decide_eq_true_eq] at h2;exact h ⟨h2.1,h2.2⟩
 rw[hd,Bool.false_and]
theorem q64w{v:Int}{f:Fi}(hs:(f.noLocal&&(qar3 f.topic).2.2)=true)(kind:Int)(hk:kind≠10):optS v kind f=false:=by
 unfold optS;rw[if_neg hk];rw[Bool.and_eq_true] at hs
 have:(if v=4 then !f.noLocal&&!f.asPub&&f.handling==0 else !f.noLocal || !(qar3 f.topic).2.2)=false:=by rw[hs.1,hs.2];split<;>simp
 rw[this,Bool.and_false]
theorem qh95(v:Int)(f:Fi)(w:World) :
 Calls prog 220 #[.int .i64 v,.int .i64 10,.agg (fiC f)] w fun e w'=>e=.returned (.bool (optS v 10 f))/\Below w.heap.size w w':=by
 have B0:=hid (qybm (w:=w) (.cells (fiC f) 78));have e:optS v 10 f=decide (f=q7yu f):=by unfold optS;rw[if_pos rfl]
 rw[e];obtain⟨d,hd⟩:∃d,decide (f=q7yu f)=d:=⟨_,rfl⟩
 rw[hd];obtain⟨t,q,a,b,h⟩:=f;unfold q7yu at hd;simp only[Fi.mk.injEq,true_and] at hd;unfold fiC at *;simp only at B0 hd ⊢;by_cases hq:q=0
 ·subst hq;cases a with
  |false=>
   cases b with
   |false=>
    by_cases hh:h=0
    ·subst hh;obtain rfl:d=true:=by rw[<-hd];rfl
     clear hd e;go_in;go_wp2;go_ret;exact⟨rfl,B0.out⟩
    ·obtain rfl:d=false:=by rw[<-hd];simp[hh]
     have h':(h==0)=false:=beq_eq_false_iff_ne.2 hh;clear hd e hh;go_in;go_wp2;go_ret;exact⟨rfl,B0.out⟩
   |true=>
    obtain rfl:d=false:=by rw[<-hd];simp
    clear hd e;go_in;go_wp2;go_ret;exact⟨rfl,B0.out⟩
  |true=>
   obtain rfl:d=false:=by rw[<-hd];simp
   clear hd e;go_in;go_wp2;go_ret;exact⟨rfl,B0.out⟩
 ·obtain rfl:d=false:=by rw[<-hd];simp[hq]
  have h':(q==0)=false:=beq_eq_false_iff_ne.2 hq;clear hd e hq;go_in;go_wp2;go_ret;exact⟨rfl,B0.out⟩
theorem qdpd(q h:Int):(decide (q<0)=true)\/(decide (q<0)=false/\decide (2<q)=true)\/(decide (q<0)=false/\decide (2<q)=false/\decide (h<0)=true)\/
 (decide (q<0)=false/\decide (2<q)=false/\decide (h<0)=false/\decide (2<h)=true)\/((decide (q<0)=false/\decide (2<q)=false/\decide (h<0)=false/\decide (2<h)=false)/\(0<=q/\q<=2)/\(0<=h/\h<=2)):=by
 simp only[decide_eq_true_eq,decide_eq_false_iff_not];omega
theorem qply(v kind:Int)(f:Fi)(w:World)(ht:f.topic.length<=65535) :
 Calls prog 220 #[.int .i64 v,.int .i64 kind,.agg (fiC f)] w fun e w'=>e=.returned (.bool (optS v kind f))/\Below w.heap.size w w':=by
 by_cases hk:kind=10
 ·subst hk;exact qh95 v f w
 have hk':(kind==10)=false:=beq_eq_false_iff_ne.2 hk;have S0:=hid (BxF.made w f);have LO:=hid S0.out.low;have F1:=hid (qxzo f);have k1:(w.alloc (.cells (fiC f) 78)).cell? ⟨w.heap.size,1,none⟩=some (.int .i64 f.qos):=S0.out.cell 1;have k2:(w.alloc (.cells (fiC f) 78)).cell? ⟨w.heap.size,2,none⟩=some (.bool f.noLocal):=S0.out.cell 2;have k4:(w.alloc (.cells (fiC f) 78)).cell? ⟨w.heap.size,4,none⟩=some (.int .i64 f.handling):=S0.out.cell 4;rcases qdpd f.qos f.handling with h|⟨h,h2⟩|⟨h,h2,h3⟩|⟨h,h2,h3,h4⟩|⟨⟨h,h2,h3,h4⟩,hq,hh⟩
 ·rw[q5gw (fun e=>by have:=of_decide_eq_true h;omega) kind hk];generalize f.qos=q at *;generalize f.handling=g at *;clear hk ht;go_in;go_wp2;go_ret;exact⟨rfl,LO.out⟩
 ·rw[q5gw (fun e=>by have:=of_decide_eq_true h2;omega) kind hk];generalize f.qos=q at *;generalize f.handling=g at *;clear hk ht;go_in;go_wp2;go_ret;exact⟨rfl,LO.out⟩
 ·rw[q5gw (fun e=>by have:=of_decide_eq_true h3;omega) kind hk];generalize f.qos=q at *;generalize f.handling=g at *;clear hk ht;go_in;go_wp2;go_ret;exact⟨rfl,LO.out⟩
 ·rw[q5gw (fun e=>by have:=of_decide_eq_true h4;omega) kind hk];generalize f.qos=q at *;generalize f.handling=g at *;clear hk ht;go_in;go_wp2;go_ret;exact⟨rfl,LO.out⟩
 ·have SH:=fun W=>q393 (bs f.topic) W (by rw[q5zk];omega);rw[qkd1] at SH;have k0:(w.alloc (.cells (fiC f) 78)).cell? ⟨w.heap.size,0,none⟩=some (.string (bs f.topic)):=S0.out.cell 0;have OP:=hid (fun W (h:BxF w f W)=>(q3gr f W).mono fun e W' hh=>(⟨hh.1,h.call hh.2⟩:_/\BxF w f W'));have BI:=hid (qqd6 v);have last:=qci5 (v:=v) hq hh;have share:=q64w (v:=v) (f:=f);obtain⟨n,hn⟩:∃n,f.noLocal=n:=⟨_,rfl⟩
  obtain⟨x,hx⟩:∃x,(qar3 f.topic).2.2=x:=⟨_,rfl⟩
  rw[hx] at SH;rw[hn] at k2;cases hnx:(n&&x) with
  |true=>have e:=share (by rw[hn,hx];exact hnx) kind hk;rw[e];rw[Bool.and_eq_true] at hnx;obtain⟨rfl,rfl⟩:=hnx;generalize f.qos=q at *;generalize f.handling=g at *;replace SH:=hid SH;clear hk ht hq hh last share hn hx e OP BI;go_in;go_wp2_with fail;refine(SH.out _).mono ?_;rintro e W ⟨rfl,hb⟩;have L2:=hid (S0.out.call hb).low;clear hb;go_wp2;go_ret;exact⟨rfl,L2.out⟩
  |false=>
   have hl:=last (by rw[hn,hx];exact hnx) kind hk;generalize optS v kind f=R at *;generalize qang f=m at *;generalize qyb2 v=M at *;have HL:=hid hl;generalize f.qos=q at *;generalize f.handling=g at *;replace SH:=hid SH;clear hk ht hq hh last share hn hx hl;cases n with
   |true=>rw[Bool.true_and] at hnx;subst hnx;go_in;go_wp2_with fail;refine(SH.out _).mono ?_;rintro e W ⟨rfl,hb⟩;have S2:=hid (S0.out.call hb);clear hb;go_wp2_with (refine wpList_load_row rfl _ _ rfl w.heap.size rfl 78 _ (0,0) _ S2.out.box underlying78 rfl (by rw[F1.out];exact qhg6) ?_);refine(OP.out _ S2.out).mono ?_;rintro e W2 ⟨rfl,hb⟩;have L2:=hid hb.low;clear hb;go_wp2_with fail;refine(BI.out _).mono ?_;rintro e W3 ⟨rfl,rfl⟩;have hl:=HL.out;go_wp2;go_ret;exact⟨rfl,L2.out⟩
   |false=>clear hnx;go_in;go_wp2_with (refine wpList_load_row rfl _ _ rfl w.heap.size rfl 78 _ (0,0) _ S0.out.box underlying78 rfl (by rw[F1.out];exact qhg6) ?_);refine(OP.out _ S0.out).mono ?_;rintro e W2 ⟨rfl,hb⟩;have L2:=hid hb.low;clear hb;go_wp2_with fail;refine(BI.out _).mono ?_;rintro e W3 ⟨rfl,rfl⟩;have hl:=HL.out;go_wp2;go_ret;exact⟨rfl,L2.out⟩
theorem qenz{t:List UInt8}(h:qw8n t=true):t.length<=65535:=((qbv6 _).1 ((q38c _).1 h).2.1).1
theorem q5ta(v:Int)(p:Pk)(a:Ad)(w:World)(hf:CL w a.fs (fcs p.filters))(hn:p.filters.length<=70000)(hl:∀f∈p.filters,f.topic.length<=140737488351232) :
 Calls prog 175 #[.int .i64 v,.agg (pkC p a)] w fun e w'=>e=.returned (.int .i64 (qlck v p.kind p.filters:Nat))/\Below w.heap.size w w':=by
 have S0:=hid (BxS.made w p a);have k23:(w.alloc (.cells (pkC p a) 38)).cell? ⟨w.heap.size,23,none⟩=some (.slice a.fs p.filters.length a.fc):=S0.out.cell 23;have K0:∀W,BxS w p a W->W.cell? ⟨w.heap.size,0,none⟩=some (.int .i64 p.kind):=fun W h=>h.cell 0;replace K0:=hid K0;have HF:=hid hf;have HL:=hid hl;obtain⟨l,hll⟩:∃l,p.filters=l:=⟨_,rfl⟩
 rw[hll] at HF HL hn k23 ⊢;obtain⟨n,hnn⟩:∃n,l.length=n:=⟨_,rfl⟩
 rw[hnn] at hn k23;obtain⟨R,hR⟩:∃R,qlck v p.kind l=R:=⟨_,rfl⟩
 rw[hR];have HR:=hid hR;have HN:=hid hnn;have q0:(n:Int)<=70000:=by omega
 clear hf hl hll hnn hR hn;generalize p.kind=kind at *;generalize a.fs=A at *;generalize a.fc=c at *;go_in;go_wp2_with fail;clear k23
 go_loopg [10] n (fun gk s10 wx=>∃k:Nat,k<=n/\gk=n-k/\s10=.int .i64 (k:Int)/\qlck v kind (l.drop k)=R/\BxS w p a wx)
 case atStart=>exact⟨0,Nat.zero_le _,rfl,rfl,HR.out,S0.out⟩
 case round=>
  obtain⟨k,hk,rfl,rfl,hE,hS⟩:=hrel;have SK:=hid hS;by_cases hlt:k<n
  ·have hkl:k<l.length:=by rw[HN.out];exact hlt
   obtain⟨f,hp⟩:∃f,l[k]?=some f:=⟨_,List.getElem?_eq_getElem hkl⟩
   have hdr:l.drop k=f::l.drop (k+1):=by rw[List.drop_eq_getElem_cons hkl];rw[List.getElem?_eq_getElem hkl] at hp;rw[Option.some.inj hp]
   have hmem:f∈l:=List.mem_of_getElem? hp;obtain⟨ga,ia,rfl,_,a0,a1,a2,a3,a4⟩:=(HF.out.below hS.low).fi hp;have FI:=fun W=>q6o8 (bs f.topic) W (by rw[q5zk];have:=HL.out f hmem;omega);rw[qkd1] at FI;rw[hdr,qlck] at hE;have L:=hid hlt;have g1:(k:Int)<(n:Int):=by omega
   have ft:qw8n f.topic=true->f.topic.length<=65535:=qenz;have OP:=fun(h:f.topic.length<=65535) W=>qply v kind f W h;unfold fiC at OP;generalize optS v kind f=o at *;generalize qw8n f.topic=b at *;cases b with
   |false=>rw[if_pos rfl] at hE;have H10:=hid hE;replace FI:=hid FI;generalize bs f.topic=x0 at *;generalize f.qos=x1 at *;generalize f.noLocal=x2 at *;generalize f.asPub=x3 at *;generalize f.handling=x4 at *;clear hdr hmem hkl hp hS hE OP ft hlt hk;go_wp2_with fail;refine(FI.out _).mono ?_;rintro e W2 ⟨rfl,hb⟩;have L2:=hid (qxh2 (SK.out.low.alloc SK.out.low.size _) hb);clear hb;go_wp2;go_ret;exact⟨by rw[<-H10.out];rfl,L2.out⟩
   |true=>
    rw[if_neg (by decide)] at hE;replace FI:=hid FI;replace OP:=hid (OP (ft rfl));have HE:=hid hE;generalize bs f.topic=x0 at *;generalize f.qos=x1 at *;generalize f.noLocal=x2 at *;generalize f.asPub=x3 at *;generalize f.handling=x4 at *;have H5:=hid (show #[Value.string x0,.int .i64 x1,.bool x2,.bool x3,.int .i64 x4].size=5 from rfl);clear hdr hmem hkl hp hS hE ft hlt hk;go_wp2_with fail;refine(FI.out _).mono ?_;rintro e W2 ⟨rfl,hb⟩;have G2:=hid ((hb.block wr.heap.size (by simp)).trans (heap_alloc_new wr (.cells #[.string x0,.int .i64 x1,.bool x2,.bool x3,.int .i64 x4] 78)));have S2:=hid ((SK.out.call ((Below.refl _ _).alloc (Nat.le_refl _) _)).call hb);have k0:=K0.out _ S2.out;clear hb;go_wp2_with (refine wpList_load_row rfl _ _ rfl wr.heap.size rfl 78 _ (0,0) _ G2.out underlying78 rfl (by rw[H5.out];exact qhg6) ?_);refine(OP.out _).mono ?_;rintro e W3 ⟨rfl,hb⟩;have S3:=hid (S2.out.call hb);clear hb k0;cases o with
    |false=>have e2:=HE.out;rw[if_pos rfl] at e2;subst e2;have L3:=hid S3.out.low;go_wp2;go_ret;exact⟨rfl,L3.out⟩
    |true=>
     have HE2:=HE.out;rw[if_neg (by decide)] at HE2;have HE3:=hid HE2;clear HE2;go_wp2_with fail
     go_roundg (n-(k+1))
     case measure=>have:=L.out;omega
     case rel=>exact⟨k+1,by have:=L.out;omega,rfl,by go_num,HE3.out,S3.out⟩
  ·obtain rfl:k=n:=by omega
   rw[List.drop_eq_nil_of_le (by rw[HN.out];exact Nat.le_refl _)] at hE;have hE:0=R:=hE;subst hE;have L3:=hid SK.out.low;clear hS hlt hk;go_wp2;go_ret;exact⟨rfl,L3.out⟩
theorem qojj(v:Int)(p:Pk)(a:Ad)(w:World)(hf:CL w a.cs (ics p.codes))(hn:p.codes.length<=70000) :
 Calls prog 176 #[.int .i64 v,.agg (pkC p a)] w fun e w'=>e=.returned (.int .i64 (qq92 v p.kind p.codes:Nat))/\Below w.heap.size w w':=by
 have S0:=hid (BxS.made w p a);have k22:(w.alloc (.cells (pkC p a) 38)).cell? ⟨w.heap.size,22,none⟩=some (.slice a.cs p.codes.length a.cc):=S0.out.cell 22;have K0:∀W,BxS w p a W->W.cell? ⟨w.heap.size,0,none⟩=some (.int .i64 p.kind):=fun W h=>h.cell 0;replace K0:=hid K0;have HF:=hid hf;obtain⟨l,hll⟩:∃l,p.codes=l:=⟨_,rfl⟩
 rw[hll] at HF hn k22 ⊢;obtain⟨n,hnn⟩:∃n,l.length=n:=⟨_,rfl⟩
 rw[hnn] at hn k22;obtain⟨R,hR⟩:∃R,qq92 v p.kind l=R:=⟨_,rfl⟩
 rw[hR];have HR:=hid hR;have HN:=hid hnn;have q0:(n:Int)<=70000:=by omega
 clear hf hll hnn hR hn;generalize p.kind=kind at *;generalize a.cs=A at *;generalize a.cc=c at *;go_in;go_wp2_with fail;clear k22
 go_loopg [10] n (fun gk s10 wx=>∃k:Nat,k<=n/\gk=n-k/\s10=.int .i64 (k:Int)/\qq92 v kind (l.drop k)=R/\BxS w p a wx)
 case atStart=>exact⟨0,Nat.zero_le _,rfl,rfl,HR.out,S0.out⟩
 case round=>
  obtain⟨k,hk,rfl,rfl,hE,hS⟩:=hrel;have SK:=hid hS;have k0:=K0.out _ hS;by_cases hlt:k<n
  ·have hkl:k<l.length:=by rw[HN.out];exact hlt
   obtain⟨z,hp⟩:∃z,l[k]?=some z:=⟨_,List.getElem?_eq_getElem hkl⟩
   have hdr:l.drop k=z::l.drop (k+1):=by rw[List.drop_eq_getElem_cons hkl];rw[List.getElem?_eq_getElem hkl] at hp;rw[Option.some.inj hp]
   obtain⟨ga,ia,rfl,_,a0⟩:=(HF.out.below hS.low).int hp;have CO:=fun W=>qdnh v kind z W;rw[hdr,qq92] at hE;have L:=hid hlt;have g1:(k:Int)<(n:Int):=by omega
   generalize q190 v kind z=o at *;replace CO:=hid CO;have HE:=hid hE;clear hdr hkl hp hS hE hlt hk;go_wp2_with fail;refine(CO.out _).mono ?_;rintro e W3 ⟨rfl,hb⟩;have S3:=hid (SK.out.call hb);clear hb k0;cases o with
   |false=>have e2:=HE.out;rw[if_pos rfl] at e2;subst e2;have L3:=hid S3.out.low;go_wp2;go_ret;exact⟨rfl,L3.out⟩
   |true=>
    have HE2:=HE.out;rw[if_neg (by decide)] at HE2;have HE3:=hid HE2;clear HE2;go_wp2_with fail
    go_roundg (n-(k+1))
    case measure=>have:=L.out;omega
    case rel=>exact⟨k+1,by have:=L.out;omega,rfl,by go_num,HE3.out,S3.out⟩
  ·obtain rfl:k=n:=by omega
   rw[List.drop_eq_nil_of_le (by rw[HN.out];exact Nat.le_refl _)] at hE;have hE:0=R:=hE;subst hE;have L3:=hid SK.out.low;clear hS hlt hk k0;go_wp2;go_ret;exact⟨rfl,L3.out⟩
theorem qn8h(v:Int)(p:Pk):(versC v&&qfws p.kind&&decide (0<p.id)&&decide (p.id<=65535)&&(decide (0<p.filters.length) || decide (0<p.codes.length) || qojk v p.kind)&&decide (p=qtij v p))=okS v p:=by
 unfold okS;have hd:decide ((0:Int)<p.id)=decide (1<=p.id):=by congr 1
 have he:(decide (0<p.filters.length) || decide (0<p.codes.length) || qojk v p.kind)=!(p.filters.isEmpty&&p.codes.isEmpty&&!(p.kind==11&&v==4)):=by unfold qojk;rw[Bool.and_comm (v==4)];generalize (p.kind==11&&v==4)=x;cases p.filters<;>cases p.codes<;>cases x<;>rfl
 rw[hd,he];by_cases hk:qfws p.kind=true
 ·by_cases h5:v=5
  ·subst h5;have e:qtij 5 p=qumw 5 p:=by unfold qtij qumw qojk;simp
   rw[e];generalize decide (p=qumw 5 p)=a;generalize decide (1<=p.id)=c;generalize decide (p.id<=65535)=d;generalize (versC 5&&qfws p.kind)=x;generalize (!(p.filters.isEmpty&&p.codes.isEmpty&&!(p.kind==11&&(5:Int)==4)))=y;cases a<;>cases c<;>cases d<;>cases x<;>cases y<;>rfl
  ·by_cases h4:v=4
   ·subst h4;have hk4:8<=p.kind/\p.kind<=11:=by simpa [qfws] using hk
    have eb:(!qsfj p.kind&&!qojk 4 p.kind)=(!qsfj p.kind&&(p.kind==9 || (4:Int)==5)):=by
     obtain h|h|h|h:p.kind=8\/p.kind=9\/p.kind=10\/p.kind=11:=by omega
     all_goals (rw[h];rfl)
    have e:decide (p=qtij 4 p)=(decide (p=qumw 4 p)&&!((4:Int)==4&&!p.props.isEmpty)):=by
     rw[Bool.eq_iff_iff];simp only[decide_eq_true_eq,Bool.and_eq_true,Bool.not_eq_true',beq_self_eq_true,Bool.true_and,Bool.not_eq_false',List.isEmpty_iff];have eu:p.props=[]->qtij 4 p=qumw 4 p:=fun hp=>by
      unfold qtij qumw;rw[eb,hp]
      rfl
     constructor
     ·intro h;have h2:p.props=[]:=by rw[h];rfl
      exact⟨by rw[<-eu h2];exact h,h2⟩
     ·rintro⟨h,h2⟩;rw[eu h2];exact h
    rw[e];generalize decide (p=qumw 4 p)=a;generalize decide (1<=p.id)=c;generalize decide (p.id<=65535)=d;generalize (versC 4&&qfws p.kind)=x;generalize (!((4:Int)==4&&!p.props.isEmpty))=z;generalize (!(p.filters.isEmpty&&p.codes.isEmpty&&!(p.kind==11&&(4:Int)==4)))=y;cases a<;>cases c<;>cases d<;>cases x<;>cases y<;>cases z<;>rfl
   ·have:versC v=false:=by simp[versC,h4,h5]
    simp[this]
 ·have:qfws p.kind=false:=by simpa using hk
  simp[this]
theorem ql94(v:Int)(p:Pk)(a:Ad)(w:World)(hp:PkAt w p a)(sp:q21o p):Calls prog 174 #[.int .i64 v,.agg (pkC p a)] w fun e w'=>e=.returned (.bool (okS v p))/\Below w.heap.size w w':=by
 have S0:=hid (BxS.made w p a);have C1:=hid (qwmp p a);have KN:=hid (fun V (h:BxS w p a V)=>(q7hd v p.kind V).mono fun e W' (hh:_/\V=W')=>(⟨hh.1,hh.2▸h⟩:_/\BxS w p a W'));have BA:=hid (fun V (h:BxS w p a V)=>(q1kd v p.kind V).mono fun e W' (hh:_/\V=W')=>(⟨hh.1,hh.2▸h⟩:_/\BxS w p a W'));have US:=hid (fun V (h:BxS w p a V)=>(q1ms v p a V).mono fun e W' hh=>(⟨hh.1,h.call hh.2⟩:_/\BxS w p a W'));have SM:=hid (fun V (h:BxS w p a V)=>(qyk8 p (qtij v p) a (qlcd v p.kind a) V (hp.below h.low) (qciq v (hp.below h.low)) sp (q191 v sp)).mono fun e W' hh=>(⟨hh.1,h.call hh.2⟩:_/\BxS w p a W'));have FI:=hid (qn8h v p);generalize okS v p=R at *;generalize decide (p=qtij v p)=s at *;generalize qojk v p.kind=b at *;clear hp sp;go_in
 go_upto_region 1 with fail
 refine qhgg (S:=BxS w p a) (B:=w.heap.size) (k:=p.kind) (i:=p.id) (nc:=p.codes.length) (nf:=p.filters.length) (C:=pkC p a) (D:=pkC (qtij v p) (qlcd v p.kind a)) (b:=b) (s:=s) S0.out.draw C1.out (fun W h=>h.box) (fun W h=>h.cell 0) (fun W h=>h.cell 4) (fun W h=>h.cell 22) (fun W h=>h.cell 23) KN.out BA.out US.out SM.out ?_;intro r W hr h;rw[FI.out] at hr;subst hr;have LO:=hid h.low;clear h
 intros
 go_wp2;go_ret;exact⟨rfl,LO.out⟩
theorem qeuk(v:Int)(p:Pk)(a:Ad)(w:World)(hp:PkAt w p a)(sp:q21o p)(ok:PkOk p)(hc:p.props.length<=a.pc):Calls prog 136 #[.int .i64 v,.agg (pkC p a)] w fun e w'=>e=.returned (.int .i64 (q3m2 v p:Nat))/\Below w.heap.size w w':=by
 have S0:=hid (BxS.made w p a);have C1:=hid (qwmp p a);have FI:=hid (fun W (h:BxS w p a W)=>ql94 v p a W (hp.below h.low) sp);have VA:=fun W (h:BxS w p a W)=>qirc p.kind a.ps p.props.length a.pc p.props W ok.kind.1 ok.kind.2 (hp.below h.low).ps rfl hc (fun x hx=>(ok.pps x hx).1);have CF:=fun W (h:BxS w p a W)=>q5ta v p a W (hp.below h.low).fs sp.2.1 ok.fis;have CC:=fun W (h:BxS w p a W)=>qojj v p a W (hp.below h.low).cs sp.1;have K0:∀W,BxS w p a W->W.cell? ⟨w.heap.size,0,none⟩=some (.int .i64 p.kind):=fun W h=>h.cell 0;have K24:∀W,BxS w p a W->W.cell? ⟨w.heap.size,24,none⟩=some (.slice a.ps p.props.length a.pc):=fun W h=>h.cell 24;replace K0:=hid K0;replace K24:=hid K24;unfold q3m2;cases ho:okS v p with
 |false=>rw[ho] at FI;rw[if_pos rfl];clear hp sp ok hc VA ho CF CC;go_in;go_wp2_with (refine wpList_load_row rfl _ _ rfl w.heap.size rfl 38 _ (0,0) _ S0.out.box underlying38 rfl (by rw[C1.out];exact q5nr) ?_);refine(FI.out _ S0.out).mono ?_;rintro e W ⟨rfl,hb⟩;have LO:=hid (qxh2 S0.out.low hb);clear hb;go_wp2;go_ret;exact⟨rfl,LO.out⟩
 |true=>
  rw[ho] at FI;rw[if_neg (by decide)];have hv:qpyu p.kind p.props=rightC v p.kind p.props:=by
   obtain⟨h45,-,-,-,h4,-⟩:=ok_s ho;unfold rightC;by_cases h5:v=5
   ·rw[if_pos h5]
   ·rw[if_neg h5,h4 (by omega)];rfl
  rw[hv] at VA;generalize rightC v p.kind p.props=q at *;generalize qlck v p.kind p.filters=F at *;generalize qq92 v p.kind p.codes=G at *;replace VA:=hid VA;replace CF:=hid CF;replace CC:=hid CC;clear hp sp ok hc ho hv;by_cases hq:q=0
  ·subst hq;rw[if_neg (by decide)];by_cases hF:F=0
   ·subst hF;rw[if_neg (by decide)];go_in;go_wp2_with (refine wpList_load_row rfl _ _ rfl w.heap.size rfl 38 _ (0,0) _ S0.out.box underlying38 rfl (by rw[C1.out];exact q5nr) ?_);refine(FI.out _ S0.out).mono ?_;rintro e W ⟨rfl,hb⟩;have S1:=hid (S0.out.call hb);have k0:=K0.out W S1.out;have k24:=K24.out W S1.out;clear hb S0;go_wp2_with fail;refine(VA.out _ S1.out).mono ?_;rintro e W2 ⟨rfl,hb⟩;have S2:=hid (S1.out.call hb);clear hb S1 k0 k24;go_wp2_with (refine wpList_load_row rfl _ _ rfl w.heap.size rfl 38 _ (0,0) _ S2.out.box underlying38 rfl (by rw[C1.out];exact q5nr) ?_);refine(CF.out _ S2.out).mono ?_;rintro e W3 ⟨rfl,hb⟩;have S3:=hid (S2.out.call hb);clear hb S2;go_wp2_with (refine wpList_load_row rfl _ _ rfl w.heap.size rfl 38 _ (0,0) _ S3.out.box underlying38 rfl (by rw[C1.out];exact q5nr) ?_);refine(CC.out _ S3.out).mono ?_;rintro e W4 ⟨rfl,hb⟩;have LO:=hid (S3.out.call hb).low;clear hb;go_wp2;go_ret;exact⟨rfl,LO.out⟩
   ·rw[if_pos hF];have g1:((F:Int)==0)=false:=by simp;omega
    have g2:((F:Int) != 0)=true:=by simp;omega
    clear hF;go_in;go_wp2_with (refine wpList_load_row rfl _ _ rfl w.heap.size rfl 38 _ (0,0) _ S0.out.box underlying38 rfl (by rw[C1.out];exact q5nr) ?_);refine(FI.out _ S0.out).mono ?_;rintro e W ⟨rfl,hb⟩;have S1:=hid (S0.out.call hb);have k0:=K0.out W S1.out;have k24:=K24.out W S1.out;clear hb S0;go_wp2_with fail;refine(VA.out _ S1.out).mono ?_;rintro e W2 ⟨rfl,hb⟩;have S2:=hid (S1.out.call hb);clear hb S1 k0 k24;go_wp2_with (refine wpList_load_row rfl _ _ rfl w.heap.size rfl 38 _ (0,0) _ S2.out.box underlying38 rfl (by rw[C1.out];exact q5nr) ?_);refine(CF.out _ S2.out).mono ?_;rintro e W3 ⟨rfl,hb⟩;have LO:=hid (S2.out.call hb).low;clear hb S2;go_wp2;go_ret;exact⟨rfl,LO.out⟩
  ·rw[if_pos hq];have g1:((q:Int)==0)=false:=by simp;omega
   have g2:((q:Int) != 0)=true:=by simp;omega
   clear hq;go_in;go_wp2_with (refine wpList_load_row rfl _ _ rfl w.heap.size rfl 38 _ (0,0) _ S0.out.box underlying38 rfl (by rw[C1.out];exact q5nr) ?_);refine(FI.out _ S0.out).mono ?_;rintro e W ⟨rfl,hb⟩;have S1:=hid (S0.out.call hb);have k0:=K0.out W S1.out;have k24:=K24.out W S1.out;clear hb S0;go_wp2_with fail;refine(VA.out _ S1.out).mono ?_;rintro e W2 ⟨rfl,hb⟩;have LO:=hid (S1.out.call hb).low;clear hb S1 k0 k24;go_wp2;go_ret;exact⟨rfl,LO.out⟩
end Go.Proofs.YtefmhbioggcfaaaGreatDoor
