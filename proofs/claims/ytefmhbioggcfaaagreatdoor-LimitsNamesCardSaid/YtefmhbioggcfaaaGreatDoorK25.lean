/- The contract of varint.Bytes. No condition. -/
import Derived.Deep.CutBlock
import Derived.Test.YtefmhbioggcfaaaGreatDoorK20
import Derived.Test.YtefmhbioggcfaaaGreatDoorK17
set_option maxHeartbeats 2000000
set_option maxRecDepth 100000
namespace Go.Proofs.YtefmhbioggcfaaaGreatDoor
open Lib(hid)
open Proofs.Tryz
open Go.RowKit
theorem qb9o(m:Nat):bits .and .u8 ((m:Int)%256) 127=((m%128:Nat):Int):=by have h:=qbg0 (UInt8.ofNat m);rw[show(UInt8.ofNat m).toNat=m%256 by simp] at h;rw[show(m:Int)%256=((m%256:Nat):Int) by omega,h];omega
theorem qurq(n k:Nat):bits .and .u8 ((n:Int) / 2^(7*k)%256) 127=((n / 128^k%128:Nat):Int):=by
 rw[<-qb9o (n / 128^k)]
 congr 2
 rw[show(128:Nat)=2^7 by decide,<-Nat.pow_mul];simp
theorem q56a(n c k:Nat):u8v (byt n c k)=.int .u8 ((n / 128^k%128+if k+1<c then 128 else 0:Nat):Int):=by unfold u8v;rw[qa5k]
def vbn(n c k:Nat):List UInt8:=(List.range k).map (byt n c)
theorem q47p(n c k:Nat):vbn n c (k+1)=vbn n c k++[byt n c k]:=by simp[vbn,List.range_succ]
theorem quvo(n:Nat)(w:World)(hn:n<=268435455) :
 Calls prog 71 #[.int .i64 n] w fun e w'=>e=.returned (.tuple #[.string (bs (vb n (sz n))),.int .i64 0])/\Below w.heap.size w w':=by
 obtain⟨i0,hi,hz0,hz1,hz2⟩:=info_parts qsz0;have hsz:1<=sz n/\sz n<=4:=by have:=qnl4 n hn;omega
 have HZ:=hid (show ∀W,Calls prog 57 #[.int .i64 n] W fun e w'=>e=.returned (.int .i64 (sz n))/\W=w' from qk0d n);generalize sz n=c at hsz HZ;obtain⟨hc0,hc4⟩:=hsz;have hce:((c:Int)==0)=false:=by simp;omega
 go_in;go_wp2_with (go_at_call 57;refine(HZ.out _).mono ?_;rintro e w' ⟨rfl,rfl⟩)
 go_loopw [5,13] (fun v i wr=>∃k:Nat,k<=c/\i=.int .i64 k/\wr.ownsRow w.heap.size 5 1 v k ((vbn n c k).map u8v)/\Below w.heap.size w wr) (fun _ i _=>c-(intOf i).toNat)
 case atStart=>exact⟨0,Nat.zero_le _,rfl,World.ownsRow_nil _ _ _ _,Below.refl _ _⟩
 case round=>
  obtain⟨k,hk,rfl,hown,hb⟩:=hrel;by_cases hlt:k<c
  ·have hby:=q56a n c k;have hsn:=q47p n c k;have hand0:=qurq n k;generalize hm:n / 128^k=m at hand0 hby;have HM:=hid hm;clear hm;have HS:=hid hsn;clear hsn;have hbs:w.heap.size<=wr.heap.size:=hb.size;have hm128:m%128<128:=Nat.mod_lt _ (by decide);by_cases hl:k+1<c
   ·rw[if_pos hl] at hby;have HB:=hid hby;clear hby;have hor:=qoki (m%128) hm128;generalize m%128=r at hand0 hor HB hm128;have hgo:decide ((k:Int)<(c:Int)-1)=true:=by simp;omega
    go_wp2_with (at_builtin;refine wpList_append_own _ rfl _ _ 58 rfl w.heap.size 5 i0 (.int .u8 0) 1 1 underlying58 hi hz0 hz1 hz2 rfl (by decide) _ _ _ rfl (hown.alloc _) ⟨wr.heap.size,0,none⟩ 1 1 [.int .u8 ((r+128:Nat):Int)] rfl rfl ?c1 ?c2 ?c3 ?c4 ?c5 ?_)
    case c1=>intro j u hj;cases j<;>simp at hj;subst hj;exact World.cell?_alloc_at _ _ _ _ rfl
    case c2=>intro u hu;simp at hu;subst hu;rfl
    case c3=>unfold maxLen;omega
    case c4=>omega
    case c5=>simp;omega
    intro v' w1 hown' hgrow _;have hb':Below w.heap.size w w1:=(hb.alloc hbs _).grown hgrow (by simp;omega) (fun j hj=>by have:=(hown.lt j hj).1;omega);have hown2:w1.ownsRow w.heap.size 5 1 v' (k+1) ((vbn n c (k+1)).map u8v):=by rw[HS.out,List.map_append,List.map_cons,List.map_nil,HB.out];simpa using hown'
    clear hown' hgrow HS HM HB hown hb hand0;go_wp2
    go_roundw
    case rel=>exact⟨k+1,by omega,by go_num,hown2,hb'⟩
    case measure=>simp[intOf];omega
   ·rw[if_neg hl] at hby;have HB:=hid hby;clear hby;generalize m%128=r at hand0 HB hm128;have hgo:decide ((k:Int)<(c:Int)-1)=false:=by simp;omega
    go_wp2_with (at_builtin;refine wpList_append_own _ rfl _ _ 58 rfl w.heap.size 5 i0 (.int .u8 0) 1 1 underlying58 hi hz0 hz1 hz2 rfl (by decide) _ _ _ rfl (hown.alloc _) ⟨wr.heap.size,0,none⟩ 1 1 [.int .u8 (r:Int)] rfl rfl ?c1 ?c2 ?c3 ?c4 ?c5 ?_)
    case c1=>intro j u hj;cases j<;>simp at hj;subst hj;exact World.cell?_alloc_at _ _ _ _ rfl
    case c2=>intro u hu;simp at hu;subst hu;rfl
    case c3=>unfold maxLen;omega
    case c4=>omega
    case c5=>simp;omega
    intro v' w1 hown' hgrow _;have hb':Below w.heap.size w w1:=(hb.alloc hbs _).grown hgrow (by simp;omega) (fun j hj=>by have:=(hown.lt j hj).1;omega);have hown2:w1.ownsRow w.heap.size 5 1 v' (k+1) ((vbn n c (k+1)).map u8v):=by rw[HS.out,List.map_append,List.map_cons,List.map_nil,HB.out];simpa using hown'
    clear hown' hgrow HS HM HB hown hb hand0;go_wp2
    go_roundw
    case rel=>exact⟨k+1,by omega,by go_num,hown2,hb'⟩
    case measure=>simp[intOf];omega
  ·obtain rfl:k=c:=by omega
   have hcv:=q3j9 _ hown;go_wp2
   go_ret2
   exact⟨rfl,hb⟩
theorem qon0(b:Bool)(n:Int)(w:World) :
 Calls prog 109 #[.bool b,.int .i64 n] w fun e w'=>e=.returned (.int .i64 (if b then n else 0))/\w=w':=by
 cases b
 all_goals go_in;go_wp2;go_ret;exact⟨rfl,rfl⟩
theorem q564(v k:Int)(w:World) :
 Calls prog 114 #[.int .i64 v,.int .i64 k] w fun e w'=>e=.returned (.bool (versC v&&(k==1 || k==2)))/\w=w':=by
 unfold versC;have hv:v=4\/v=5\/((v==4)=false/\(v==5)=false):=by
  by_cases h4:v=4
  ·exact .inl h4
  by_cases h5:v=5
  ·exact .inr (.inl h5)
  exact .inr (.inr ⟨beq_eq_false_iff_ne.2 h4,beq_eq_false_iff_ne.2 h5⟩)
 have hk:k=1\/k=2\/((k==1)=false/\(k==2)=false):=by
  by_cases h4:k=1
  ·exact .inl h4
  by_cases h5:k=2
  ·exact .inr (.inl h5)
  exact .inr (.inr ⟨beq_eq_false_iff_ne.2 h4,beq_eq_false_iff_ne.2 h5⟩)
 rcases hv with rfl|rfl|⟨h4,h5⟩
 ·rcases hk with rfl|rfl|⟨k1,k2⟩
  all_goals go_in;go_wp2;go_ret;exact⟨by first|rfl|(rw[k1,k2];rfl),rfl⟩
 ·rcases hk with rfl|rfl|⟨k1,k2⟩
  all_goals go_in;go_wp2;go_ret;exact⟨by first|rfl|(rw[k1,k2];rfl),rfl⟩
 ·rw[h4,h5];go_in;go_wp2;go_ret;exact⟨rfl,rfl⟩
theorem qtz4(v c:Int)(w:World) :
 Calls prog 186 #[.int .i64 v,.int .i64 c] w fun e w'=>e=.returned (.bool (if v=4 then qfn3 c else mayR 2 c))/\Below w.heap.size w w':=by
 have R:=hid (qym3 c);have M:=hid (qeiz 2 c);by_cases h:v=4
 ·subst h;rw[if_pos rfl];go_in;go_wp2_with fail;refine(R.out _).mono ?_;rintro e w' ⟨rfl,rfl⟩;go_wp2;go_ret;exact⟨rfl,Below.refl _ _⟩
 ·rw[if_neg h];have h4:(v==4)=false:=beq_eq_false_iff_ne.2 h;go_in;go_wp2_with fail;refine(M.out _).mono ?_;rintro e w' ⟨rfl,hb⟩;go_wp2;go_ret;exact⟨rfl,hb⟩
def fitC(v:Int)(hw hp hu r:Bool)(q:Int):Bool:=decide (0<=q)&&decide (q<=2)&&(hw || (q==0&&!r))&&!(v==4&&hp&&!hu)
theorem qntu(v:Int){hw hp hu r:Bool}{q:Int}{c:Array Value}(w:World)(h10:c[10]?=some (.bool hu))(h12:c[12]?=some (.bool hp))(h14:c[14]?=some (.bool hw))(h17:c[17]?=some (.int .i64 q))(h18:c[18]?=some (.bool r)) :
 Calls prog 187 #[.int .i64 v,.agg c] w fun e w'=>e=.returned (.bool (fitC v hw hp hu r q))/\Below w.heap.size w w':=by
 have HB:=hid (fun o=>qybm (w:=w) o);unfold fitC;by_cases q0:q<0
 ·rw[decide_eq_false (show ¬0<=q by omega)];go_in;go_wp2;go_ret;exact⟨rfl,HB.out _⟩
 by_cases q2:2<q
 ·rw[decide_eq_true (show 0<=q by omega),decide_eq_false (show ¬q<=2 by omega)];go_in;go_wp2;go_ret;exact⟨rfl,HB.out _⟩
 rw[decide_eq_true (show 0<=q by omega),decide_eq_true (show q<=2 by omega)];have tail:∀(x:Bool),x=true->(v=4/\hp=true/\hu=true\/v=4/\hp=true/\hu=false\/v=4/\hp=false\/(v==4)=false):=fun _ _=>by
  by_cases h4:v=4
  ·cases hp<;>cases hu<;>simp[h4]
  ·exact .inr (.inr (.inr (beq_eq_false_iff_ne.2 h4)))
 have tail:=tail true rfl;cases hw with
 |true=>
  rcases tail with ⟨rfl,rfl,rfl⟩|⟨rfl,rfl,rfl⟩|⟨rfl,rfl⟩|h4
  all_goals go_in;go_wp2;go_ret;exact⟨by first|rfl|(rw[h4];rfl),HB.out _⟩
 |false=>
  by_cases hq:q=0
  ·subst hq;cases r with
   |true=>clear tail;go_in;go_wp2;go_ret;exact⟨rfl,HB.out _⟩
   |false=>
    rcases tail with ⟨rfl,rfl,rfl⟩|⟨rfl,rfl,rfl⟩|⟨rfl,rfl⟩|h4
    all_goals go_in;go_wp2;go_ret;exact⟨by first|rfl|(rw[h4];rfl),HB.out _⟩
  ·have hz:(q==0)=false:=beq_eq_false_iff_ne.2 hq;rw[hz];clear tail;go_in;go_wp2;go_ret;exact⟨rfl,HB.out _⟩
theorem qwk1:(prog.info? 34).map (·.size)=some 5:=by kernel_rfl
theorem qbtu(v:Int)(t y:ByteArray)(q:Int)(r:Bool)(A:Option Addr)(n c:Nat)(w:World) :
 Calls prog 230 #[.int .i64 v,.agg #[.string t,.string y,.int .i64 q,.bool r,.slice A n c]] w fun e w'=>e=.returned (.agg #[.string t,.string y,.int .i64 q,.bool r,.slice (if v=5 then A else none) (if v=5 then n else 0) (if v=5 then c else 0)])/\Below w.heap.size w w':=by
 by_cases h5:v=5
 ·subst h5;go_in;go_wp2_with fail;exact q7wi (cs:=#[.string t,.string y,.int .i64 q,.bool r,.slice A n c]) rfl rfl rfl underlying34 rfl qwk1 (heap_alloc2_new _ _ _) ⟨rfl,qxh2 (qybm _) (qybm _)⟩
 ·have h5':(v==5)=false:=beq_eq_false_iff_ne.2 h5;rw[if_neg h5,if_neg h5,if_neg h5];clear h5;go_in;go_wp2_with fail;exact q7wi (cs:=#[.string t,.string y,.int .i64 q,.bool r,.slice none 0 0]) rfl rfl rfl underlying34 rfl qwk1 (heap_alloc2_new _ _ _) ⟨rfl,qxh2 (qybm _) (qybm _)⟩
def us0(p:Pk):Pk:={Pk.zero with kind:=p.kind}
def us1(v:Int)(p:Pk):Pk:={Pk.zero with kind:=p.kind,props:=if v=5 then p.props else []}
def us1A(v:Int)(a:Ad):Ad:={adZ with ps:=if v=5 then a.ps else none,pc:=if v=5 then a.pc else 0}
def us2(v:Int)(p:Pk):Pk:={us1 v p with session:=p.session,code:=p.code}
def us3(v:Int)(p:Pk):Pk:={us1 v p with clean:=p.clean,keep:=p.keep,client:=p.client,hasWill:=p.hasWill,hasUser:=p.hasUser,hasPass:=p.hasPass}
def us4(v:Int)(p:Pk):Pk:={us3 v p with wTopic:=if p.hasWill then p.wTopic else [],wPayload:=if p.hasWill then p.wPayload else [],wQos:=if p.hasWill then p.wQos else 0,wRetain:=if p.hasWill then p.wRetain else false,wProps:=if p.hasWill then(if v=5 then p.wProps else []) else []}
def us4A(v:Int)(p:Pk)(a:Ad):Ad:={us1A v a with w:=if p.hasWill then(if v=5 then a.w else none) else none,wc:=if p.hasWill then(if v=5 then a.wc else 0) else 0}
def us5(v:Int)(p:Pk):Pk:={us4 v p with user:=if p.hasUser then p.user else []}
def us6(v:Int)(p:Pk):Pk:={us5 v p with pass:=if p.hasPass then p.pass else []}
def q8po(v:Int)(p:Pk):Pk:=if p.kind=2 then us2 v p else us6 v p
def qyxc(v:Int)(p:Pk)(a:Ad):Ad:=if p.kind=2 then us1A v a else us4A v p a
theorem qhin(v:Int)(p:Pk)(a:Ad)(w:World) :
 Calls prog 185 #[.int .i64 v,pkV p a] w fun e w'=>e=.returned (pkV (q8po v p) (qyxc v p a))/\Below w.heap.size w w':=by
 have Z0:((w.alloc (.cells (pkC p a) 38)).alloc (.cells pkZ 38)).heap.size=w.heap.size+1+1:=by simp
 have GN:(((w.alloc (.cells (pkC p a) 38)).alloc (.cells pkZ 38)).alloc (.cells pkZ 38)).heap[w.heap.size+1+1]?=some (.cells pkZ 38 (0,0)):=by
  have:=heap_alloc_new ((w.alloc (.cells (pkC p a) 38)).alloc (.cells pkZ 38)) (.cells pkZ 38)
  rw[Z0] at this;exact this
 have S0:UsS w p a (us0 p) adZ ((((w.alloc (.cells (pkC p a) 38)).alloc (.cells pkZ 38)).alloc (.cells pkZ 38)).setRow (w.heap.size+1+1) (pkC (us0 p) adZ)):=by
  refine⟨q8xz (qxh2 (qxh2 (qybm _) (qybm _)) (qybm _)) (by omega) _,?_,?_,setRow_heap _ _ _ _ _ _ GN⟩
  ·exact(setRow_other _ _ _ _ (by omega)).trans ((heap_alloc_old _ _ (by rw[Z0];omega)).trans (heap_alloc2_old _ _ _))
  ·exact(setRow_other _ _ _ _ (by omega)).trans ((heap_alloc_old _ _ (by rw[Z0];omega)).trans (heap_alloc2_new _ _ _))
 have hzv:=qrai;have hne:¬pkZ=#[]:=by intro h;have:=qbwp;rw[h] at this;cases this
 have HZ:=hid qbwp;have GN:=hid GN;have hD1:=qwmp (us0 p) adZ;have hD2:=qmz0 (us0 p) adZ;obtain⟨D,hD⟩:∃D,pkC (us0 p) adZ=D:=⟨_,rfl⟩
 rw[hD] at hD1 hD2 S0;have HD:=hid hD;have HD1:=hid hD1;have HD2:=hid hD2;have HS0:=hid S0;obtain⟨R,hR⟩:∃R,pkC (q8po v p) (qyxc v p a)=R:=⟨_,rfl⟩
 have HR:=hid hR;unfold pkV;rw[hR];clear hR;have K0:((w.alloc (.cells (pkC p a) 38)).alloc (.cells pkZ 38)).cell? ⟨w.heap.size,0,none⟩=some (.int .i64 p.kind):=cell_of_row _ _ 0 _ _ _ (heap_alloc2_old _ _ _);clear S0 hD hD1 hD2 Z0;go_in
 go_upto_if 10 with (first
  |(refine wpList_buildTo rfl 38 _ rfl (some 8) rfl D (by rw[<-HD.out];kernel_rfl) ?_)
  |(refine wpList_store_row rfl _ _ _ rfl (w.heap.size+1+1) D rfl rfl 38 _ GN.out (by rw[HD1.out];exact q5nr) (by rw[HZ.out,HD1.out]) HD2.out ?_))
 clear K0 GN HZ hne hzv;go_cut [] (fun wx=>UsS w p a (us1 v p) (us1A v a) wx)
 case first=>
  generalize (((w.alloc (.cells (pkC p a) 38)).alloc (.cells pkZ 38)).alloc (.cells pkZ 38)).setRow (w.heap.size+1+1) D=W at *;by_cases h5:v=5
  ·subst h5;have S1:=hid (HS0.out.put 24 (.slice a.ps p.props.length a.pc) (x':=us1 5 p) (b':=us1A 5 a) rfl);have k24:W.cell? ⟨w.heap.size,24,none⟩=some (.slice a.ps p.props.length a.pc):=HS0.out.cell 24;have n24:W.cell? ⟨w.heap.size+1+1,24,none⟩=some (.slice none 0 0):=HS0.out.ncell 24;have f24:=HS0.out.fr 24;clear HS0 GN;go_wp2_with fail
   go_meet
   exact S1.out
  ·have h5':(v==5)=false:=beq_eq_false_iff_ne.2 h5;have SB:=hid (show UsS w p a (us1 v p) (us1A v a) W by rw[us1,us1A,if_neg h5,if_neg h5,if_neg h5];exact HS0.out);clear HS0 h5 GN;go_wp2_with fail
   go_meet
   exact SB.out
 case rest=>
  have HS:=hid hcut;clear hcut HS0 GN;have k0:wc.cell? ⟨w.heap.size,0,none⟩=some (.int .i64 p.kind):=HS.out.cell 0;by_cases h2:p.kind=2
  ·rw[q8po,qyxc,if_pos h2,if_pos h2] at HR;rw[h2] at k0;clear h2;have k20:wc.cell? ⟨w.heap.size,20,none⟩=some (.bool p.session):=HS.out.cell 20;have k21:wc.cell? ⟨w.heap.size,21,none⟩=some (.int .i64 p.code):=HS.out.cell 21;have n20:wc.cell? ⟨w.heap.size+1+1,20,none⟩=some (.bool false):=HS.out.ncell 20;have f20:=HS.out.fr 20;have n21:wc.cell? ⟨w.heap.size+1+1,21,none⟩=some (.int .i64 0):=HS.out.ncell 21;have f21:=HS.out.fr 21;have S5:=hid ((HS.out.put 20 (.bool p.session) (x':={us1 v p with session:=p.session}) (b':=us1A v a) rfl).put 21 (.int .i64 p.code) (x':=us2 v p) (b':=us1A v a) rfl)
   go_upto_region 5 with fail
   go_cut [] (fun wx=>UsS w p a (us2 v p) (us1A v a) wx)
   case first=>
    go_region
    go_wp2_with fail
    go_meet
    exact S5.out.drew
   case rest=>
    have HS:=hid hcut;clear hcut k0 k20 k21 n20 n21 f20 f21 S5;have GB:=HS.out.new;rw[HR.out] at GB;have GB:=hid GB;have GR:=hid HS.out.res;have LO:=hid HS.out.low;have hR1:=qwmp (us2 v p) (us1A v a);have hR2:=qmz0 (us2 v p) (us1A v a);rw[HR.out] at hR1 hR2;have HR1:=hid hR1;have HR2:=hid hR2;clear hR1 hR2 HS;go_wp2_with (first
     |(refine wpList_load_row rfl _ _ rfl (w.heap.size+1+1) rfl 38 R (0,0) _ GB.out underlying38 rfl (by rw[HR1.out];exact q5nr) ?_)
     |(refine wpList_store_row rfl _ _ _ rfl (w.heap.size+1) R rfl rfl 38 _ GR.out (by rw[HR1.out];exact q5nr) (by rw[qbwp,HR1.out]) HR2.out ?_))
    exact q7wi (cs:=R) rfl rfl rfl underlying38 rfl (by rw[HR1.out];exact q5nr) (setRow_heap _ _ _ _ _ _ GR.out) ⟨rfl,q8xz LO.out (by omega) _⟩
  ·rw[q8po,qyxc,if_neg h2,if_neg h2] at HR;have h2':(p.kind==2)=false:=beq_eq_false_iff_ne.2 h2;clear h2;have k7:wc.cell? ⟨w.heap.size,7,none⟩=some (.bool p.clean):=HS.out.cell 7;have k8:wc.cell? ⟨w.heap.size,8,none⟩=some (.int .i64 p.keep):=HS.out.cell 8;have k9:wc.cell? ⟨w.heap.size,9,none⟩=some (.string (bs p.client)):=HS.out.cell 9;have n7:wc.cell? ⟨w.heap.size+1+1,7,none⟩=some (.bool false):=HS.out.ncell 7;have f7:=HS.out.fr 7;have n8:wc.cell? ⟨w.heap.size+1+1,8,none⟩=some (.int .i64 0):=HS.out.ncell 8;have f8:=HS.out.fr 8;have n9:wc.cell? ⟨w.heap.size+1+1,9,none⟩=some (.string ⟨#[]⟩):=HS.out.ncell 9;have f9:=HS.out.fr 9;have S7:=hid (((HS.out.put 7 (.bool p.clean) (x':={us1 v p with clean:=p.clean}) (b':=us1A v a) rfl).put 8 (.int .i64 p.keep) (x':={us1 v p with clean:=p.clean,keep:=p.keep}) (b':=us1A v a) rfl).put 9 (.string (bs p.client)) (x':={us1 v p with clean:=p.clean,keep:=p.keep,client:=p.client}) (b':=us1A v a) rfl)
   go_upto_region 7 with fail
   go_cut [] (fun wx=>UsS w p a {us1 v p with clean:=p.clean,keep:=p.keep,client:=p.client} (us1A v a) wx)
   case first=>
    go_region
    go_wp2_with fail
    go_meet
    exact S7.out.drew
   case rest=>
    clear k0 k7 k8 k9 n7 n8 n9 f7 f8 f9 S7 HS h2';rename_i wc';have HS:=hid hcut;clear hcut;have k14:wc.cell? ⟨w.heap.size,14,none⟩=some (.bool p.hasWill):=HS.out.cell 14;have k10:wc.cell? ⟨w.heap.size,10,none⟩=some (.bool p.hasUser):=HS.out.cell 10;have k12:wc.cell? ⟨w.heap.size,12,none⟩=some (.bool p.hasPass):=HS.out.cell 12;have n14:wc.cell? ⟨w.heap.size+1+1,14,none⟩=some (.bool false):=HS.out.ncell 14;have f14:=HS.out.fr 14;have n10:wc.cell? ⟨w.heap.size+1+1,10,none⟩=some (.bool false):=HS.out.ncell 10;have f10:=HS.out.fr 10;have n12:wc.cell? ⟨w.heap.size+1+1,12,none⟩=some (.bool false):=HS.out.ncell 12;have f12:=HS.out.fr 12;have S8:=hid (((HS.out.put 14 (.bool p.hasWill) (x':={us1 v p with clean:=p.clean,keep:=p.keep,client:=p.client,hasWill:=p.hasWill}) (b':=us1A v a) rfl).put 10 (.bool p.hasUser) (x':={us1 v p with clean:=p.clean,keep:=p.keep,client:=p.client,hasWill:=p.hasWill,hasUser:=p.hasUser}) (b':=us1A v a) rfl).put 12 (.bool p.hasPass) (x':=us3 v p) (b':=us1A v a) rfl)
    go_upto_region 8 with fail
    go_cut [] (fun wx=>UsS w p a (us3 v p) (us1A v a) wx)
    case first=>
     go_region
     go_wp2_with fail
     go_meet
     exact S8.out.drew
    case rest=>
     clear HS k14 k10 k12 n14 n10 n12 f14 f10 f12 S8;have HS:=hid hcut;clear hcut;have k14:wc.cell? ⟨w.heap.size,14,none⟩=some (.bool p.hasWill):=HS.out.cell 14
     go_upto_if 43 with fail
     go_cut [] (fun wx=>UsS w p a (us4 v p) (us4A v p a) wx)
     case first=>
      cases hw:p.hasWill with
      |false=>
       have S4:=hid (show UsS w p a (us4 v p) (us4A v p a) _ by unfold us4 us4A;rw[hw];exact HS.out);go_wp2_with fail
       go_meet
       exact S4.out
      |true=>
       have k15:wc.cell? ⟨w.heap.size,15,none⟩=some (.string (bs p.wTopic)):=HS.out.cell 15;have k16:wc.cell? ⟨w.heap.size,16,none⟩=some (.string (bs p.wPayload)):=HS.out.cell 16;have k17:wc.cell? ⟨w.heap.size,17,none⟩=some (.int .i64 p.wQos):=HS.out.cell 17;have k18:wc.cell? ⟨w.heap.size,18,none⟩=some (.bool p.wRetain):=HS.out.cell 18;have k19:wc.cell? ⟨w.heap.size,19,none⟩=some (.slice a.w p.wProps.length a.wc):=HS.out.cell 19;obtain⟨zA,hA⟩:∃z,(if v=5 then a.w else none)=z:=⟨_,rfl⟩
       obtain⟨zn,hn⟩:∃z,(if v=5 then p.wProps.length else 0)=z:=⟨_,rfl⟩
       obtain⟨zc,hc⟩:∃z,(if v=5 then a.wc else 0)=z:=⟨_,rfl⟩
       have CW:=qbtu v (bs p.wTopic) (bs p.wPayload) p.wQos p.wRetain a.w p.wProps.length a.wc;rw[hA,hn,hc] at CW;have CW:=hid CW;have he:(pkC {us3 v p with wTopic:=p.wTopic,wPayload:=p.wPayload,wQos:=p.wQos,wRetain:=p.wRetain} (us1A v a)).setIfInBounds 19 (.slice zA zn zc)=pkC {us3 v p with wTopic:=p.wTopic,wPayload:=p.wPayload,wQos:=p.wQos,wRetain:=p.wRetain,wProps:=if v=5 then p.wProps else []} {us1A v a with w:=if v=5 then a.w else none,wc:=if v=5 then a.wc else 0}:=by
        have hl:(if v=5 then p.wProps.length else 0)=(if v=5 then p.wProps else []).length:=by split<;>rfl
        subst hA hn hc;rw[hl]
        rfl
       have HE:=hid he;have h4:us4 v p={us3 v p with wTopic:=p.wTopic,wPayload:=p.wPayload,wQos:=p.wQos,wRetain:=p.wRetain,wProps:=if v=5 then p.wProps else []}:=by unfold us4;simp only[hw,if_true]
       have h4A:us4A v p a={us1A v a with w:=if v=5 then a.w else none,wc:=if v=5 then a.wc else 0}:=by unfold us4A;simp only[hw,if_true]
       have H4:=hid h4;have H4A:=hid h4A;clear hA hn hc he h4 h4A;go_wp2_with fail;refine(CW.out _).mono ?_;rintro e W2 ⟨rfl,hb⟩;have HS:=hid (HS.out.call hb);clear hb k15 k16 k17 k18 k19 k14;have n15:W2.cell? ⟨w.heap.size+1+1,15,none⟩=some (.string ⟨#[]⟩):=HS.out.ncell 15;have f15:=HS.out.fr 15;have n16:W2.cell? ⟨w.heap.size+1+1,16,none⟩=some (.string ⟨#[]⟩):=HS.out.ncell 16;have f16:=HS.out.fr 16;have n17:W2.cell? ⟨w.heap.size+1+1,17,none⟩=some (.int .i64 0):=HS.out.ncell 17;have f17:=HS.out.fr 17;have n18:W2.cell? ⟨w.heap.size+1+1,18,none⟩=some (.bool false):=HS.out.ncell 18;have f18:=HS.out.fr 18;have n19:W2.cell? ⟨w.heap.size+1+1,19,none⟩=some (.slice none 0 0):=HS.out.ncell 19;have f19:=HS.out.fr 19;have S4:=hid (((((HS.out.put 15 (.string (bs p.wTopic)) (x':={us3 v p with wTopic:=p.wTopic}) (b':=us1A v a) rfl).put 16 (.string (bs p.wPayload)) (x':={us3 v p with wTopic:=p.wTopic,wPayload:=p.wPayload}) (b':=us1A v a) rfl).put 17 (.int .i64 p.wQos) (x':={us3 v p with wTopic:=p.wTopic,wPayload:=p.wPayload,wQos:=p.wQos}) (b':=us1A v a) rfl).put 18 (.bool p.wRetain) (x':={us3 v p with wTopic:=p.wTopic,wPayload:=p.wPayload,wQos:=p.wQos,wRetain:=p.wRetain}) (b':=us1A v a) rfl).put 19 (.slice zA zn zc) (x':={us3 v p with wTopic:=p.wTopic,wPayload:=p.wPayload,wQos:=p.wQos,wRetain:=p.wRetain,wProps:=if v=5 then p.wProps else []}) (b':={us1A v a with w:=if v=5 then a.w else none,wc:=if v=5 then a.wc else 0}) HE.out);go_wp2_with fail
       go_meet
       rw[H4.out,H4A.out];exact S4.out
     case rest=>
      clear k14 HS;have HS:=hid hcut;clear hcut;have k10:wc.cell? ⟨w.heap.size,10,none⟩=some (.bool p.hasUser):=HS.out.cell 10
      go_upto_if 50 with fail
      go_cut [] (fun wx=>UsS w p a (us5 v p) (us4A v p a) wx)
      case first=>
       cases hw:p.hasUser with
       |false=>
        have S4:=hid (show UsS w p a (us5 v p) (us4A v p a) _ by unfold us5;rw[hw];exact HS.out);go_wp2_with fail
        go_meet
        exact S4.out
       |true=>
        have h5:us5 v p={us4 v p with user:=p.user}:=by unfold us5;simp only[hw,if_true]
        have H5:=hid h5;clear h5;have k11:wc.cell? ⟨w.heap.size,11,none⟩=some (.string (bs p.user)):=HS.out.cell 11;have n11:wc.cell? ⟨w.heap.size+1+1,11,none⟩=some (.string ⟨#[]⟩):=HS.out.ncell 11;have f11:=HS.out.fr 11;have S4:=hid (HS.out.put 11 (.string (bs p.user)) (x':={us4 v p with user:=p.user}) (b':=us4A v p a) rfl);go_wp2_with fail
        go_meet
        rw[H5.out];exact S4.out
      case rest=>
       clear k10 HS;have HS:=hid hcut;clear hcut;have k12:wc.cell? ⟨w.heap.size,12,none⟩=some (.bool p.hasPass):=HS.out.cell 12
       go_upto_if 55 with fail
       go_cut [] (fun wx=>UsS w p a (us6 v p) (us4A v p a) wx)
       case first=>
        cases hw:p.hasPass with
        |false=>
         have S4:=hid (show UsS w p a (us6 v p) (us4A v p a) _ by unfold us6;rw[hw];exact HS.out);go_wp2_with fail
         go_meet
         exact S4.out
        |true=>
         have h5:us6 v p={us5 v p with pass:=p.pass}:=by unfold us6;simp only[hw,if_true]
         have H5:=hid h5;clear h5;have k13:wc.cell? ⟨w.heap.size,13,none⟩=some (.string (bs p.pass)):=HS.out.cell 13;have n13:wc.cell? ⟨w.heap.size+1+1,13,none⟩=some (.string ⟨#[]⟩):=HS.out.ncell 13;have f13:=HS.out.fr 13;have S4:=hid (HS.out.put 13 (.string (bs p.pass)) (x':={us5 v p with pass:=p.pass}) (b':=us4A v p a) rfl);go_wp2_with fail
         go_meet
         rw[H5.out];exact S4.out
       case rest=>
        clear k12 HS;have HS:=hid hcut;clear hcut;have GB:=HS.out.new;rw[HR.out] at GB;have GB:=hid GB;have GR:=hid HS.out.res;have LO:=hid HS.out.low;have hR1:=qwmp (us6 v p) (us4A v p a);have hR2:=qmz0 (us6 v p) (us4A v p a);rw[HR.out] at hR1 hR2;have HR1:=hid hR1;have HR2:=hid hR2;clear hR1 hR2 HS;go_wp2_with (first
         |(refine wpList_load_row rfl _ _ rfl (w.heap.size+1+1) rfl 38 R (0,0) _ GB.out underlying38 rfl (by rw[HR1.out];exact q5nr) ?_)
         |(refine wpList_store_row rfl _ _ _ rfl (w.heap.size+1) R rfl rfl 38 _ GR.out (by rw[HR1.out];exact q5nr) (by rw[qbwp,HR1.out]) HR2.out ?_))
        exact q7wi (cs:=R) rfl rfl rfl underlying38 rfl (by rw[HR1.out];exact q5nr) (setRow_heap _ _ _ _ _ _ GR.out) ⟨rfl,q8xz LO.out (by omega) _⟩
def qtij(v:Int)(p:Pk):Pk:={Pk.zero with kind:=p.kind,id:=p.id,filters:=if qsfj p.kind then p.filters else [],codes:=if !qsfj p.kind&&!qojk v p.kind then p.codes else [],props:=if v=5 then p.props else []}
def qlcd(v k:Int)(a:Ad):Ad:={adZ with fs:=if qsfj k then a.fs else none,fc:=if qsfj k then a.fc else 0,cs:=if !qsfj k&&!qojk v k then a.cs else none,cc:=if !qsfj k&&!qojk v k then a.cc else 0,ps:=if v=5 then a.ps else none,pc:=if v=5 then a.pc else 0}
theorem qciq{w:World}{p:Pk}{a:Ad}(v:Int)(h:PkAt w p a):PkAt w (qtij v p) (qlcd v p.kind a):=by
 refine⟨fun e=>absurd rfl e,?_,?_,?_⟩
 ·unfold qtij qlcd;cases (!qsfj p.kind&&!qojk v p.kind)
  ·exact fun e=>absurd rfl e
  ·exact h.cs
 ·unfold qtij qlcd;cases qsfj p.kind
  ·exact fun e=>absurd rfl e
  ·exact h.fs
 ·unfold qtij qlcd;by_cases h5:v=5
  ·simp only[if_pos h5];exact h.ps
  ·simp only[if_neg h5];exact fun e=>absurd rfl e
theorem q191{p:Pk}(v:Int)(h:q21o p):q21o (qtij v p):=by
 refine⟨?_,?_,?_,Nat.zero_le _⟩
 ·unfold qtij;cases (!qsfj p.kind&&!qojk v p.kind)
  ·exact Nat.zero_le _
  ·exact h.1
 ·unfold qtij;cases qsfj p.kind
  ·exact Nat.zero_le _
  ·exact h.2.1
 ·unfold qtij;by_cases h5:v=5
  ·simp only[if_pos h5];exact h.2.2.1
  ·simp only[if_neg h5];exact Nat.zero_le _
def us0T(p:Pk):Pk:={Pk.zero with kind:=p.kind,id:=p.id}
def us1T(v:Int)(p:Pk):Pk:={Pk.zero with kind:=p.kind,id:=p.id,filters:=if qsfj p.kind then p.filters else [],codes:=if !qsfj p.kind&&!qojk v p.kind then p.codes else []}
def qxsp(v k:Int)(a:Ad):Ad:={adZ with fs:=if qsfj k then a.fs else none,fc:=if qsfj k then a.fc else 0,cs:=if !qsfj k&&!qojk v k then a.cs else none,cc:=if !qsfj k&&!qojk v k then a.cc else 0}
theorem q1ms(v:Int)(p:Pk)(a:Ad)(w:World):Calls prog 218 #[.int .i64 v,.agg (pkC p a)] w fun e w'=>e=.returned (.agg (pkC (qtij v p) (qlcd v p.kind a)))/\Below w.heap.size w w':=by
 have Z0:((w.alloc (.cells (pkC p a) 38)).alloc (.cells pkZ 38)).heap.size=w.heap.size+1+1:=by simp
 have GN:(((w.alloc (.cells (pkC p a) 38)).alloc (.cells pkZ 38)).alloc (.cells pkZ 38)).heap[w.heap.size+1+1]?=some (.cells pkZ 38 (0,0)):=by
  have:=heap_alloc_new ((w.alloc (.cells (pkC p a) 38)).alloc (.cells pkZ 38)) (.cells pkZ 38)
  rw[Z0] at this;exact this
 have S0:UsS w p a (us0T p) adZ ((((w.alloc (.cells (pkC p a) 38)).alloc (.cells pkZ 38)).alloc (.cells pkZ 38)).setRow (w.heap.size+1+1) (pkC (us0T p) adZ)):=by
  refine⟨q8xz (qxh2 (qxh2 (qybm _) (qybm _)) (qybm _)) (by omega) _,?_,?_,setRow_heap _ _ _ _ _ _ GN⟩
  ·exact(setRow_other _ _ _ _ (by omega)).trans ((heap_alloc_old _ _ (by rw[Z0];omega)).trans (heap_alloc2_old _ _ _))
  ·exact(setRow_other _ _ _ _ (by omega)).trans ((heap_alloc_old _ _ (by rw[Z0];omega)).trans (heap_alloc2_new _ _ _))
 have hzv:=qrai;have hne:¬pkZ=#[]:=by intro h;have:=qbwp;rw[h] at this;cases this
 have HZ:=hid qbwp;have GN:=hid GN;have hD1:=qwmp (us0T p) adZ;have hD2:=qmz0 (us0T p) adZ;obtain⟨D,hD⟩:∃D,pkC (us0T p) adZ=D:=⟨_,rfl⟩
 rw[hD] at hD1 hD2 S0;have HD:=hid hD;have HD1:=hid hD1;have HD2:=hid hD2;have HS0:=hid S0;have k0:((w.alloc (.cells (pkC p a) 38)).alloc (.cells pkZ 38)).cell? ⟨w.heap.size,0,none⟩=some (.int .i64 p.kind):=cell_of_row _ _ 0 _ _ _ (heap_alloc2_old _ _ _);have k4:((w.alloc (.cells (pkC p a) 38)).alloc (.cells pkZ 38)).cell? ⟨w.heap.size,4,none⟩=some (.int .i64 p.id):=cell_of_row _ _ 4 _ _ _ (heap_alloc2_old _ _ _);clear S0 hD hD1 hD2 Z0;go_in;go_upto_block 0 with (first
  |(refine wpList_buildTo rfl 38 _ rfl (some _) rfl D (by rw[<-HD.out];kernel_rfl) ?_)
  |(refine wpList_store_row rfl _ _ _ rfl (w.heap.size+1+1) D rfl rfl 38 _ GN.out (by rw[HD1.out];exact q5nr) (by rw[HZ.out,HD1.out]) HD2.out ?_))
 clear k0 k4 GN HZ hne hzv;generalize (((w.alloc (.cells (pkC p a) 38)).alloc (.cells pkZ 38)).alloc (.cells pkZ 38)).setRow (w.heap.size+1+1) D=W at *;dsimp only[Act.put];go_cut [] (fun wx=>UsS w p a (us1T v p) (qxsp v p.kind a) wx)
 case first=>
  have k0:W.cell? ⟨w.heap.size,0,none⟩=some (.int .i64 p.kind):=HS0.out.cell 0;cases ha:qsfj p.kind with
  |true=>
   have S1:=hid (HS0.out.put 23 (.slice a.fs p.filters.length a.fc) (x':=us1T v p) (b':=qxsp v p.kind a) (by unfold us1T qxsp us0T;rw[ha];rfl));have k23:W.cell? ⟨w.heap.size,23,none⟩=some (.slice a.fs p.filters.length a.fc):=HS0.out.cell 23;have n23:W.cell? ⟨w.heap.size+1+1,23,none⟩=some (.slice none 0 0):=HS0.out.ncell 23;have f23:=HS0.out.fr 23;have AS:=hid (fun W=>(ha▸qczm p.kind W:Calls prog 180 #[.int .i64 p.kind] W fun e w'=>e=.returned (.bool true)/\W=w'));clear HS0 ha;go_wp2_with (go_at_call 180;refine(AS.out _).mono ?_;rintro e W2 ⟨rfl,rfl⟩)
   go_meet
   exact S1.out
  |false=>
   have AS:=hid (fun W=>(ha▸qczm p.kind W:Calls prog 180 #[.int .i64 p.kind] W fun e w'=>e=.returned (.bool false)/\W=w'));cases hb:qojk v p.kind with
   |true=>
    have BA:=hid (fun W=>(hb▸q1kd v p.kind W:Calls prog 217 #[.int .i64 v,.int .i64 p.kind] W fun e w'=>e=.returned (.bool true)/\W=w'));have S1:=hid (show UsS w p a (us1T v p) (qxsp v p.kind a) W by unfold us1T qxsp;rw[ha,hb];exact HS0.out);clear HS0 ha hb;go_wp2_with (first
     |(go_at_call 180;refine(AS.out _).mono ?_;rintro e W2 ⟨rfl,rfl⟩)
     |(go_at_call 217;refine(BA.out _).mono ?_;rintro e W2 ⟨rfl,rfl⟩))
    go_meet
    exact S1.out
   |false=>
    have BA:=hid (fun W=>(hb▸q1kd v p.kind W:Calls prog 217 #[.int .i64 v,.int .i64 p.kind] W fun e w'=>e=.returned (.bool false)/\W=w'));have S1:=hid (HS0.out.put 22 (.slice a.cs p.codes.length a.cc) (x':=us1T v p) (b':=qxsp v p.kind a) (by unfold us1T qxsp us0T;rw[ha,hb];rfl));have k22:W.cell? ⟨w.heap.size,22,none⟩=some (.slice a.cs p.codes.length a.cc):=HS0.out.cell 22;have n22:W.cell? ⟨w.heap.size+1+1,22,none⟩=some (.slice none 0 0):=HS0.out.ncell 22;have f22:=HS0.out.fr 22;clear HS0 ha hb;go_wp2_with (first
     |(go_at_call 180;refine(AS.out _).mono ?_;rintro e W2 ⟨rfl,rfl⟩)
     |(go_at_call 217;refine(BA.out _).mono ?_;rintro e W2 ⟨rfl,rfl⟩))
    go_meet
    exact S1.out
 case rest=>
  have H1:=hid hcut;clear hcut HS0
  go_upto_if 28 with fail
  go_cut [] (fun wx=>UsS w p a (qtij v p) (qlcd v p.kind a) wx)
  case first=>
   by_cases h5:v=5
   ·subst h5;have S1:=hid (H1.out.put 24 (.slice a.ps p.props.length a.pc) (x':=qtij 5 p) (b':=qlcd 5 p.kind a) rfl);have k24:wc.cell? ⟨w.heap.size,24,none⟩=some (.slice a.ps p.props.length a.pc):=H1.out.cell 24;have n24:wc.cell? ⟨w.heap.size+1+1,24,none⟩=some (.slice none 0 0):=H1.out.ncell 24;have f24:=H1.out.fr 24;clear H1;go_wp2_with fail
    go_meet
    exact S1.out
   ·have h5':(v==5)=false:=beq_eq_false_iff_ne.2 h5;have SB:=hid (show UsS w p a (qtij v p) (qlcd v p.kind a) wc by unfold qtij qlcd;rw[if_neg h5,if_neg h5,if_neg h5];exact H1.out)
    clear H1 h5;go_wp2_with fail
    go_meet
    exact SB.out
  case rest=>
   have HS:=hid hcut;clear hcut H1;have GB:=HS.out.new;have GR:=hid HS.out.res;have LO:=hid HS.out.low;have hR1:=qwmp (qtij v p) (qlcd v p.kind a);have hR2:=qmz0 (qtij v p) (qlcd v p.kind a);obtain⟨R,hR⟩:∃R,pkC (qtij v p) (qlcd v p.kind a)=R:=⟨_,rfl⟩
   rw[hR] at GB hR1 hR2;have HR:=hid hR;have GB:=hid GB;have HR1:=hid hR1;have HR2:=hid hR2;clear hR1 hR2 HS hR;go_wp2_with (first
    |(refine wpList_load_row rfl _ _ rfl (w.heap.size+1+1) rfl 38 R (0,0) _ GB.out underlying38 rfl (by rw[HR1.out];exact q5nr) ?_)
    |(refine wpList_store_row rfl _ _ _ rfl (w.heap.size+1) R rfl rfl 38 _ GR.out (by rw[HR1.out];exact q5nr) (by rw[qbwp,HR1.out]) HR2.out ?_))
   exact q7wi (cs:=R) rfl rfl rfl underlying38 rfl (by rw[HR1.out];exact q5nr) (setRow_heap _ _ _ _ _ _ GR.out) ⟨by rw[HR.out],q8xz LO.out (by omega) _⟩
theorem qjhv(x y:Nat)(hx:x<16)(hy:y<16):bits .or .i64 ((x:Int)*16) (y:Int)=((16*x+y:Nat):Int):=by
 have all:∀x:Fin 16,∀y:Fin 16,bits .or .i64 ((x.val:Int)*16) (y.val:Int)=((16*x.val+y.val:Nat):Int):=by decide+kernel
 exact all ⟨x,hx⟩ ⟨y,hy⟩
theorem qpfh(n:Nat):be n (min (1:Int) 16).toNat=[UInt8.ofNat n]:=by show be n 1=_;simp[be]
def qwqq(v:Int)(h:Hd)(w:World)(e:Ending)(w':World):Prop:=e=.returned (.tuple #[.string (bs (qnxm v h)),.int .i64 (q9d8 v h:Nat)])/\Below w.heap.size w w'
theorem q43z(v:Int)(h:Hd)(w:World):Calls prog 48 #[.int .i64 v,hdV h] w (qwqq v h w):=by
 have C:=hid (q5sb v h);have HB:=hid (fun o=>qybm (w:=w) o);unfold qwqq qnxm;by_cases hc:q9d8 v h=0
 ·rw[hc] at C;rw[if_pos hc,hc];have hz:=qri3.1 hc;have hk:=q39c hz.2.1;have hf:=qo5i hz.2.2.1;obtain⟨k,f,l⟩:=h;obtain⟨x,rfl⟩:∃x:Nat,k=(x:Int):=⟨k.toNat,by have:1<=k:=hk.1;omega⟩
  obtain⟨y,rfl⟩:∃x:Nat,f=(x:Int):=⟨f.toNat,by have:0<=f:=hf.1;omega⟩
  obtain⟨n,rfl⟩:∃x:Nat,l=(x:Int):=⟨l.toNat,by have:0<=l:=hz.2.2.2.1;omega⟩
  have hx:x<16:=by have:(x:Int)<=15:=hk.2;omega
  have hy:y<16:=by have:(y:Int)<=15:=hf.2;omega
  have hn:n<=268435455:=by have:(n:Int)<=268435455:=hz.2.2.2.2;omega
  have hor:=qjhv x y hx hy;have hraw:bs [UInt8.ofNat (16*x+y)]++bs (vb n (sz n))=bs (rawH ⟨x,y,n⟩):=by
   rw[qlmc];unfold rawH qytq
   congr 2
  have hcat:¬9223372036854775807<(bs [UInt8.ofNat (16*x+y)]).size+(bs (vb n (sz n))).size:=by
   rw[qkrc,qkrc,q8sw]
   have:=qnl4 n hn
   simp only[List.length_cons,List.length_nil];omega
  have hx2:(x:Int)<=15:=by omega
  have P:=hid (fun W=>qe3g (16*x+y) 1 W (by omega));rw[qpfh] at P;have V:=hid (fun W=>quvo n W hn);have hz2:((16*x+y:Nat):Int)<=255:=by omega
  generalize bs (rawH ⟨x,y,n⟩)=R at *;generalize bs [UInt8.ofNat (16*x+y)]=A at *;generalize bs (vb n (sz n))=B at *;generalize 16*x+y=z at *;have HR:=hid hraw;clear hraw hz hk hf hn hy hx hc;unfold hdV at *;go_in;go_wp2_with fail;refine(C.out _).mono ?_;rintro e w' ⟨rfl,hb⟩;have B2:=hid (qxh2 (HB.out _) hb);have h0:=hb.cell (p:=⟨w.heap.size,0,none⟩) (by simp);have h1:=hb.cell (p:=⟨w.heap.size,1,none⟩) (by simp);have h2:=hb.cell (p:=⟨w.heap.size,2,none⟩) (by simp);rw[World.cell?_alloc_at _ _ _ _ rfl] at h0 h1 h2;have HS:=hid (show w.heap.size<w'.heap.size by have:=hb.size;rw[World.size_alloc] at this;omega);clear hb;go_wp2_with fail;refine(V.out _).mono ?_;rintro e w2 ⟨rfl,hb⟩;have B3:=hid (qxh2 B2.out hb);replace h0:=(hb.cell (p:=⟨w.heap.size,0,none⟩) HS.out).trans h0;replace h1:=(hb.cell (p:=⟨w.heap.size,1,none⟩) HS.out).trans h1;clear hb h2;go_wp2_with fail;refine(P.out _).mono ?_;rintro e w3 ⟨rfl,hb⟩;have B4:=hid (qxh2 B3.out hb);clear hb h0 h1;go_wp2
  go_ret2
  exact⟨congrArg (fun b=>Ending.returned (Value.tuple #[.string b,.int .i64 0])) HR.out,B4.out⟩
 ·rw[if_neg hc];have hn:(((q9d8 v h:Nat):Int)==0)=false:=by simp;omega
  generalize q9d8 v h=z at *;clear hc;unfold hdV at *;go_in;go_wp2_with fail;refine(C.out _).mono ?_;rintro e w' ⟨rfl,hb⟩;have B2:=hid (qxh2 (HB.out _) hb);clear hb;go_wp2
  go_ret2
  exact⟨rfl,B2.out⟩
theorem q8tq(n:Int):bits .and .i64 n 3=n%4:=by
 have h3:(BitVec.ofInt 64 3).toNat=2^2-1:=by decide
 have key:(BitVec.ofInt 64 n &&& BitVec.ofInt 64 3).toNat=(n%((2^64:Nat):Int)).toNat%2^2:=by rw[BitVec.toNat_and,BitVec.toNat_ofInt,h3,Nat.and_two_pow_sub_one_eq_mod]
 show IntKind.i64.wrap ((BitVec.ofInt 64 n &&& BitVec.ofInt 64 3).toNat:Nat)=n%4;rw[key,IntKind.wrap_i64];omega
theorem q1i3:∀(u a r h c:Bool) (q:Nat),q<4->
 bits .or .i64 (bits .or .i64 (bits .or .i64 (bits .or .i64 (bits .or .i64 (if u then 128 else 0) (if a then 64 else 0)) (if r then 32 else 0)) ((q:Int)*8)) (if h then 4 else 0)) (if c then 2 else 0)=
  ((bitC u 128+bitC a 64+bitC r 32+8*q+bitC h 4+bitC c 2:Nat):Int):=by
 intro u a r h c q hq;obtain rfl|rfl|rfl|rfl:q=0\/q=1\/q=2\/q=3:=by omega
 all_goals (revert u a r h c;decide+kernel)
theorem qdq7(p:Pk)(a:Ad)(w:World) :
 Calls prog 111 #[pkV p a] w fun e w'=>e=.returned (.int .i64 ((qc61 p:Nat):Int))/\Below w.heap.size w w':=by
 have B0:=hid (qybm (w:=w) (.cells (pkC p a) 38));have G:=heap_alloc_new w (.cells (pkC p a) 38);have CE:∀j,(w.alloc (.cells (pkC p a) 38)).cell? ⟨w.heap.size,j,none⟩=(pkC p a)[j]? := fun j=>cell_of_row _ _ j _ _ _ G;have k0:(w.alloc (.cells (pkC p a) 38)).cell? ⟨w.heap.size,0,none⟩=some (.int .i64 p.kind):=CE 0;unfold pkV;by_cases hk:p.kind=1
 ·have k7:(w.alloc (.cells (pkC p a) 38)).cell? ⟨w.heap.size,7,none⟩=some (.bool p.clean):=CE 7;have k10:(w.alloc (.cells (pkC p a) 38)).cell? ⟨w.heap.size,10,none⟩=some (.bool p.hasUser):=CE 10;have k12:(w.alloc (.cells (pkC p a) 38)).cell? ⟨w.heap.size,12,none⟩=some (.bool p.hasPass):=CE 12;have k14:(w.alloc (.cells (pkC p a) 38)).cell? ⟨w.heap.size,14,none⟩=some (.bool p.hasWill):=CE 14;have k17:(w.alloc (.cells (pkC p a) 38)).cell? ⟨w.heap.size,17,none⟩=some (.int .i64 p.wQos):=CE 17;have k18:(w.alloc (.cells (pkC p a) 38)).cell? ⟨w.heap.size,18,none⟩=some (.bool p.wRetain):=CE 18;have hf:qc61 p=bitC p.hasUser 128+bitC p.hasPass 64+bitC p.wRetain 32+8*(p.wQos%4).toNat+bitC p.hasWill 4+bitC p.clean 2:=by rw[qc61,if_pos hk]
  have ha:=q8tq p.wQos;have hq:p.wQos%4=((p.wQos%4).toNat:Int):=by omega
  have hq4:(p.wQos%4).toNat<4:=by omega
  generalize (p.wQos%4).toNat=q at *;rw[hq] at ha;have ho:=q1i3 p.hasUser p.hasPass p.wRetain p.hasWill p.clean q hq4;rw[<-hf] at ho;rw[hk] at k0;have B1:=hid (qon0 p.hasUser 128);have B2:=hid (qon0 p.hasPass 64);have B3:=hid (qon0 p.wRetain 32);have B4:=hid (qon0 p.hasWill 4);have B5:=hid (qon0 p.clean 2);generalize (if p.hasUser=true then(128:Int) else 0)=x1 at *;generalize (if p.hasPass=true then(64:Int) else 0)=x2 at *;generalize (if p.wRetain=true then(32:Int) else 0)=x3 at *;generalize (if p.hasWill=true then(4:Int) else 0)=x4 at *;generalize (if p.clean=true then(2:Int) else 0)=x5 at *;have HO:=hid ho;have hb0:(0:Int)<=q:=by omega
  have hb4:(q:Int)<4:=by omega
  clear ho hf hk hq hq4 CE G;go_in;go_wp2_with fail;go_quiet (first
   |(go_at_call 109;exact(B1.out _).mono fun _ _ h=>⟨h.1,_,h.2.symm⟩)
   |(go_at_call 109;exact(B2.out _).mono fun _ _ h=>⟨h.1,_,h.2.symm⟩)
   |(go_at_call 109;exact(B3.out _).mono fun _ _ h=>⟨h.1,_,h.2.symm⟩)
   |(go_at_call 109;exact(B4.out _).mono fun _ _ h=>⟨h.1,_,h.2.symm⟩)
   |(go_at_call 109;exact(B5.out _).mono fun _ _ h=>⟨h.1,_,h.2.symm⟩))
  go_wp2;go_ret;exact⟨congrArg (fun n:Int=>Ending.returned (Value.int .i64 n)) HO.out,qnpu B0.out _⟩
 ·have hk':(p.kind==1)=false:=beq_eq_false_iff_ne.2 hk;have hk2:(p.kind != 1)=true:=by rw[show(p.kind != 1)=!(p.kind==1) from rfl,hk'];rfl
  have HF:=hid (show(0:Nat)=qc61 p by rw[qc61,if_neg hk]);clear hk hk' CE G;go_in;go_wp2;go_ret;exact⟨congrArg (fun n:Nat=>Ending.returned (Value.int .i64 (n:Int))) HF.out,B0.out⟩
end Go.Proofs.YtefmhbioggcfaaaGreatDoor
