/- The contract of prop.rules: a map in which the rules of the document's table stand. No condition. -/
import Derived.StillTailTactics
import Derived.Deep.LoopGhost
import Derived.Test.YtefmhbioggcfaaaGreatDoorK08
import Derived.Test.YtefmhbioggcfaaaGreatDoorK14
import Derived.Test.YtefmhbioggcfaaaGreatDoorK16
set_option maxHeartbeats 4000000
set_option maxRecDepth 100000
namespace Go.Proofs.YtefmhbioggcfaaaGreatDoor
open Lib(hid)
open Proofs.Tryz
open Go.RowKit
def q3al(s k l:Nat):Value := .agg #[.int .i64 s,.int .u32 k,.int .u32 l]
def q32g:Value := .agg #[.int .i64 0,.int .u32 0,.int .u32 0]
def rulesL:List (Int×Value):=[(42,q3al 1 4 0),(41,q3al 1 4 0),(40,q3al 1 4 0),(39,q3al 3 6 1),(38,q3al 7 118782 0),(37,q3al 1 4 0),(36,q3al 1 4 0),(35,q3al 2 8 1),(34,q3al 2 6 0),(33,q3al 2 6 1),(31,q3al 5 51956 0),(28,q3al 5 16388 0),(26,q3al 5 4 0),(25,q3al 1 2 0),(24,q3al 3 65536 0),(23,q3al 1 2 0),(22,q3al 6 32774 0),(21,q3al 5 32774 0),(19,q3al 2 4 0),(18,q3al 5 4 0),(17,q3al 3 16390 0),(11,q3al 4 264 1),(9,q3al 6 65544 0),(8,q3al 5 65544 0),(3,q3al 5 65544 0),(2,q3al 3 65544 0),(1,q3al 1 65544 0)]
def q88l(w:World)(b:Nat):Prop:=qmfc prog 3 w b q32g rulesL
theorem q88l.of_block{w w':World}{b:Nat}(h:q88l w b)(hb:w'.heap[b]?=w.heap[b]?):q88l w' b:=qmfc.of_block h hb
theorem qwvk(w:World):Calls prog 211 #[] w fun e w'=>e=.returned (.map (some w.heap.size))/\q88l w' w.heap.size/\Below w.heap.size w w':=by
 have hmm:=@run_makeMap prog;have hG:MapG prog 3 w (w.alloc (.map #[] 0)) w.heap.size q32g []:=⟨qmfc.made _ _ _ _,(Below.refl _ _).alloc (Nat.le_refl _) _,Nat.le_refl _⟩
 go_in;go_wp2_with (refine q32q rfl _ _ _ 204 rfl 3 203 underlying3 underlying204 _ _ _ rfl hG (by simp[maxLen]) _ _ rfl rfl (by decide) ?_;clear hG;intro w1 hG);go_ret;exact⟨rfl,hG.1,hG.2.1⟩
def qavf(id:Int):Nat:=(prow id).kinds.foldr (fun k m=>m+2^k.toNat) 0
theorem qbqu(z:Value):∀(l:List (Int×Value)) (i:Int),(∀p∈l,i≠p.1)->q1n3 z l i=z
 |[],_,_=>rfl
 |p::l,i,h=>by rw[q1n3,if_neg (h p (List.mem_cons_self ..))];exact qbqu z l i (fun q hq=>h q (List.mem_cons_of_mem _ hq))
theorem q2yr:∀p∈rulesL,1<=p.1/\p.1<=42:=by
 intro p hp;have h:=List.mem_map_of_mem (f:=Prod.fst) hp
 have:∀k∈rulesL.map Prod.fst,1<=k/\k<=42:=by decide
 exact this _ h
theorem q52f(id:Int):q1n3 q32g rulesL id=q3al (prow id).shape (qavf id) (prow id).least:=by
 rcases Int.lt_or_le id 1 with h|h
 ·rw[qbqu _ _ _ (fun p hp e=>by have:=q2yr p hp;omega)];unfold qavf;rw[q0dw (.inl h)];rfl
 ·rcases Int.lt_or_le 42 id with h2|h2
  ·rw[qbqu _ _ _ (fun p hp e=>by have:=q2yr p hp;omega)];unfold qavf;rw[q0dw (.inr h2)];rfl
  ·obtain⟨n,rfl⟩:=Int.eq_ofNat_of_zero_le (show 0<=id by omega);have hn:n<=42:=by omega
   clear h h2
   match n,hn with
   |0,_=>rfl
   |1,_=>rfl
   |2,_=>rfl
   |3,_=>rfl
   |4,_=>rfl
   |5,_=>rfl
   |6,_=>rfl
   |7,_=>rfl
   |8,_=>rfl
   |9,_=>rfl
   |10,_=>rfl
   |11,_=>rfl
   |12,_=>rfl
   |13,_=>rfl
   |14,_=>rfl
   |15,_=>rfl
   |16,_=>rfl
   |17,_=>rfl
   |18,_=>rfl
   |19,_=>rfl
   |20,_=>rfl
   |21,_=>rfl
   |22,_=>rfl
   |23,_=>rfl
   |24,_=>rfl
   |25,_=>rfl
   |26,_=>rfl
   |27,_=>rfl
   |28,_=>rfl
   |29,_=>rfl
   |30,_=>rfl
   |31,_=>rfl
   |32,_=>rfl
   |33,_=>rfl
   |34,_=>rfl
   |35,_=>rfl
   |36,_=>rfl
   |37,_=>rfl
   |38,_=>rfl
   |39,_=>rfl
   |40,_=>rfl
   |41,_=>rfl
   |42,_=>rfl
   |n+43,h=>exact absurd h (by omega)
def bitP(m:Nat)(kind:Int):Bool:=decide (0<=kind/\kind<32)&&decide (m / 2^kind.toNat%2=1)
theorem qg72(ks:List Int)(h:(List.range 32).all (fun k=>decide ((ks.foldr (fun k m=>m+2^k.toNat) 0) / 2^k%2=1)==ks.contains (k:Int))=true)(hk:∀k∈ks,0<=k/\k<32)(kind:Int) :
 bitP (ks.foldr (fun k m=>m+2^k.toNat) 0) kind=ks.contains kind:=by
 unfold bitP;by_cases hr:0<=kind/\kind<32
 ·rw[decide_eq_true hr,Bool.true_and];obtain⟨n,rfl⟩:=Int.eq_ofNat_of_zero_le hr.1
  have:=List.all_eq_true.1 h n (List.mem_range.2 (by omega))
  rw[beq_iff_eq] at this;exact this
 ·rw[decide_eq_false hr,Bool.false_and];cases hc:ks.contains kind with
  |false=>rfl
  |true=>exact absurd (hk kind (by simpa using hc)) hr
theorem qqfu(kind id:Int):bitP (qavf id) kind=mayP kind id:=by
 unfold qavf mayP;have key:∀r:PRow,(decide (r.kinds.all fun k=>decide (0<=k)&&decide (k<32))&&(List.range 32).all (fun k=>decide ((r.kinds.foldr (fun k m=>m+2^k.toNat) 0) / 2^k%2=1)==r.kinds.contains (k:Int)))=true->
  bitP (r.kinds.foldr (fun k m=>m+2^k.toNat) 0) kind=r.kinds.contains kind:=fun r h=>by
  rw[Bool.and_eq_true,decide_eq_true_eq] at h;exact qg72 r.kinds h.2 (fun k hk=>by
   have:=List.all_eq_true.1 h.1 k hk
   rw[Bool.and_eq_true,decide_eq_true_eq,decide_eq_true_eq] at this;exact this) kind
 rcases Int.lt_or_le id 1 with h|h
 ·rw[q0dw (.inl h)];exact key _ (by decide)
 ·rcases Int.lt_or_le 42 id with h2|h2
  ·rw[q0dw (.inr h2)];exact key _ (by decide)
  ·exact key _ (qoa5 (fun _ r=>decide (r.kinds.all fun k=>decide (0<=k)&&decide (k<32))&&(List.range 32).all (fun k=>decide ((r.kinds.foldr (fun k m=>m+2^k.toNat) 0) / 2^k%2=1)==r.kinds.contains (k:Int))) (by decide+kernel) ⟨h,h2⟩)
theorem qa46(id:Int):qavf id<131072:=by
 unfold qavf;rcases Int.lt_or_le id 1 with h|h
 ·rw[q0dw (.inl h)];decide
 ·rcases Int.lt_or_le 42 id with h2|h2
  ·rw[q0dw (.inr h2)];decide
  ·have:=qoa5 (fun _ r=>decide (r.kinds.foldr (fun k m=>m+2^k.toNat) 0<131072)) (by decide+kernel) ⟨h,h2⟩
   exact of_decide_eq_true this
theorem q4o6(k:Nat)(kind:Int)(hk:k<4294967296)(hi:-9223372036854775808<=kind)(hj:kind<=9223372036854775807) :
 (bits BinOp.and IntKind.u32 ((k:Int) / 2^min (IntKind.u64.wrap kind).toNat 32) 1 != 0)=bitP k kind:=by
 obtain⟨m,hm⟩:∃m:Nat,(k:Int) / 2^min (IntKind.u64.wrap kind).toNat 32=(m:Int)/\m=k / 2^min (IntKind.u64.wrap kind).toNat 32:=⟨_,by simp,rfl⟩
 rw[hm.1];have hlt:m<4294967296:=by rw[hm.2];exact Nat.lt_of_le_of_lt (Nat.div_le_self _ _) hk
 have e1:bits BinOp.and IntKind.u32 (m:Int) 1=(m:Int)%2:=by
  have:=bits_mask .u32 32 (by decide) (fun n h0 h1=>by rw[IntKind.wrap_u32];omega) 1 (by decide) (m:Int) (by omega) (by omega)
  simpa using this
 rw[e1];unfold bitP;rw[IntKind.wrap_u64] at hm;by_cases hr:0<=kind/\kind<32
 ·rw[decide_eq_true hr,Bool.true_and];have e2:min (kind%18446744073709551616).toNat 32=kind.toNat:=by omega
  rw[e2] at hm;rw[<-hm.2];rcases Nat.mod_two_eq_zero_or_one m with h|h
  ·have:(m:Int)%2=0:=by omega
   rw[this,h];rfl
  ·have:(m:Int)%2=1:=by omega
   rw[this,h];rfl
 ·rw[decide_eq_false hr,Bool.false_and];have e2:min (kind%18446744073709551616).toNat 32=32:=by omega
  rw[e2,Nat.div_eq_of_lt (by simpa using hk)] at hm;rw[hm.2];rfl
theorem qkta(s k l:Nat)(kind:Int)(w:World)(hk:k<4294967296)(hi:-9223372036854775808<=kind)(hj:kind<=9223372036854775807) :
 Calls prog 267 #[q3al s k l,.int .i64 kind] w fun e w'=>e=.returned (.bool (bitP k kind))/\Below w.heap.size w w':=by
 have hb:=hid (q4o6 k kind hk hi hj);unfold q3al;go_in;go_wp2;go_ret;exact⟨congrArg (fun b=>Ending.returned (Value.bool b)) hb.out,(Below.refl _ _).alloc (Nat.le_refl _) _⟩
def q5n9(kind id:Int):Bool:=id==38 || (id==11&&kind==3)
theorem qfvw(kind id:Int)(w:World) :
 Calls prog 248 #[.int .i64 kind,.int .i64 id] w fun e w'=>e=.returned (.bool (q5n9 kind id))/\w=w':=by
 unfold q5n9;obtain⟨b1,h1⟩:∃b,(id==38)=b:=⟨_,rfl⟩
 obtain⟨b2,h2⟩:∃b,(id==11)=b:=⟨_,rfl⟩
 obtain⟨b3,h3⟩:∃b,(kind==3)=b:=⟨_,rfl⟩
 rw[h1,h2,h3];cases b1<;>cases b2<;>cases b3<;>
 ·go_in;go_wp2;go_ret;exact⟨rfl,rfl⟩
theorem qtcb(W:World):(zeroValue 203).run prog W=.ok q32g W:=by kernel_rfl
theorem qs52{n:Int}(h0:-9223372036854775808<=n)(h1:n<=9223372036854775807):(Lit.int .i64 n).wf=true:=by simp[Lit.wf,IntKind.min,IntKind.max,IntKind.signed,IntKind.bits];omega
theorem q88l.look{w:World}{b:Nat}(h:q88l w b){id:Int}(h0:-9223372036854775808<=id)(h1:id<=9223372036854775807) :
 (Instr.lookup 204 (.map (some b)) (.int .i64 id) false).run prog w=.ok (q3al (qwgc id) (qavf id) (prow id).least) w:=by
 have:=qmfc.look h underlying3 underlying204 (qtcb w) (qs52 h0 h1)
 rw[q52f] at this;exact this
theorem qyw9(s k l:Nat)(W:World):(Instr.field 203 (q3al s k l) 0).run prog W=.ok (.int .i64 s) W:=by kernel_rfl
theorem qsz0:(prog.info? 5).map (fun i=>(i.zero,i.size,i.bytes))=some (some (.int .u8 0),1,1):=by kernel_rfl
theorem q3j9{w:World}{base:Nat}{v:Value}{n:Nat}(l:List UInt8)(h:w.ownsRow base 5 1 v n (l.map u8v)) :
 (convert 58 9 v).run prog w=.ok (.string (bs l)) w:=by
 have hl:l.length=n:=by have:=h.1;simpa using this
 rcases h.2 with ⟨rfl,hn⟩|⟨g,cap,cur,rfl,_⟩
 ·have:l=[]:=List.eq_nil_of_length_eq_zero (by omega)
  subst this;exact run_convert_bytes_nil w 58 5 underlying58 underlying5 0 0 9 underlying9
 ·have hc:=h.cells (g:=g) rfl;have e:=run_convert_bytes_arg (P:=prog) w 58 5 underlying58 underlying5 g 0 n cap (l.map fun b=>(b.toNat:Int)) (by simp[hl]) (fun i hi=>by
   have:=hc i (u8v (l.getD i 0)) (by simp[List.getElem?_eq_getElem (show i<l.length by omega)])
   have hadd:(⟨g,0,none⟩:Addr).add i=⟨g,0+i,none⟩:=by unfold Addr.add;split<;>simp_all
   rw[hadd] at this;rw[this];simp[u8v,List.getD,List.getElem?_eq_getElem (show i<l.length by omega)]) 9 underlying9
  rw[e];simp[bs,strOfNums,Function.comp_def]
theorem q4ad(s:ByteArray):s.size=s.data.toList.length:=by simp
theorem qs55:cb 65533=[239,191,189]:=by decide
theorem qhuz(s:ByteArray):((s.extract 0 3).toList==[239,191,189])=decide (s.data.toList.take 3=[239,191,189]):=by
 rw[qrze]
 have:(s.extract 0 3).data.toList=s.data.toList.take 3:=by simp[List.extract_eq_take_drop]
 rw[this,Bool.eq_iff_iff];simp
theorem qrmy(s:ByteArray)(w:World)(h:∃r,s.data.toList=[239,191,189]++r) :
 Calls prog 286 #[.string s,.string ⟨#[239,191,189]⟩] w fun e w'=>e=.returned (.bool true)/\w=w':=by
 obtain⟨r,h⟩:=h;have h3:3<=s.size:=by rw[q4ad,h];simp
 have hq:((s.extract 0 3).toList==[239,191,189])=true:=by rw[qhuz,h];simp
 go_in;go_wp2;go_ret;exact⟨rfl,rfl⟩
theorem q689(s:ByteArray)(w:World)(h:¬∃r,s.data.toList=[239,191,189]++r) :
 Calls prog 286 #[.string s,.string ⟨#[239,191,189]⟩] w fun e w'=>e=.returned (.bool false)/\w=w':=by
 by_cases h3:3<=s.size
 ·have hq:((s.extract 0 3).toList==[239,191,189])=false:=by rw[qhuz,decide_eq_false_iff_not];intro e;exact h ⟨s.data.toList.drop 3,by rw[<-e];exact(List.take_append_drop 3 _).symm⟩
  go_in;go_wp2;go_ret;exact⟨rfl,rfl⟩
 ·have h4:s.size<3:=by omega
  clear h3;go_in;go_wp2;go_ret;exact⟨rfl,rfl⟩
theorem qy73(s:ByteArray)(w:World)(b:Bool)(h:b=true↔∃r,s.data.toList=[239,191,189]++r) :
 Calls prog 276 #[.string s,.string ⟨#[239,191,189]⟩] w fun e w'=>e=.returned (.bool b)/\w=w':=by
 have hc:Calls prog 286 #[.string s,.string ⟨#[239,191,189]⟩] w fun e w'=>e=.returned (.bool b)/\w=w':=by
  cases b with
  |true=>exact qrmy s w (h.1 rfl)
  |false=>exact q689 s w (fun e=>by cases h.2 e)
 have hc:=hid hc;go_in;go_wp2_with fail;refine(hc.out).mono ?_;rintro e W ⟨rfl,rfl⟩;go_wp2;go_ret;exact⟨rfl,rfl⟩
theorem qg51(s:ByteArray)(c:Nat)(w:World)(hc:c≠65533)(hm:c<2147483648) :
 Calls prog 257 #[.string s,.int .i32 c] w fun e w'=>e=.returned (.bool (decide (c≠0)))/\w=w':=by
 have h1:¬(c:Int)=65533:=by omega
 by_cases h0:c=0
 ·subst h0;go_in;go_wp2;go_ret;exact⟨rfl,rfl⟩
 ·have h2:¬(c:Int)=0:=by omega
  have e:decide (c≠0)=true:=by simp[h0]
  rw[e];go_in;go_wp2;go_ret;exact⟨by simp[h0],rfl⟩
theorem qcwf(s:ByteArray)(b:Bool)(w:World)(h:b=true↔∃r,s.data.toList=[239,191,189]++r) :
 Calls prog 257 #[.string s,.int .i32 65533] w fun e w'=>e=.returned (.bool b)/\w=w':=by
 have hc:=hid (qy73 s w b h);clear h;go_in;go_wp2_with fail;refine(hc.out).mono ?_;rintro e W ⟨rfl,rfl⟩;go_wp2;go_ret;exact⟨rfl,rfl⟩
theorem q62j(s:ByteArray)(c:Nat)(w:World)(h:hd s.data.toList=some c) :
 Calls prog 257 #[.string s,.int .i32 c] w fun e w'=>e=.returned (.bool true)/\w=w':=by
 obtain⟨ho,r,hr⟩:=qsz3 h;by_cases hc:c=65533
 ·subst hc;exact qcwf s true w ⟨fun _=>⟨r,by rw[hr,qs55]⟩,fun _=>rfl⟩
 ·have hb:=qg51 s c w hc (by have:=ho.2;omega);have e:decide (c≠0)=true:=by have:=ho.1;simp;omega
  rwa [e] at hb
theorem qxmi(s:ByteArray)(w:World)(h0:s.data.toList≠[])(h:hd s.data.toList=none) :
 Calls prog 257 #[.string s,.int .i32 (dl s.data.toList).1] w fun e w'=>e=.returned (.bool false)/\w=w':=by
 rcases q51d h0 h with hc|hc
 ·rw[hc];refine qcwf s false w ⟨fun e=>(by cases e),fun⟨r,hr⟩=>?_⟩;rw[<-qs55] at hr;rw[hr,qwug (by unfold okc;omega)] at h;cases h
 ·rw[hc];exact qg51 s 0 w (by decide) (by decide)
theorem q6d9(c:Nat)(w:World)(h:okc c) :
 Calls prog 233 #[.int .i32 c] w fun e w'=>e=.returned (.int .i64 (cb c).length)/\w=w':=by
 obtain⟨h0,h1⟩:=h;have hz:¬(c:Int)<0:=by omega
 rw[qqv9];by_cases h2:c<128
 ·rw[if_pos h2];have k2:(c:Int)<=127:=by omega
  clear h1 h2;go_in;go_wp2;go_ret;exact⟨rfl,rfl⟩
 rw[if_neg h2];have k2:¬(c:Int)<=127:=by omega
 by_cases h3:c<2048
 ·rw[if_pos h3];have k3:(c:Int)<=2047:=by omega
  clear h1 h2 h3;go_in;go_wp2;go_ret;exact⟨rfl,rfl⟩
 rw[if_neg h3];have k3:¬(c:Int)<=2047:=by omega
 by_cases h4:c<65536
 ·rw[if_pos h4];have k4:(c:Int)<=65535:=by omega
  by_cases h5:c<55296
  ·have k5:¬55296<=(c:Int):=by omega
   clear h1 h2 h3 h4 h5;go_in;go_wp2;go_ret;exact⟨rfl,rfl⟩
  ·have k5:55296<=(c:Int):=by omega
   have k6:¬(c:Int)<=57343:=by omega
   clear h1 h2 h3 h4 h5;go_in;go_wp2;go_ret;exact⟨rfl,rfl⟩
 rw[if_neg h4];have k4:¬(c:Int)<=65535:=by omega
 have k5:55296<=(c:Int):=by omega
 have k6:¬(c:Int)<=57343:=by omega
 have k7:(c:Int)<=1114111:=by omega
 clear h1 h2 h3 h4;go_in;go_wp2;go_ret;exact⟨rfl,rfl⟩
theorem q4ng(n c:Nat)(w:World)(hn:n<18446744073709551616)(h0:0<c)(h1:c<=16) :
 Calls prog 72 #[.int .u64 n,.int .i64 c] w fun e w'=>e=.returned (.string (bs (be n c)))/\Below w.heap.size w w':=by
 obtain⟨i0,hi,hz0,hz1,hz2⟩:=info_parts qsz0;go_in;go_wp2
 go_loopw [6,11] (fun v i wr=>∃k:Nat,k<=c/\i=.int .i64 k/\wr.ownsRow w.heap.size 5 1 v k ((be (n / 256^(c-k)) k).map u8v)/\Below w.heap.size w wr) (fun _ i _=>c-(intOf i).toNat)
 case atStart=>exact⟨0,Nat.zero_le _,rfl,World.ownsRow_nil _ _ _ _,Below.refl _ _⟩
 case round=>
  obtain⟨k,hk,rfl,hown,hb⟩:=hrel;by_cases hlt:k<c
  ·have hst:=qxkn n c k hlt;have hsh0:=qg6w n (c-(k+1)) hn;rw[show(((8*(c-(k+1)):Nat)):Int)=8*((c:Int)-1-k) from by omega] at hsh0;generalize hm:n / 256^(c-(k+1))=m at hst hsh0;have HM:=hid hm;clear hm;have HS:=hid hst;clear hst;have hsh:Op.shift .shr .u64 (n:Int) .i64 (8*((c:Int)-1-k))=pure (.int .u64 (m:Int)):=hsh0;clear hsh0;have hbs:w.heap.size<=wr.heap.size:=hb.size;go_wp2_with (at_builtin;refine wpList_append_own _ rfl _ _ 58 rfl w.heap.size 5 i0 (.int .u8 0) 1 1 underlying58 hi hz0 hz1 hz2 rfl (by decide) _ _ _ rfl (hown.alloc _) ⟨wr.heap.size,0,none⟩ 1 1 [.int .u8 ((m:Int)%256)] rfl rfl ?c1 ?c2 ?c3 ?c4 ?c5 ?_)
   case c1=>intro j u hj;cases j<;>simp at hj;subst hj;exact World.cell?_alloc_at _ _ _ _ rfl
   case c2=>intro u hu;simp at hu;subst hu;rfl
   case c3=>unfold maxLen;omega
   case c4=>omega
   case c5=>simp;omega
   intro v' w1 hown' hgrow _;have hb':Below w.heap.size w w1:=(hb.alloc hbs _).grown hgrow (by simp;omega) (fun j hj=>by have:=(hown.lt j hj).1;omega);have hown2:w1.ownsRow w.heap.size 5 1 v' (k+1) ((be (n / 256^(c-(k+1))) (k+1)).map u8v):=by rw[HM.out,HS.out];simpa [u8v] using hown'
   clear hown' hgrow HS HM hown hb hsh;go_wp2
   go_roundw
   case rel=>exact⟨k+1,by omega,by go_num,hown2,hb'⟩
   case measure=>simp[intOf];omega
  ·obtain rfl:k=c:=by omega
   have hcv:=q3j9 _ hown;have e0:n / 256^(k-k)=n:=by simp
   rw[e0] at hcv;go_wp2;go_ret;exact⟨rfl,hb⟩
theorem qz5b(n:Nat)(size:Int)(w:World)(hn:n<18446744073709551616)(h0:16<size) :
 Calls prog 72 #[.int .u64 n,.int .i64 size] w fun e w'=>e=.returned (.string (bs (be n 16)))/\Below w.heap.size w w':=by
 obtain⟨i0,hi,hz0,hz1,hz2⟩:=info_parts qsz0;go_in;go_wp2
 go_loopw [6,11] (fun v i wr=>∃k:Nat,k<=16/\i=.int .i64 k/\wr.ownsRow w.heap.size 5 1 v k ((be (n / 256^(16-k)) k).map u8v)/\Below w.heap.size w wr) (fun _ i _=>16-(intOf i).toNat)
 case atStart=>exact⟨0,Nat.zero_le _,rfl,World.ownsRow_nil _ _ _ _,Below.refl _ _⟩
 case round=>
  obtain⟨k,hk,rfl,hown,hb⟩:=hrel;by_cases hlt:k<16
  ·have hst:=qxkn n 16 k hlt;have hsh0:=qg6w n (16-(k+1)) hn;rw[show(((8*(16-(k+1)):Nat)):Int)=8*(15-(k:Int)) from by omega] at hsh0;generalize hm:n / 256^(16-(k+1))=m at hst hsh0;have HM:=hid hm;clear hm;have HS:=hid hst;clear hst;have hsh:Op.shift .shr .u64 (n:Int) .i64 (8*(15-(k:Int)))=pure (.int .u64 (m:Int)):=hsh0;clear hsh0;have hbs:w.heap.size<=wr.heap.size:=hb.size;go_wp2_with (at_builtin;refine wpList_append_own _ rfl _ _ 58 rfl w.heap.size 5 i0 (.int .u8 0) 1 1 underlying58 hi hz0 hz1 hz2 rfl (by decide) _ _ _ rfl (hown.alloc _) ⟨wr.heap.size,0,none⟩ 1 1 [.int .u8 ((m:Int)%256)] rfl rfl ?c1 ?c2 ?c3 ?c4 ?c5 ?_)
   case c1=>intro j u hj;cases j<;>simp at hj;subst hj;exact World.cell?_alloc_at _ _ _ _ rfl
   case c2=>intro u hu;simp at hu;subst hu;rfl
   case c3=>unfold maxLen;omega
   case c4=>omega
   case c5=>simp;omega
   intro v' w1 hown' hgrow _;have hb':Below w.heap.size w w1:=(hb.alloc hbs _).grown hgrow (by simp;omega) (fun j hj=>by have:=(hown.lt j hj).1;omega);have hown2:w1.ownsRow w.heap.size 5 1 v' (k+1) ((be (n / 256^(16-(k+1))) (k+1)).map u8v):=by rw[HM.out,HS.out];simpa [u8v] using hown'
   clear hown' hgrow HS HM hown hb hsh;go_wp2
   go_roundw
   case rel=>exact⟨k+1,by omega,by go_num,hown2,hb'⟩
   case measure=>simp[intOf];omega
  ·obtain rfl:k=16:=by omega
   have hcv:=q3j9 _ hown;have e0:n / 256^(16-16)=n:=by simp
   rw[e0] at hcv;go_wp2;go_ret;exact⟨rfl,hb⟩
theorem qfcj(n:Nat)(size:Int)(w:World)(h0:size<=0) :
 Calls prog 72 #[.int .u64 n,.int .i64 size] w fun e w'=>e=.returned (.string (bs (be n 0)))/\Below w.heap.size w w':=by
 have hcv:=q3j9 (w:=w) (base:=w.heap.size) (v := .slice none 0 0) (n:=0) [] (World.ownsRow_nil _ _ _ _);go_in;go_wp2;refine wp_loop_rounds 1 ?_;rw[rounds_succ];go_wp2;go_ret;exact⟨rfl,Below.refl _ _⟩
theorem qe3g(n:Nat)(size:Int)(w:World)(hn:n<18446744073709551616) :
 Calls prog 72 #[.int .u64 n,.int .i64 size] w fun e w'=>e=.returned (.string (bs (be n (min size 16).toNat)))/\Below w.heap.size w w':=by
 by_cases h0:size<=0
 ·have e:(min size 16).toNat=0:=by omega
  rw[e];exact qfcj n size w h0
 by_cases h1:size<=16
 ·obtain⟨c,rfl⟩:=Int.eq_ofNat_of_zero_le (show 0<=size by omega);have e:(min (c:Int) 16).toNat=c:=by omega
  rw[e];exact q4ng n c w hn (by omega) (by omega)
 ·have e:(min size 16).toNat=16:=by omega
  rw[e];exact qz5b n size w hn (by omega)
theorem qyv7(a b:List UInt8):bs a++bs b=bs (a++b):=by apply ByteArray.ext;simp[bs]
theorem qyiu(a:List UInt8)(s:ByteArray):bs a++s=bs (a++s.data.toList):=qyv7 a s.data.toList
theorem qbrl(s:ByteArray)(w:World)(h:s.size<=65535) :
 Calls prog 153 #[.string s] w fun e w'=>e=.returned (.tuple #[.string (bs (enc2 s.data.toList)),.int .i64 0])/\Below w.heap.size w w':=by
 have hp:=qe3g s.size 2 w (by omega);have e2:(min (2:Int) 16).toNat=2:=by decide
 rw[e2] at hp;have hres:bs (be s.size 2)++s=bs (enc2 s.data.toList):=by rw[qyiu,enc2,<-q4ad]
 have hsz:(bs (be s.size 2)).size=2:=by rw[q4ad];exact q0rl 2 _
 have hnl:¬9223372036854775807<(bs (be s.size 2)).size+s.size:=by omega
 clear hsz;have hp:=hid hp;have hres:=hid hres;go_in;go_wp2_with fail;refine(hp.out).mono ?_;rintro e w1 ⟨rfl,hb⟩;go_wp2
 go_ret2
 exact⟨rfl,hb⟩
def V4(s:W4):Value := .agg #[.int .u64 s.a,.int .u64 s.b,.int .u64 s.c,.int .u64 s.d]
def C4(s:W4):Array Value:=#[.int .u64 s.a,.int .u64 s.b,.int .u64 s.c,.int .u64 s.d]
theorem qikd{x m:Nat}(hm:m<64)(hx:x<18446744073709551616):bits .or .u64 (x:Int) (IntKind.u64.wrap (2^m))=((x ||| 2^m:Nat):Int):=by
 have h2:2^m<18446744073709551616:=Nat.pow_lt_pow_right (n:=64) (by decide) hm;have e:IntKind.u64.wrap (2^m)=((2^m:Nat):Int):=by
  have:((2:Int)^m)=((2^m:Nat):Int):=by simp
  rw[this];generalize 2^m=y at *;simp only[IntKind.wrap_u64];omega
 rw[e,bits_or_u64_nat _ _ hx h2]
theorem q4jf:(prog.info? 265).map (·.size)=some 4:=by kernel_rfl
theorem qc5m{fn:Func}{R:Ending->World->Prop}{a:Act}{W:World}{p:Tmp}{B:Nat}{cs:Array Value}(h:fn.results=#[.cell p 265])(hp:a.tmps.getD p undef=.pointer (some ⟨B,0,none⟩))(hd:a.defers=[])(hcs:cs.size=4)
 (hg:W.heap[B]?=some (.cells cs 265 (0,0))) (hR:R (.returned (.agg cs)) W):bodyPost prog fn R .ret a W:=
 bodyPost_ret (results_cell_row h a.tmps W B 265 cs (0,0) _ hp hg underlying265 rfl (by rw[hcs];kernel_rfl)) hd hR
theorem q6i6{w W:World}{B k:Nat}(h:Below B w W)(hB:B<=k)(cs:Array Value):Below B w (W.setRow k cs):=
 ⟨h.os,h.tape,h.output,by have:=h.size;simpa [World.setRow] using this,fun m hm=>(setRow_other _ _ _ _ (by omega)).trans (h.block m hm)⟩
structure SetAt(w:World)(f:Nat)(s:W4)(k:Nat)(wx:World):Prop where
 low:Below w.heap.size w wx
 set:wx.heap[w.heap.size]?=some (.cells (C4 (addR s f k)) 265 (0,0))
 out:wx.heap[w.heap.size+1]?=some (.cells #[.int .u64 0,.int .u64 0,.int .u64 0,.int .u64 0] 265 (0,0))
theorem SetAt.next{w W:World}{f k:Nat}{s:W4}(h:SetAt w f s k W)(j:Nat)(v:Value)(he:C4 (addR s f (k+1))=(C4 (addR s f k)).setIfInBounds j v):SetAt w f s (k+1) (W.drew.setCell ⟨w.heap.size,j,none⟩ v):=
 ⟨h.low.drew.setCell (Nat.le_refl _) _,by rw[he];exact qlvy (w:=W.drew) h.set j v,(heap_setCell_other _ _ _ _ (by simp)).trans h.out⟩
theorem qi6f(s:W4)(f n:Nat)(l:Int)(hs:OkW s)(hl:l+1=((f+n:Nat):Int))(hb:f+n<=256)(w:World) :
 Calls prog 269 #[V4 s,.int .i64 f,.int .i64 l] w fun e w'=>e=.returned (V4 (addR s f n))/\Below w.heap.size w w':=by
 have HO:=hid (fun k=>hs.addR f k);have HL:=hid hl;have h0:(0:Int)<=l+1:=by omega
 have h1:l+1<=256:=by omega
 have h2:(f:Int)<=256:=by omega
 have B0:=hid (show SetAt w f s 0 ((w.alloc (.cells (C4 s) 265)).alloc (.cells #[.int .u64 0,.int .u64 0,.int .u64 0,.int .u64 0] 265)) from
  ⟨(
   (Below.refl _ _).alloc (Nat.le_refl _) _).alloc (by simp) _,(heap_alloc_old _ _ (by simp)).trans (heap_alloc_new w _),by
   have:=heap_alloc_new (w.alloc (.cells (C4 s) 265)) (.cells #[.int .u64 0,.int .u64 0,.int .u64 0,.int .u64 0] 265)
   rw[World.size_alloc] at this;exact this⟩)
 clear hs hl;unfold V4;unfold C4 at B0;go_in;go_wp2_with fail;generalize (w.alloc (.cells #[.int .u64 s.a,.int .u64 s.b,.int .u64 s.c,.int .u64 s.d] 265)).alloc (.cells #[.int .u64 0,.int .u64 0,.int .u64 0,.int .u64 0] 265)=w0 at *
 go_loopg [7] n (fun gk s7 wx=>∃k:Nat,k<=n/\gk=n-k/\s7=.int .i64 ((f+k:Nat):Int)/\SetAt w f s k wx)
 case atStart=>exact⟨0,Nat.zero_le _,rfl,rfl,B0.out⟩
 case round=>
  obtain⟨k,hk,rfl,rfl,hS⟩:=hrel;by_cases hlt:k<n
  ·have hok:=HO.out k;have hset:=hS.set;have HS:=hid hS;have HK:=hid hlt;have nx:addR s f (k+1)=setc (addR s f k) (f+k):=rfl;have hc:((f+k:Nat):Int)<=l:=by have:=HL.out;omega
   have hc1:f+k<256:=by omega
   obtain⟨t,HT0⟩:∃t,addR s f k=t:=⟨_,rfl⟩
   rw[HT0] at nx hok hset;have HT:=hid HT0;clear HT0;obtain⟨c,HC0⟩:∃c,f+k=c:=⟨_,rfl⟩
   rw[HC0] at nx hc hc1 ⊢;have HC:=hid HC0;clear HC0;unfold C4 at hset;have hm:c%64<64:=Nat.mod_lt _ (by decide);have c0:=cell_of_row _ w.heap.size 0 _ _ _ hset;have c1:=cell_of_row _ w.heap.size 1 _ _ _ hset;have c2:=cell_of_row _ w.heap.size 2 _ _ _ hset;have c3:=cell_of_row _ w.heap.size 3 _ _ _ hset;obtain⟨m,hmm⟩:∃m,c%64=m:=⟨_,rfl⟩
   have e2:(c:Int)%64=(m:Int):=by omega
   rw[hmm] at hm;have hset0:wr.drew.heap[w.heap.size]?=some (.cells #[.int .u64 t.a,.int .u64 t.b,.int .u64 t.c,.int .u64 t.d] 265 (0,0)):=hset;clear hset HL;by_cases q0:c<64
   ·have e1:(c:Int) / 64=0:=by omega
    have hx:setc t c={t with a:=t.a ||| 2^m}:=by unfold setc;rw[if_pos q0,hmm]
    have e3:=qikd hm hok.a;have w1:IntKind.i64.wrap 0=0:=rfl;have w2:IntKind.i64.wrap (m:Int)=(m:Int):=IntWalk.i64_in _ (by omega);have m0:(0:Int)<=(m:Int):=by omega
    have m1:(m:Int)<64:=by omega
    have e4:(c:Int).tmod 64=(m:Int):=by rw[<-e2];exact Int.tmod_eq_emod_of_nonneg (by omega)
    have e5:(c:Int).tdiv 64=0:=by rw[<-e1];exact Int.tdiv_eq_ediv_of_nonneg (by omega)
    have HN:=hid (HS.out.next 0 (.int .u64 ((t.a ||| 2^m:Nat):Int)) (by rw[nx,hx,HT.out];rfl));clear nx hx;go_wp2_with fail
    go_still_tail 9,(by kernel_rfl)
    change wpList _ _ _ _ _ wr.drew;have f0:wr.drew.frozen? ⟨w.heap.size,0,none⟩=false:=frozen_of_row _ _ _ _ _ hset0;have d0:=cell_of_row wr.drew w.heap.size 0 _ _ _ hset0;clear e1 e2 e3 e4 e5 w1 w2 m0 m1 c0 c1 c2 c3 hset0 hok;go_wp2_with fail
    go_roundg (n-(k+1))
    case measure=>have:=HK.out;omega
    case rel=>exact⟨k+1,HK.out,rfl,by rw[show f+(k+1)=c+1 by have:=HC.out;omega];go_num,HN.out⟩
   by_cases q1:c<128
   ·have e1:(c:Int) / 64=1:=by omega
    have hx:setc t c={t with b:=t.b ||| 2^m}:=by unfold setc;rw[if_neg q0,if_pos q1,hmm]
    have e3:=qikd hm hok.b;have w1:IntKind.i64.wrap 1=1:=rfl;have w2:IntKind.i64.wrap (m:Int)=(m:Int):=IntWalk.i64_in _ (by omega);have m0:(0:Int)<=(m:Int):=by omega
    have m1:(m:Int)<64:=by omega
    have e4:(c:Int).tmod 64=(m:Int):=by rw[<-e2];exact Int.tmod_eq_emod_of_nonneg (by omega)
    have e5:(c:Int).tdiv 64=1:=by rw[<-e1];exact Int.tdiv_eq_ediv_of_nonneg (by omega)
    have HN:=hid (HS.out.next 1 (.int .u64 ((t.b ||| 2^m:Nat):Int)) (by rw[nx,hx,HT.out];rfl));clear nx hx;go_wp2_with fail
    go_still_tail 9,(by kernel_rfl)
    change wpList _ _ _ _ _ wr.drew;have f0:wr.drew.frozen? ⟨w.heap.size,1,none⟩=false:=frozen_of_row _ _ _ _ _ hset0;have d0:=cell_of_row wr.drew w.heap.size 1 _ _ _ hset0;clear e1 e2 e3 e4 e5 w1 w2 m0 m1 c0 c1 c2 c3 hset0 hok;go_wp2_with fail
    go_roundg (n-(k+1))
    case measure=>have:=HK.out;omega
    case rel=>exact⟨k+1,HK.out,rfl,by rw[show f+(k+1)=c+1 by have:=HC.out;omega];go_num,HN.out⟩
   by_cases q2:c<192
   ·have e1:(c:Int) / 64=2:=by omega
    have hx:setc t c={t with c:=t.c ||| 2^m}:=by unfold setc;rw[if_neg q0,if_neg q1,if_pos q2,hmm]
    have e3:=qikd hm hok.c;have w1:IntKind.i64.wrap 2=2:=rfl;have w2:IntKind.i64.wrap (m:Int)=(m:Int):=IntWalk.i64_in _ (by omega);have m0:(0:Int)<=(m:Int):=by omega
    have m1:(m:Int)<64:=by omega
    have e4:(c:Int).tmod 64=(m:Int):=by rw[<-e2];exact Int.tmod_eq_emod_of_nonneg (by omega)
    have e5:(c:Int).tdiv 64=2:=by rw[<-e1];exact Int.tdiv_eq_ediv_of_nonneg (by omega)
    have HN:=hid (HS.out.next 2 (.int .u64 ((t.c ||| 2^m:Nat):Int)) (by rw[nx,hx,HT.out];rfl));clear nx hx;go_wp2_with fail
    go_still_tail 9,(by kernel_rfl)
    change wpList _ _ _ _ _ wr.drew;have f0:wr.drew.frozen? ⟨w.heap.size,2,none⟩=false:=frozen_of_row _ _ _ _ _ hset0;have d0:=cell_of_row wr.drew w.heap.size 2 _ _ _ hset0;clear e1 e2 e3 e4 e5 w1 w2 m0 m1 c0 c1 c2 c3 hset0 hok;go_wp2_with fail
    go_roundg (n-(k+1))
    case measure=>have:=HK.out;omega
    case rel=>exact⟨k+1,HK.out,rfl,by rw[show f+(k+1)=c+1 by have:=HC.out;omega];go_num,HN.out⟩
   ·have e1:(c:Int) / 64=3:=by omega
    have hx:setc t c={t with d:=t.d ||| 2^m}:=by unfold setc;rw[if_neg q0,if_neg q1,if_neg q2,hmm]
    have e3:=qikd hm hok.d;have w1:IntKind.i64.wrap 3=3:=rfl;have w2:IntKind.i64.wrap (m:Int)=(m:Int):=IntWalk.i64_in _ (by omega);have m0:(0:Int)<=(m:Int):=by omega
    have m1:(m:Int)<64:=by omega
    have e4:(c:Int).tmod 64=(m:Int):=by rw[<-e2];exact Int.tmod_eq_emod_of_nonneg (by omega)
    have e5:(c:Int).tdiv 64=3:=by rw[<-e1];exact Int.tdiv_eq_ediv_of_nonneg (by omega)
    have HN:=hid (HS.out.next 3 (.int .u64 ((t.d ||| 2^m:Nat):Int)) (by rw[nx,hx,HT.out];rfl));clear nx hx;go_wp2_with fail
    go_still_tail 9,(by kernel_rfl)
    change wpList _ _ _ _ _ wr.drew;have f0:wr.drew.frozen? ⟨w.heap.size,3,none⟩=false:=frozen_of_row _ _ _ _ _ hset0;have d0:=cell_of_row wr.drew w.heap.size 3 _ _ _ hset0;clear e1 e2 e3 e4 e5 w1 w2 m0 m1 c0 c1 c2 c3 hset0 hok;go_wp2_with fail
    go_roundg (n-(k+1))
    case measure=>have:=HK.out;omega
    case rel=>exact⟨k+1,HK.out,rfl,by rw[show f+(k+1)=c+1 by have:=HC.out;omega];go_num,HN.out⟩
  ·obtain rfl:k=n:=by omega
   have hS0:=hid hS;have hset:=hS.set;have hout:=hS.out;have hgt:l<((f+k:Nat):Int):=by have:=HL.out;omega
   obtain⟨t,HT0⟩:∃t,addR s f k=t:=⟨_,rfl⟩
   rw[HT0] at hset;have HT:=hid HT0;clear HT0;generalize f+k=c at *;unfold C4 at hset;have LW:=hid (q6i6 hS.low (show w.heap.size<=w.heap.size+1 by omega) (C4 t));clear hS;go_wp2_with (first
    |(refine wpList_load_row rfl _ _ rfl w.heap.size rfl 265 _ (0,0) _ hset underlying265 rfl q4jf ?_)
    |(refine wpList_store_row rfl _ _ _ rfl (w.heap.size+1) _ rfl rfl 265 _ hout q4jf rfl (by simp[Value.oneCell']) ?_))
   exact qc5m rfl rfl rfl rfl (setRow_heap _ _ _ _ _ _ hout) ⟨by rw[HT.out],LW.out⟩
structure OfAt(w:World)(l:List Nat)(wx:World):Prop where
 low:Below w.heap.size w wx
 out:wx.heap[w.heap.size]?=some (.cells #[.int .u64 0,.int .u64 0,.int .u64 0,.int .u64 0] 265 (0,0))
 set:wx.heap[w.heap.size+1]?=some (.cells (C4 (ofL l)) 265 (0,0))
theorem qma4(l:List Nat)(n:Nat):ofL (l++[n])=addR (ofL l) n 1:=by unfold ofL addR addR;rw[List.foldl_append];rfl
theorem qzke(b:Nat)(l:List Nat)(n c:Nat)(w:World)(hn:l.length=n)(hm:n<=100)(hl:∀x∈l,x<256)(hc:∀(i x:Nat),l[i]?=some x->w.cell? ⟨b,i,none⟩=some (.int .i64 (x:Int)))(hb:b<w.heap.size) :
 Calls prog 268 #[.slice (some ⟨b,0,none⟩) n c] w fun e w'=>e=.returned (V4 (ofL l))/\Below w.heap.size w w':=by
 have HC:=hid hc;have HN:=hid hn;have HL:=hid hl;have HB:=hid hb;have n1:(n:Int)<=100:=by omega
 have B0:=hid (show OfAt w (l.take 0) ((w.alloc (.cells #[.int .u64 0,.int .u64 0,.int .u64 0,.int .u64 0] 265)).alloc (.cells #[.int .u64 0,.int .u64 0,.int .u64 0,.int .u64 0] 265)) from
  ⟨(
   (Below.refl _ _).alloc (Nat.le_refl _) _).alloc (by simp) _,(heap_alloc_old _ _ (by simp)).trans (heap_alloc_new w _),by
   have:=heap_alloc_new (w.alloc (.cells #[.int .u64 0,.int .u64 0,.int .u64 0,.int .u64 0] 265)) (.cells #[.int .u64 0,.int .u64 0,.int .u64 0,.int .u64 0] 265)
   rw[World.size_alloc] at this;exact this⟩)
 clear hc hn hl hb;go_in;go_wp2_with fail;generalize (w.alloc (.cells #[.int .u64 0,.int .u64 0,.int .u64 0,.int .u64 0] 265)).alloc (.cells #[.int .u64 0,.int .u64 0,.int .u64 0,.int .u64 0] 265)=w0 at *
 go_loopg [5,8] n (fun gk _ s8 wx=>∃k:Nat,k<=n/\gk=n-k/\s8=.int .i64 (k:Int)/\OfAt w (l.take k) wx)
 case atStart=>exact⟨0,Nat.zero_le _,rfl,rfl,B0.out⟩
 case round=>
  obtain⟨k,hk,rfl,rfl,hS⟩:=hrel;by_cases hlt:k<n
  ·have HK:=hid hlt;have hkl:k<l.length:=by rw[HN.out];exact hlt
   obtain⟨x,hx⟩:∃x,l[k]?=some x:=⟨_,List.getElem?_eq_getElem hkl⟩
   have htk:l.take (k+1)=l.take k++[x]:=by rw[List.take_add_one,hx];rfl
   have hx2:=HL.out x (List.mem_of_getElem? hx);have hce:wr.cell? ⟨b,k,none⟩=some (.int .i64 (x:Int)):=(hS.low.cell (p:=⟨b,k,none⟩) HB.out).trans (HC.out k x hx);have hset:=hS.set;have NX:=hid (show ∀wx,Below wr.heap.size wr wx->OfAt w (l.take (k+1)) (wx.setRow (w.heap.size+1) (C4 (addR (ofL (l.take k)) x 1))) from fun wx hb=>
    ⟨q6i6 (hS.low.trans (hb.mono hS.low.size)) (by omega) _,(setRow_other _ _ _ _ (by omega)).trans ((hb.block _ (lt_of_block hS.out)).trans hS.out),by rw[htk,qma4];exact setRow_heap _ _ _ _ _ _ ((hb.block _ (lt_of_block hS.set)).trans hS.set)⟩)
   have AN:=hid (fun W=>qi6f (ofL (l.take k)) x 1 (x:Int) (OkW.ofL _) (by omega) (by omega) W);have HS:=hid hS;obtain⟨t,HT⟩:∃t,ofL (l.take k)=t:=⟨_,rfl⟩
   rw[HT] at hset NX AN;clear HT hS hkl htk hx2 hx;go_wp2_with (first
    |(refine wpList_load_row rfl _ _ rfl (w.heap.size+1) rfl 265 _ (0,0) _ hset underlying265 rfl q4jf ?_)
    |(go_at_call 269;refine(AN.out _).mono ?_;rintro e wx ⟨rfl,hb⟩;have hsx:=(hb.block _ (lt_of_block hset)).trans hset;have hnx:=hid (NX.out _ hb);clear hb)
    |(refine wpList_store_row rfl _ _ _ rfl (w.heap.size+1) _ rfl rfl 265 _ hsx q4jf rfl (by simp[Value.oneCell']) ?_))
   go_roundg (n-(k+1))
   case measure=>have:=HK.out;omega
   case rel=>exact⟨k+1,HK.out,rfl,by go_num,hnx.out⟩
  ·obtain rfl:k=n:=by omega
   have e:l.take k=l:=List.take_of_length_le (by rw[HN.out];omega);rw[e] at hS;have hset:=hS.set;have hout:=hS.out;have LW:=hid (q6i6 hS.low (Nat.le_refl w.heap.size) (C4 (ofL l)));clear hS e;unfold C4 at hset;go_wp2_with (first
    |(refine wpList_load_row rfl _ _ rfl (w.heap.size+1) rfl 265 _ (0,0) _ hset underlying265 rfl q4jf ?_)
    |(refine wpList_store_row rfl _ _ _ rfl w.heap.size _ rfl rfl 265 _ hout q4jf rfl (by simp[Value.oneCell']) ?_))
   exact qc5m rfl rfl rfl rfl (setRow_heap _ _ _ _ _ _ hout) ⟨rfl,LW.out⟩
theorem qwxg(W:World)(l:List Nat)(t:TypeId)(cs:Array Value)(h:cs=(l.map fun(x:Nat)=>Value.int .i64 (x:Int)).toArray)(i x:Nat)(hx:l[i]?=some x) :
 (W.alloc (.cells cs t)).cell? ⟨W.heap.size,i,none⟩=some (.int .i64 (x:Int)):=by
 rw[World.cell?_alloc_at _ _ _ _ rfl,h];simp[hx]
theorem qn4c(w:World) :
 Calls prog 244 #[.int .i64 2] w fun e w'=>e=.returned (V4 (q71c 1))/\Below w.heap.size w w':=by
 have H0:=hid (heap_alloc_new w (.cells #[.int .u64 0,.int .u64 0,.int .u64 0,.int .u64 0] 265));have L0:=hid (show Below w.heap.size w (w.alloc (.cells #[.int .u64 0,.int .u64 0,.int .u64 0,.int .u64 0] 265)) from(Below.refl _ _).alloc (Nat.le_refl _) _);go_in;go_wp2_with fail;refine(qzke (w.heap.size+1) [0,140,144,149,151,159] 6 6 _ rfl (by decide) (by decide) (by have:=qwxg (w.alloc (.cells #[.int .u64 0,.int .u64 0,.int .u64 0,.int .u64 0] 265)) [0,140,144,149,151,159] 3 #[.int .i64 0,.int .i64 140,.int .i64 144,.int .i64 149,.int .i64 151,.int .i64 159] rfl;rw[World.size_alloc] at this;exact this) (by simp)).mono ?_;rintro e w1 ⟨rfl,hb⟩;have L1:=hid ((L0.out.alloc (by simp) (.cells #[.int .i64 0,.int .i64 140,.int .i64 144,.int .i64 149,.int .i64 151,.int .i64 159] 3)).trans (hb.mono (by simp only[World.size_alloc];omega)));have H1:=(hb.block _ (by simp only[World.size_alloc];omega)).trans ((heap_alloc_old _ (.cells #[.int .i64 0,.int .i64 140,.int .i64 144,.int .i64 149,.int .i64 151,.int .i64 159] 3) (by simp)).trans H0.out);clear hb;unfold V4 at *;go_wp2_with fail;refine(qi6f (ofL [0,140,144,149,151,159]) 128 11 138 (OkW.ofL _) (by decide) (by decide) _).mono ?_;rintro e w2 ⟨rfl,hb⟩;have L2:=hid (L1.out.trans (hb.mono L1.out.size));have H2:=(hb.block _ (lt_of_block H1)).trans H1;clear hb H1;unfold V4 at *;go_wp2_with fail;refine(qi6f (addR (ofL [0,140,144,149,151,159]) 128 11) 153 5 157 ((OkW.ofL _).addR _ _) (by decide) (by decide) _).mono ?_;rintro e w3 ⟨rfl,hb⟩;have L3:=hid (L2.out.trans (hb.mono L2.out.size));have H3:=(hb.block _ (lt_of_block H2)).trans H2;clear hb H2;have LW:=hid (q6i6 L3.out (Nat.le_refl w.heap.size) (C4 (addR (addR (ofL [0,140,144,149,151,159]) 128 11) 153 5)));unfold V4;generalize hX:(addR (addR (ofL [0,140,144,149,151,159]) 128 11) 153 5)=X;rw[hX] at LW;go_wp2_with (refine wpList_store_row rfl _ _ _ rfl w.heap.size _ rfl rfl 265 _ H3 q4jf rfl (by simp[Value.oneCell']) ?_);exact qc5m rfl rfl rfl rfl (setRow_heap _ _ _ _ _ _ H3) ⟨by rw[<-hX];rfl,LW.out⟩
theorem qqus(w:World) :
 Calls prog 244 #[.int .i64 4] w fun e w'=>e=.returned (V4 (q71c 2))/\Below w.heap.size w w':=by
 have H0:=hid (heap_alloc_new w (.cells #[.int .u64 0,.int .u64 0,.int .u64 0,.int .u64 0] 265));have L0:=hid (show Below w.heap.size w (w.alloc (.cells #[.int .u64 0,.int .u64 0,.int .u64 0,.int .u64 0] 265)) from(Below.refl _ _).alloc (Nat.le_refl _) _);go_in;go_wp2_with fail;refine(qzke (w.heap.size+1) [0,16,128,131,135,144,145,151,153] 9 9 _ rfl (by decide) (by decide) (by have:=qwxg (w.alloc (.cells #[.int .u64 0,.int .u64 0,.int .u64 0,.int .u64 0] 265)) [0,16,128,131,135,144,145,151,153] 3 #[.int .i64 0,.int .i64 16,.int .i64 128,.int .i64 131,.int .i64 135,.int .i64 144,.int .i64 145,.int .i64 151,.int .i64 153] rfl;rw[World.size_alloc] at this;exact this) (by simp)).mono ?_;rintro e w1 ⟨rfl,hb⟩;have L1:=hid ((L0.out.alloc (by simp) (.cells #[.int .i64 0,.int .i64 16,.int .i64 128,.int .i64 131,.int .i64 135,.int .i64 144,.int .i64 145,.int .i64 151,.int .i64 153] 3)).trans (hb.mono (by simp only[World.size_alloc];omega)));have H1:=(hb.block _ (by simp only[World.size_alloc];omega)).trans ((heap_alloc_old _ (.cells #[.int .i64 0,.int .i64 16,.int .i64 128,.int .i64 131,.int .i64 135,.int .i64 144,.int .i64 145,.int .i64 151,.int .i64 153] 3) (by simp)).trans H0.out);clear hb;have LW:=hid (q6i6 L1.out (Nat.le_refl w.heap.size) (C4 (ofL [0,16,128,131,135,144,145,151,153])));unfold V4;generalize hX:(ofL [0,16,128,131,135,144,145,151,153])=X;rw[hX] at LW;go_wp2_with (refine wpList_store_row rfl _ _ _ rfl w.heap.size _ rfl rfl 265 _ H1 q4jf rfl (by simp[Value.oneCell']) ?_);exact qc5m rfl rfl rfl rfl (setRow_heap _ _ _ _ _ _ H1) ⟨by rw[<-hX];rfl,LW.out⟩
theorem qov5(w:World) :
 Calls prog 244 #[.int .i64 5] w fun e w'=>e=.returned (V4 (q71c 2))/\Below w.heap.size w w':=by
 have H0:=hid (heap_alloc_new w (.cells #[.int .u64 0,.int .u64 0,.int .u64 0,.int .u64 0] 265));have L0:=hid (show Below w.heap.size w (w.alloc (.cells #[.int .u64 0,.int .u64 0,.int .u64 0,.int .u64 0] 265)) from(Below.refl _ _).alloc (Nat.le_refl _) _);go_in;go_wp2_with fail;refine(qzke (w.heap.size+1) [0,16,128,131,135,144,145,151,153] 9 9 _ rfl (by decide) (by decide) (by have:=qwxg (w.alloc (.cells #[.int .u64 0,.int .u64 0,.int .u64 0,.int .u64 0] 265)) [0,16,128,131,135,144,145,151,153] 3 #[.int .i64 0,.int .i64 16,.int .i64 128,.int .i64 131,.int .i64 135,.int .i64 144,.int .i64 145,.int .i64 151,.int .i64 153] rfl;rw[World.size_alloc] at this;exact this) (by simp)).mono ?_;rintro e w1 ⟨rfl,hb⟩;have L1:=hid ((L0.out.alloc (by simp) (.cells #[.int .i64 0,.int .i64 16,.int .i64 128,.int .i64 131,.int .i64 135,.int .i64 144,.int .i64 145,.int .i64 151,.int .i64 153] 3)).trans (hb.mono (by simp only[World.size_alloc];omega)));have H1:=(hb.block _ (by simp only[World.size_alloc];omega)).trans ((heap_alloc_old _ (.cells #[.int .i64 0,.int .i64 16,.int .i64 128,.int .i64 131,.int .i64 135,.int .i64 144,.int .i64 145,.int .i64 151,.int .i64 153] 3) (by simp)).trans H0.out);clear hb;have LW:=hid (q6i6 L1.out (Nat.le_refl w.heap.size) (C4 (ofL [0,16,128,131,135,144,145,151,153])));unfold V4;generalize hX:(ofL [0,16,128,131,135,144,145,151,153])=X;rw[hX] at LW;go_wp2_with (refine wpList_store_row rfl _ _ _ rfl w.heap.size _ rfl rfl 265 _ H1 q4jf rfl (by simp[Value.oneCell']) ?_);exact qc5m rfl rfl rfl rfl (setRow_heap _ _ _ _ _ _ H1) ⟨by rw[<-hX];rfl,LW.out⟩
theorem qate(w:World) :
 Calls prog 244 #[.int .i64 6] w fun e w'=>e=.returned (V4 (q71c 3))/\Below w.heap.size w w':=by
 have H0:=hid (heap_alloc_new w (.cells #[.int .u64 0,.int .u64 0,.int .u64 0,.int .u64 0] 265));have L0:=hid (show Below w.heap.size w (w.alloc (.cells #[.int .u64 0,.int .u64 0,.int .u64 0,.int .u64 0] 265)) from(Below.refl _ _).alloc (Nat.le_refl _) _);go_in;go_wp2_with fail;refine(qzke (w.heap.size+1) [0,146] 2 2 _ rfl (by decide) (by decide) (by have:=qwxg (w.alloc (.cells #[.int .u64 0,.int .u64 0,.int .u64 0,.int .u64 0] 265)) [0,146] 3 #[.int .i64 0,.int .i64 146] rfl;rw[World.size_alloc] at this;exact this) (by simp)).mono ?_;rintro e w1 ⟨rfl,hb⟩;have L1:=hid ((L0.out.alloc (by simp) (.cells #[.int .i64 0,.int .i64 146] 3)).trans (hb.mono (by simp only[World.size_alloc];omega)));have H1:=(hb.block _ (by simp only[World.size_alloc];omega)).trans ((heap_alloc_old _ (.cells #[.int .i64 0,.int .i64 146] 3) (by simp)).trans H0.out);clear hb;have LW:=hid (q6i6 L1.out (Nat.le_refl w.heap.size) (C4 (ofL [0,146])));unfold V4;generalize hX:(ofL [0,146])=X;rw[hX] at LW;go_wp2_with (refine wpList_store_row rfl _ _ _ rfl w.heap.size _ rfl rfl 265 _ H1 q4jf rfl (by simp[Value.oneCell']) ?_);exact qc5m rfl rfl rfl rfl (setRow_heap _ _ _ _ _ _ H1) ⟨by rw[<-hX];rfl,LW.out⟩
theorem qkx7(w:World) :
 Calls prog 244 #[.int .i64 7] w fun e w'=>e=.returned (V4 (q71c 3))/\Below w.heap.size w w':=by
 have H0:=hid (heap_alloc_new w (.cells #[.int .u64 0,.int .u64 0,.int .u64 0,.int .u64 0] 265));have L0:=hid (show Below w.heap.size w (w.alloc (.cells #[.int .u64 0,.int .u64 0,.int .u64 0,.int .u64 0] 265)) from(Below.refl _ _).alloc (Nat.le_refl _) _);go_in;go_wp2_with fail;refine(qzke (w.heap.size+1) [0,146] 2 2 _ rfl (by decide) (by decide) (by have:=qwxg (w.alloc (.cells #[.int .u64 0,.int .u64 0,.int .u64 0,.int .u64 0] 265)) [0,146] 3 #[.int .i64 0,.int .i64 146] rfl;rw[World.size_alloc] at this;exact this) (by simp)).mono ?_;rintro e w1 ⟨rfl,hb⟩;have L1:=hid ((L0.out.alloc (by simp) (.cells #[.int .i64 0,.int .i64 146] 3)).trans (hb.mono (by simp only[World.size_alloc];omega)));have H1:=(hb.block _ (by simp only[World.size_alloc];omega)).trans ((heap_alloc_old _ (.cells #[.int .i64 0,.int .i64 146] 3) (by simp)).trans H0.out);clear hb;have LW:=hid (q6i6 L1.out (Nat.le_refl w.heap.size) (C4 (ofL [0,146])));unfold V4;generalize hX:(ofL [0,146])=X;rw[hX] at LW;go_wp2_with (refine wpList_store_row rfl _ _ _ rfl w.heap.size _ rfl rfl 265 _ H1 q4jf rfl (by simp[Value.oneCell']) ?_);exact qc5m rfl rfl rfl rfl (setRow_heap _ _ _ _ _ _ H1) ⟨by rw[<-hX];rfl,LW.out⟩
theorem qnip(w:World) :
 Calls prog 244 #[.int .i64 9] w fun e w'=>e=.returned (V4 (q71c 4))/\Below w.heap.size w w':=by
 have H0:=hid (heap_alloc_new w (.cells #[.int .u64 0,.int .u64 0,.int .u64 0,.int .u64 0] 265));have L0:=hid (show Below w.heap.size w (w.alloc (.cells #[.int .u64 0,.int .u64 0,.int .u64 0,.int .u64 0] 265)) from(Below.refl _ _).alloc (Nat.le_refl _) _);go_in;go_wp2_with fail;refine(qzke (w.heap.size+1) [0,1,2,128,131,135,143,145,151,158,161,162] 12 12 _ rfl (by decide) (by decide) (by have:=qwxg (w.alloc (.cells #[.int .u64 0,.int .u64 0,.int .u64 0,.int .u64 0] 265)) [0,1,2,128,131,135,143,145,151,158,161,162] 3 #[.int .i64 0,.int .i64 1,.int .i64 2,.int .i64 128,.int .i64 131,.int .i64 135,.int .i64 143,.int .i64 145,.int .i64 151,.int .i64 158,.int .i64 161,.int .i64 162] rfl;rw[World.size_alloc] at this;exact this) (by simp)).mono ?_;rintro e w1 ⟨rfl,hb⟩;have L1:=hid ((L0.out.alloc (by simp) (.cells #[.int .i64 0,.int .i64 1,.int .i64 2,.int .i64 128,.int .i64 131,.int .i64 135,.int .i64 143,.int .i64 145,.int .i64 151,.int .i64 158,.int .i64 161,.int .i64 162] 3)).trans (hb.mono (by simp only[World.size_alloc];omega)));have H1:=(hb.block _ (by simp only[World.size_alloc];omega)).trans ((heap_alloc_old _ (.cells #[.int .i64 0,.int .i64 1,.int .i64 2,.int .i64 128,.int .i64 131,.int .i64 135,.int .i64 143,.int .i64 145,.int .i64 151,.int .i64 158,.int .i64 161,.int .i64 162] 3) (by simp)).trans H0.out);clear hb;have LW:=hid (q6i6 L1.out (Nat.le_refl w.heap.size) (C4 (ofL [0,1,2,128,131,135,143,145,151,158,161,162])));unfold V4;generalize hX:(ofL [0,1,2,128,131,135,143,145,151,158,161,162])=X;rw[hX] at LW;go_wp2_with (refine wpList_store_row rfl _ _ _ rfl w.heap.size _ rfl rfl 265 _ H1 q4jf rfl (by simp[Value.oneCell']) ?_);exact qc5m rfl rfl rfl rfl (setRow_heap _ _ _ _ _ _ H1) ⟨by rw[<-hX];rfl,LW.out⟩
theorem qz2l(w:World) :
 Calls prog 244 #[.int .i64 11] w fun e w'=>e=.returned (V4 (q71c 5))/\Below w.heap.size w w':=by
 have H0:=hid (heap_alloc_new w (.cells #[.int .u64 0,.int .u64 0,.int .u64 0,.int .u64 0] 265));have L0:=hid (show Below w.heap.size w (w.alloc (.cells #[.int .u64 0,.int .u64 0,.int .u64 0,.int .u64 0] 265)) from(Below.refl _ _).alloc (Nat.le_refl _) _);go_in;go_wp2_with fail;refine(qzke (w.heap.size+1) [0,17,128,131,135,143,145] 7 7 _ rfl (by decide) (by decide) (by have:=qwxg (w.alloc (.cells #[.int .u64 0,.int .u64 0,.int .u64 0,.int .u64 0] 265)) [0,17,128,131,135,143,145] 3 #[.int .i64 0,.int .i64 17,.int .i64 128,.int .i64 131,.int .i64 135,.int .i64 143,.int .i64 145] rfl;rw[World.size_alloc] at this;exact this) (by simp)).mono ?_;rintro e w1 ⟨rfl,hb⟩;have L1:=hid ((L0.out.alloc (by simp) (.cells #[.int .i64 0,.int .i64 17,.int .i64 128,.int .i64 131,.int .i64 135,.int .i64 143,.int .i64 145] 3)).trans (hb.mono (by simp only[World.size_alloc];omega)));have H1:=(hb.block _ (by simp only[World.size_alloc];omega)).trans ((heap_alloc_old _ (.cells #[.int .i64 0,.int .i64 17,.int .i64 128,.int .i64 131,.int .i64 135,.int .i64 143,.int .i64 145] 3) (by simp)).trans H0.out);clear hb;have LW:=hid (q6i6 L1.out (Nat.le_refl w.heap.size) (C4 (ofL [0,17,128,131,135,143,145])));unfold V4;generalize hX:(ofL [0,17,128,131,135,143,145])=X;rw[hX] at LW;go_wp2_with (refine wpList_store_row rfl _ _ _ rfl w.heap.size _ rfl rfl 265 _ H1 q4jf rfl (by simp[Value.oneCell']) ?_);exact qc5m rfl rfl rfl rfl (setRow_heap _ _ _ _ _ _ H1) ⟨by rw[<-hX];rfl,LW.out⟩
theorem qk8g(w:World) :
 Calls prog 244 #[.int .i64 14] w fun e w'=>e=.returned (V4 (q71c 6))/\Below w.heap.size w w':=by
 have H0:=hid (heap_alloc_new w (.cells #[.int .u64 0,.int .u64 0,.int .u64 0,.int .u64 0] 265));have L0:=hid (show Below w.heap.size w (w.alloc (.cells #[.int .u64 0,.int .u64 0,.int .u64 0,.int .u64 0] 265)) from(Below.refl _ _).alloc (Nat.le_refl _) _);go_in;go_wp2_with fail;refine(qzke (w.heap.size+1) [0,4,135,137,139,141,142,143,144] 9 9 _ rfl (by decide) (by decide) (by have:=qwxg (w.alloc (.cells #[.int .u64 0,.int .u64 0,.int .u64 0,.int .u64 0] 265)) [0,4,135,137,139,141,142,143,144] 3 #[.int .i64 0,.int .i64 4,.int .i64 135,.int .i64 137,.int .i64 139,.int .i64 141,.int .i64 142,.int .i64 143,.int .i64 144] rfl;rw[World.size_alloc] at this;exact this) (by simp)).mono ?_;rintro e w1 ⟨rfl,hb⟩;have L1:=hid ((L0.out.alloc (by simp) (.cells #[.int .i64 0,.int .i64 4,.int .i64 135,.int .i64 137,.int .i64 139,.int .i64 141,.int .i64 142,.int .i64 143,.int .i64 144] 3)).trans (hb.mono (by simp only[World.size_alloc];omega)));have H1:=(hb.block _ (by simp only[World.size_alloc];omega)).trans ((heap_alloc_old _ (.cells #[.int .i64 0,.int .i64 4,.int .i64 135,.int .i64 137,.int .i64 139,.int .i64 141,.int .i64 142,.int .i64 143,.int .i64 144] 3) (by simp)).trans H0.out);clear hb;unfold V4 at *;go_wp2_with fail;refine(qi6f (ofL [0,4,135,137,139,141,142,143,144]) 128 4 131 (OkW.ofL _) (by decide) (by decide) _).mono ?_;rintro e w2 ⟨rfl,hb⟩;have L2:=hid (L1.out.trans (hb.mono L1.out.size));have H2:=(hb.block _ (lt_of_block H1)).trans H1;clear hb H1;unfold V4 at *;go_wp2_with fail;refine(qi6f (addR (ofL [0,4,135,137,139,141,142,143,144]) 128 4) 147 16 162 ((OkW.ofL _).addR _ _) (by decide) (by decide) _).mono ?_;rintro e w3 ⟨rfl,hb⟩;have L3:=hid (L2.out.trans (hb.mono L2.out.size));have H3:=(hb.block _ (lt_of_block H2)).trans H2;clear hb H2;have LW:=hid (q6i6 L3.out (Nat.le_refl w.heap.size) (C4 (addR (addR (ofL [0,4,135,137,139,141,142,143,144]) 128 4) 147 16)));unfold V4;generalize hX:(addR (addR (ofL [0,4,135,137,139,141,142,143,144]) 128 4) 147 16)=X;rw[hX] at LW;go_wp2_with (refine wpList_store_row rfl _ _ _ rfl w.heap.size _ rfl rfl 265 _ H3 q4jf rfl (by simp[Value.oneCell']) ?_);exact qc5m rfl rfl rfl rfl (setRow_heap _ _ _ _ _ _ H3) ⟨by rw[<-hX];rfl,LW.out⟩
theorem qudn(w:World) :
 Calls prog 244 #[.int .i64 15] w fun e w'=>e=.returned (V4 (q71c 7))/\Below w.heap.size w w':=by
 have H0:=hid (heap_alloc_new w (.cells #[.int .u64 0,.int .u64 0,.int .u64 0,.int .u64 0] 265));have L0:=hid (show Below w.heap.size w (w.alloc (.cells #[.int .u64 0,.int .u64 0,.int .u64 0,.int .u64 0] 265)) from(Below.refl _ _).alloc (Nat.le_refl _) _);go_in;go_wp2_with fail;refine(qzke (w.heap.size+1) [0,24,25] 3 3 _ rfl (by decide) (by decide) (by have:=qwxg (w.alloc (.cells #[.int .u64 0,.int .u64 0,.int .u64 0,.int .u64 0] 265)) [0,24,25] 3 #[.int .i64 0,.int .i64 24,.int .i64 25] rfl;rw[World.size_alloc] at this;exact this) (by simp)).mono ?_;rintro e w1 ⟨rfl,hb⟩;have L1:=hid ((L0.out.alloc (by simp) (.cells #[.int .i64 0,.int .i64 24,.int .i64 25] 3)).trans (hb.mono (by simp only[World.size_alloc];omega)));have H1:=(hb.block _ (by simp only[World.size_alloc];omega)).trans ((heap_alloc_old _ (.cells #[.int .i64 0,.int .i64 24,.int .i64 25] 3) (by simp)).trans H0.out);clear hb;have LW:=hid (q6i6 L1.out (Nat.le_refl w.heap.size) (C4 (ofL [0,24,25])));unfold V4;generalize hX:(ofL [0,24,25])=X;rw[hX] at LW;go_wp2_with (refine wpList_store_row rfl _ _ _ rfl w.heap.size _ rfl rfl 265 _ H1 q4jf rfl (by simp[Value.oneCell']) ?_);exact qc5m rfl rfl rfl rfl (setRow_heap _ _ _ _ _ _ H1) ⟨by rw[<-hX];rfl,LW.out⟩
theorem qxh9(kind:Int)(w:World)(h:grp kind=0) :
 Calls prog 244 #[.int .i64 kind] w fun e w'=>e=.returned (V4 (q71c 0))/\Below w.heap.size w w':=by
 have H0:=heap_alloc_new w (.cells #[.int .u64 0,.int .u64 0,.int .u64 0,.int .u64 0] 265);have LW:=hid (q6i6 (show Below w.heap.size w (w.alloc (.cells #[.int .u64 0,.int .u64 0,.int .u64 0,.int .u64 0] 265)) from(Below.refl _ _).alloc (Nat.le_refl _) _) (Nat.le_refl w.heap.size) #[.int .u64 0,.int .u64 0,.int .u64 0,.int .u64 0]);unfold grp at h;have a1:¬kind=2:=fun e=>by subst e;simp at h
 have a4:¬kind=4:=fun e=>by subst e;simp at h
 have a5:¬kind=5:=fun e=>by subst e;simp at h
 have a6:¬kind=6:=fun e=>by subst e;simp at h
 have a7:¬kind=7:=fun e=>by subst e;simp at h
 have a9:¬kind=9:=fun e=>by subst e;simp at h
 have a11:¬kind=11:=fun e=>by subst e;simp at h
 have a14:¬kind=14:=fun e=>by subst e;simp at h
 have a15:¬kind=15:=fun e=>by subst e;simp at h
 clear h;go_in;go_wp2_with (refine wpList_store_row rfl _ _ _ rfl w.heap.size _ rfl rfl 265 _ H0 q4jf rfl (by simp[Value.oneCell']) ?_);exact qc5m rfl rfl rfl rfl (setRow_heap _ _ _ _ _ _ H0) ⟨rfl,LW.out⟩
theorem qyq4(kind:Int)(w:World) :
 Calls prog 244 #[.int .i64 kind] w fun e w'=>e=.returned (V4 (q71c (grp kind)))/\Below w.heap.size w w':=by
 by_cases k2:kind=2
 ·subst k2;exact qn4c w
 by_cases k4:kind=4
 ·subst k4;exact qqus w
 by_cases k5:kind=5
 ·subst k5;exact qov5 w
 by_cases k6:kind=6
 ·subst k6;exact qate w
 by_cases k7:kind=7
 ·subst k7;exact qkx7 w
 by_cases k9:kind=9
 ·subst k9;exact qnip w
 by_cases k11:kind=11
 ·subst k11;exact qz2l w
 by_cases k14:kind=14
 ·subst k14;exact qk8g w
 by_cases k15:kind=15
 ·subst k15;exact qudn w
 have hg:grp kind=0:=by unfold grp;simp[k2,k4,k5,k6,k7,k9,k11,k14,k15]
 rw[hg];exact qxh9 kind w hg
theorem q0jg(x m:Nat)(hx:x<18446744073709551616):(bits .and .u64 ((x:Int) / 2^m) 1 != 0)=(x / 2^m%2==1):=by
 have e:(x:Int) / 2^m=((x / 2^m:Nat):Int):=by simp
 have h:x / 2^m<18446744073709551616:=Nat.lt_of_le_of_lt (Nat.div_le_self _ _) hx;rw[e];generalize x / 2^m=y at *;have h1:=bits_and_u64_nat y 1 h (by decide);rw[show((1:Nat):Int)=1 from rfl] at h1;rw[h1,Nat.and_one_is_mod]
 have:=Nat.mod_two_eq_zero_or_one y
 rcases this with h|h<;>rw[h]<;>rfl
theorem qg8y(s:W4)(code:Int)(w:World)(h:code<0\/256<=code) :
 Calls prog 245 #[V4 s,.int .i64 code] w fun e w'=>e=.returned (.bool false)/\Below w.heap.size w w':=by
 have L0:=hid (show Below w.heap.size w (w.alloc (.cells #[.int .u64 s.a,.int .u64 s.b,.int .u64 s.c,.int .u64 s.d] 265)) from(Below.refl _ _).alloc (Nat.le_refl _) _);unfold V4;rcases h with h|h
 ·go_in;go_wp2;go_ret;exact⟨rfl,L0.out⟩
 ·have h0:0<=code:=by omega
  have h1:¬code<256:=by omega
  go_in;go_wp2;go_ret;exact⟨rfl,L0.out⟩
theorem q5ro(s:W4)(c:Nat)(w:World)(hs:OkW s)(hc:c<256) :
 Calls prog 245 #[V4 s,.int .i64 (c:Int)] w fun e w'=>e=.returned (.bool (hasW s c))/\Below w.heap.size w w':=by
 have L0:=hid (show Below w.heap.size w (w.alloc (.cells #[.int .u64 s.a,.int .u64 s.b,.int .u64 s.c,.int .u64 s.d] 265)) from(Below.refl _ _).alloc (Nat.le_refl _) _);have H0:=heap_alloc_new w (.cells #[.int .u64 s.a,.int .u64 s.b,.int .u64 s.c,.int .u64 s.d] 265);have c0:=cell_of_row _ w.heap.size 0 _ _ _ H0;have c1:=cell_of_row _ w.heap.size 1 _ _ _ H0;have c2:=cell_of_row _ w.heap.size 2 _ _ _ H0;have c3:=cell_of_row _ w.heap.size 3 _ _ _ H0;have h0:(0:Int)<=(c:Int):=by omega
 have h1:(c:Int)<256:=by omega
 obtain⟨m,hmm⟩:∃m,c%64=m:=⟨_,rfl⟩
 have hm:m<64:=by omega
 have e2:(c:Int)%64=(m:Int):=by omega
 clear H0;unfold V4;by_cases q0:c<64
 ·skip
  have e1:(c:Int) / 64=0:=by omega
  have HV:=hid (show(bits .and .u64 ((s.a:Int) / 2^m) 1 != 0)=hasW s c from by rw[q0jg _ _ hs.a];unfold hasW word;simp[hc,hmm,q0])
  clear hmm hs hc;go_in;go_wp2;go_ret;exact⟨by rw[HV.out];rfl,L0.out⟩
 by_cases q1:c<128
 ·skip
  have e1:(c:Int) / 64=1:=by omega
  have HV:=hid (show(bits .and .u64 ((s.b:Int) / 2^m) 1 != 0)=hasW s c from by rw[q0jg _ _ hs.b];unfold hasW word;simp[hc,hmm,q0,q1])
  clear hmm hs hc;go_in;go_wp2;go_ret;exact⟨by rw[HV.out];rfl,L0.out⟩
 by_cases q2:c<192
 ·skip
  have e1:(c:Int) / 64=2:=by omega
  have HV:=hid (show(bits .and .u64 ((s.c:Int) / 2^m) 1 != 0)=hasW s c from by rw[q0jg _ _ hs.c];unfold hasW word;simp[hc,hmm,q0,q1,q2])
  clear hmm hs hc;go_in;go_wp2;go_ret;exact⟨by rw[HV.out];rfl,L0.out⟩
 ·skip
  have e1:(c:Int) / 64=3:=by omega
  have HV:=hid (show(bits .and .u64 ((s.d:Int) / 2^m) 1 != 0)=hasW s c from by rw[q0jg _ _ hs.d];unfold hasW word;simp[hc,hmm,q0,q1,q2])
  clear hmm hs hc;go_in;go_wp2;go_ret;exact⟨by rw[HV.out];rfl,L0.out⟩
theorem qfh4(s:W4)(code:Int)(w:World)(hs:OkW s) :
 Calls prog 245 #[V4 s,.int .i64 code] w fun e w'=>e=.returned (.bool (decide (0<=code)&&hasW s code.toNat))/\Below w.heap.size w w':=by
 by_cases h:code<0\/256<=code
 ·have e:(decide (0<=code)&&hasW s code.toNat)=false:=by
   rcases h with h|h
   ·simp[show ¬0<=code by omega]
   ·unfold hasW;simp[show ¬code.toNat<256 by omega]
  rw[e];exact qg8y s code w h
 ·obtain⟨c,rfl⟩:∃c:Nat,code=(c:Int):=⟨code.toNat,by omega⟩
  have e:(decide (0<=(c:Int))&&hasW s (c:Int).toNat)=hasW s c:=by simp
  rw[e];exact q5ro s c w hs (by omega)
theorem qeiz(kind code:Int)(w:World) :
 Calls prog 209 #[.int .i64 kind,.int .i64 code] w fun e w'=>e=.returned (.bool (mayR kind code))/\Below w.heap.size w w':=by
 have e:(decide (0<=code)&&hasW (q71c (grp kind)) code.toNat)=mayR kind code:=by rw[qi9u];rfl
 have HA:=hid (fun W=>qfh4 (q71c (grp kind)) code W (qjuf _));rw[e] at HA;clear e;go_in;go_wp2_with fail;refine(qyq4 kind _).mono ?_;rintro e w1 ⟨rfl,hb⟩;have L1:=hid hb;clear hb;go_wp2_with fail;refine(HA.out _).mono ?_;rintro e w2 ⟨rfl,hb⟩;have L2:=hid (L1.out.trans (hb.mono L1.out.size));clear hb;go_wp2;go_ret;exact⟨rfl,L2.out⟩
theorem qym3(code:Int)(w:World) :
 Calls prog 231 #[.int .i64 code] w fun e w'=>e=.returned (.bool (qfn3 code))/\w=w':=by
 unfold qfn3;by_cases h0:0<=code
 ·by_cases h1:code<6
  ·go_in;go_wp2;go_ret;exact⟨by simp[h0,h1],rfl⟩
  ·go_in;go_wp2;go_ret;exact⟨by simp[h1],rfl⟩
 ·go_in;go_wp2;go_ret;exact⟨by simp;omega,rfl⟩
theorem q7hd(v k:Int)(w:World):Calls prog 141 #[.int .i64 v,.int .i64 k] w fun e w'=>e=.returned (.bool (versC v&&qfws k))/\w=w':=by
 unfold versC qfws;have hv:v=4\/v=5\/((v==4)=false/\(v==5)=false):=by
  by_cases h4:v=4
  ·exact .inl h4
  by_cases h5:v=5
  ·exact .inr (.inl h5)
  exact .inr (.inr ⟨beq_eq_false_iff_ne.2 h4,beq_eq_false_iff_ne.2 h5⟩)
 have hk:decide (8<=k)=true\/decide (8<=k)=false:=by cases decide (8<=k)<;>simp
 rcases hv with rfl|rfl|⟨h4,h5⟩
 ·rcases hk with k1|k1
  all_goals rw[k1];go_in;go_wp2;go_ret;exact⟨by first|rfl|simp,rfl⟩
 ·rcases hk with k1|k1
  all_goals rw[k1];go_in;go_wp2;go_ret;exact⟨by first|rfl|simp,rfl⟩
 ·rw[h4,h5];go_in;go_wp2;go_ret;exact⟨by first|rfl|simp,rfl⟩
theorem qczm(k:Int)(w:World):Calls prog 180 #[.int .i64 k] w fun e w'=>e=.returned (.bool (qsfj k))/\w=w':=by
 unfold qsfj;have hk:(k==8)=true\/(k==8)=false:=by cases (k==8)<;>simp
 rcases hk with k1|k1
 all_goals rw[k1];go_in;go_wp2;go_ret;exact⟨by first|rfl|simp,rfl⟩
def qojk(v k:Int):Bool:=v==4&&k==11
theorem q1kd(v k:Int)(w:World):Calls prog 217 #[.int .i64 v,.int .i64 k] w fun e w'=>e=.returned (.bool (qojk v k))/\w=w':=by
 unfold qojk;have hk:(v==4)=true\/(v==4)=false:=by cases (v==4)<;>simp
 rcases hk with k1|k1
 all_goals rw[k1];go_in;go_wp2;go_ret;exact⟨by first|rfl|simp,rfl⟩
def qyb2(v:Int):Nat:=if v=4 then 3 else 63
theorem qqd6(v:Int)(w:World):Calls prog 252 #[.int .i64 v] w fun e w'=>e=.returned (.int .i64 (qyb2 v:Nat))/\w=w':=by
 unfold qyb2;by_cases h:v=4
 ·subst h;go_in;go_wp2;go_ret;exact⟨rfl,rfl⟩
 ·rw[if_neg h];have h':(v==4)=false:=beq_eq_false_iff_ne.2 h;clear h;go_in;go_wp2;go_ret;exact⟨rfl,rfl⟩
theorem q6cn(b:Bool)(k:Nat)(w:World):Calls prog 223 #[.bool b,.int .i64 (k:Nat)] w fun e w'=>e=.returned (.int .i64 (bitC b k:Nat))/\w=w':=by
 unfold bitC;cases b
 all_goals go_in;go_wp2;go_ret;exact⟨rfl,rfl⟩
theorem q0ik(code:Int)(w:World) :
 Calls prog 253 #[.int .i64 code] w fun e w'=>e=.returned (.bool (qw69 code))/\w=w':=by
 by_cases h:code=0\/code=1\/code=2\/code=128
 ·rcases h with rfl|rfl|rfl|rfl
  all_goals go_in;go_wp2;go_ret;exact⟨rfl,rfl⟩
 ·have h0:¬code=0:=fun e=>h (.inl e);have h1:¬code=1:=fun e=>h (.inr (.inl e));have h2:¬code=2:=fun e=>h (.inr (.inr (.inl e)));have h3:¬code=128:=fun e=>h (.inr (.inr (.inr e)));have hg:qw69 code=false:=by unfold qw69;simp[h0,h1,h2,h3]
  rw[hg];clear h hg;go_in;go_wp2;go_ret;exact⟨rfl,rfl⟩
theorem qfnm(g n:Nat)(F:Nat->FuncId)(C:Nat->Array Value)(S:Nat->World->Prop)(E:Nat->World->Prop)(w:World)(hn:n<=100)
 (hcell:∀k W,k<n->S k W->W.cell? ⟨g,k,none⟩=some (.func (.func (F k)) #[] (C k)))
 (hcall:∀k W,k<n->S k W->Calls prog (F k) (C k) W fun e W'=>∃r:Nat,e=.returned (.int .i64 (r:Int))/\(r=0->S (k+1) W')/\(r≠0->E r W'))
 (hrun:∀k W,k<n->(callFunc (F k) (C k)).run prog W=.ok (.enter (F k) (C k)) W) (h0:S 0 w) :
 Calls prog 122 #[.slice (some ⟨g,0,none⟩) n n] w fun e W'=>∃r:Nat,e=.returned (.int .i64 (r:Int))/\(r=0->S n W')/\(r≠0->E r W'):=by
 have HC:=hid hcell;have HK:=hid hcall;have HN:=hid hn;have H0:=hid h0;have HR:=hid hrun;have hn2:(n:Int)<=100:=by omega
 clear hcell hcall hn h0 hrun;go_in;go_wp2_with fail
 go_loopg [8] n (fun gk s8 wx=>∃k:Nat,k<=n/\gk=n-k/\s8=.int .i64 (k:Int)/\S k wx)
 case atStart=>exact⟨0,by omega,by omega,rfl,H0.out⟩
 case round=>
  obtain⟨k,hk,hgk,rfl,hS⟩:=hrel;by_cases hlt:k<n
  ·have g1:(k:Int)<(n:Int):=by omega
   have c0:=HC.out k _ hlt hS;have KC:=hid (HK.out k _ hlt hS);have hr:=HR.out k wr hlt;have HS:=hid hS;have HL:=hid hlt;clear hS hlt;go_wp2_with fail;refine(KC.out).mono ?_;rintro e W ⟨r,rfl,h1,h2⟩;by_cases hz:r=0
   ·have HS1:=hid (h1 hz);subst hz;clear h1 h2 c0 hr;go_wp2_with fail
    go_roundg (n-(k+1))
    case measure=>have:=HL.out;omega
    case rel=>exact⟨k+1,by have:=HL.out;omega,rfl,by go_num,HS1.out⟩
   ·have HE:=hid (h2 hz);have hr1:((r:Int)==0)=false:=by simp;omega
    have hr2:((r:Int) != 0)=true:=by simp;omega
    have HZ:=hid hz;clear h1 h2 hz c0 hr;go_wp2;go_ret;exact⟨r,rfl,fun h=>absurd h HZ.out,fun _=>HE.out⟩
  ·obtain rfl:k=n:=by omega
   have HS:=hid hS;clear hS;go_wp2;go_ret;exact⟨0,rfl,fun _=>HS.out,fun h=>absurd rfl h⟩
theorem qrcnh(A B:Option Addr)(c d:Nat)(w:World) :
 Calls prog 10 #[.slice A 0 c,.slice B 0 d] w fun e w'=>e=.returned (.bool true)/\∃m,w'=w.drewN m:=by
 go_in;go_wp2;refine wp_loop_rounds 1 ?_;rw[rounds_succ];go_wp2;go_ret;exact⟨rfl,0,rfl⟩
theorem qx18(ga ia gb ib c d:Nat)(ls:List (List UInt8))(w:World)(ha:∀j,j<ls.length->w.cell? ⟨ga,ia+j,none⟩=some (.string (bs (ls.getD j []))))(hb:∀j,j<ls.length->w.cell? ⟨gb,ib+j,none⟩=some (.string (bs (ls.getD j []))))(hl:ls.length<=70000) :
 Calls prog 10 #[.slice (some ⟨ga,ia,none⟩) ls.length c,.slice (some ⟨gb,ib,none⟩) ls.length d] w fun e w'=>e=.returned (.bool true)/\∃m,w'=w.drewN m:=by
 have HA:=hid ha;have HB:=hid hb;obtain⟨n,hn⟩:∃n,ls.length=n:=⟨_,rfl⟩
 have HN:=hid hn;rw[hn] at hl ⊢;clear ha hb hn;have hl':(n:Int)<=70000:=by omega
 go_in;go_wp2
 go_loopw [5] (fun i wr=>∃k m:Nat,k<=n/\i=.int .i64 (k:Int)/\wr=w.drewN m) (fun i _=>n-(intOf i).toNat)
 case atStart=>exact⟨0,0,Nat.zero_le _,rfl,rfl⟩
 case round=>
  obtain⟨k,m,hk,rfl,rfl⟩:=hrel;by_cases hlt:k<n
  ·have d1:w.cell? ⟨ga,ia+k,none⟩=some (.string (bs (ls.getD k []))):=HA.out k (by rw[HN.out];exact hlt);have d2:w.cell? ⟨gb,ib+k,none⟩=some (.string (bs (ls.getD k []))):=HB.out k (by rw[HN.out];exact hlt);generalize bs (ls.getD k [])=x at d1 d2;have g1:(k:Int)<(n:Int):=by omega
   go_wp2;go_quiet (fail);go_wp2
   go_roundw
   case rel=>exact⟨k+1,_,by omega,by go_num,rfl⟩
   case measure=>simp[intOf];omega
  ·obtain rfl:k=n:=by omega
   go_wp2;go_ret;exact⟨rfl,m,rfl⟩
theorem qtpi6(A B:Option Addr)(c d:Nat)(ls:List (List UInt8))(w:World)(hA:SR w A ls)(hB:SR w B ls)(hl:ls.length<=70000) :
 Calls prog 10 #[.slice A ls.length c,.slice B ls.length d] w fun e w'=>e=.returned (.bool true)/\Below w.heap.size w w':=by
 by_cases h:ls=[]
 ·subst h;exact(qrcnh A B c d w).mono fun e w' ⟨he,m,hw⟩=>⟨he,hw▸qnpu (Below.refl _ _) m⟩
 ·obtain⟨ga,ia,rfl,_,ha⟩:=hA h;obtain⟨gb,ib,rfl,_,hb⟩:=hB h;exact(qx18 ga ia gb ib c d ls w ha hb hl).mono fun e w' ⟨he,m,hw⟩=>⟨he,hw▸qnpu (Below.refl _ _) m⟩
def zcs(l:List Int):List Value:=l.map (Value.int .i64)
theorem qi69(l:List Int):(zcs l).length=l.length:=by simp[zcs]
theorem qbzn(l:List Int):∀u∈zcs l,u.oneCell'=true:=fun u hu=>by
 unfold zcs at hu;obtain⟨z,_,rfl⟩:=List.mem_map.1 hu
 rfl
theorem qazj5{l:List Int}{j:Nat}(h:j<l.length):(zcs l)[j]?=some (.int .i64 (l.getD j 0)):=by simp[zcs,List.getD,List.getElem?_eq_getElem h]
def IR(W:World)(A:Option Addr)(zs:List Int):Prop:=
 0<zs.length->∃a,A=some a/\a.block<W.heap.size/\∀i,i<zs.length->W.cell? (a.add i)=some (.int .i64 (zs.getD i 0))
theorem q2z6(a:Addr)(k:Nat):(a.add k).block=a.block:=by obtain⟨b,o,s⟩:=a;unfold Addr.add;split<;>rfl
theorem IR.kept{W W':World}{A:Option Addr}{zs:List Int}(h:IR W A zs)(hb:Below W.heap.size W W'):IR W' A zs:=fun hne=>by obtain⟨a,e,hg,hc⟩:=h hne;exact⟨a,e,Nat.lt_of_lt_of_le hg hb.size,fun i hi=>(World.cell?_of_block (a:=a.add i) (by rw[q2z6];exact hb.block _ hg)).trans (hc i hi)⟩
theorem IR.nil{W:World}{A:Option Addr}:IR W A []:=fun h=>absurd h (Nat.lt_irrefl _)
theorem IR.alloc{W:World}(zs:List Int)(t:TypeId):IR (W.alloc (.cells (zcs zs).toArray t)) (some ⟨W.heap.size,0,none⟩) zs:=fun _=>
 ⟨_,rfl,by simp,fun i hi=>by rw[Addr.add_lit,Nat.zero_add,World.cell?_alloc_at _ _ _ _ rfl];simpa using qazj5 hi⟩
theorem qi85{w w':World}{base n size:Nat}{t:TypeId}{v:Value}{xs:List Value}(h:w.ownsRow base t size v n xs)(hb:Below w.heap.size w w'):w'.ownsRow base t size v n xs:=
 h.kept (row:=none) ⟨hb.os,hb.tape,hb.output,hb.size,fun k hk _=>hb.block k hk⟩ (by cases v.ownBlock<;>simp)
theorem qkgb{B:Nat}{w:World}{b:Nat}(hB:B<=b):∀(vs:List Value) (o:Nat) (W:World),Below B w W->Below B w (W.setCells b o vs)
 |[],_,_,h=>h
 |v::vs,o,W,h=>by rw[World.setCells];exact qkgb hB vs (o+1) _ (h.setCell (p:=⟨b,o,none⟩) hB v)
def qix8(w:World)(l:List (List UInt8))(e:Ending)(W:World):Prop:=
 ∃A c,e=.returned (.slice A l.length c)/\SR W A l/\Below w.heap.size w W/\∀i j,A=some ⟨i,j,none⟩->w.heap.size<=i
theorem qix8.since{w w1 W:World}{l:List (List UInt8)}{e:Ending}(hb:Below w.heap.size w w1)(h:qix8 w1 l e W):qix8 w l e W:=by obtain⟨A,c,h1,h2,h3,h4⟩:=h;exact⟨A,c,h1,h2,hb.trans (h3.mono hb.size),fun i j e=>Nat.le_trans hb.size (h4 i j e)⟩
structure ChS(w:World)(G:List (List UInt8))(x:Value)(W:World):Prop where
 low:Below w.heap.size w W
 own:W.ownsRow w.heap.size 9 1 x G.length (strs G)
theorem qkub:(prog.info? 9).map (fun i=>(i.zero,i.size,i.bytes))=some (some (.string .empty),1,16):=by kernel_rfl
section
variable{w W W':World}{G:List (List UInt8)}{x x':Value}
theorem ChS.call(h:ChS w G x W)(hb:Below W.heap.size W W'):ChS w G x W':=⟨h.low.trans (hb.mono h.low.size),qi85 h.own hb⟩
theorem ChS.app(h:ChS w G x W)(p:List UInt8)(hG:G.length<=2000)(n:Nat):∃x' W',(Builtin.append_ #[40,40] 40 #[x,.slice (some ⟨W.heap.size,0,none⟩) 1 1]).run prog ((W.alloc (.cells #[.string (bs p)] 9)).drewN n)=.ok x' W'/\ChS w (G++[p]) x' W':=by
 obtain⟨i0,hi,hz0,hz1,hz2⟩:=info_parts qkub;have SA:ChS w G x ((W.alloc (.cells #[.string (bs p)] 9)).drewN n):=h.call (qnpu ((Below.refl _ _).alloc (Nat.le_refl _) _) n);obtain⟨x',W',hr,ho,hg,-,hor⟩:=run_append_own_at (P:=prog) ((W.alloc (.cells #[.string (bs p)] 9)).drewN n) w.heap.size 40 40 9 i0 (.string .empty) 1 16 underlying40 hi hz0 hz1 hz2 rfl (by decide) x G.length (strs G) SA.own ⟨W.heap.size,0,none⟩ 1 1 [.string (bs p)] rfl
  (fun j u hj=>by rw[Addr.add_lit,Nat.zero_add];refine(show((W.alloc (.cells #[.string (bs p)] 9)).drewN n).cell? ⟨W.heap.size,j,none⟩=(W.alloc (.cells #[.string (bs p)] 9)).cell? ⟨W.heap.size,j,none⟩ from rfl).trans ?_;rw[World.cell?_alloc_at _ _ _ _ rfl];simpa using hj) (by simp[Value.oneCell']) (by simp only[maxLen];omega) (by omega) SA.low.size
 refine⟨x',W',hr,SA.low.grown hg SA.low.size (fun j hj=>(SA.own.lt j hj).1),?_⟩;rw[List.length_append];have e:strs (G++[p])=strs G++[.string (bs p)]:=by simp[strs]
 rw[e];exact ho
theorem ChS.ret(h:ChS w G x W):qix8 w G (.returned x) W:=by obtain⟨A,c,hx,-,hcl,hnew⟩:=CL.owned h.own (by simp[strs]);refine⟨A,c,by rw[hx],fun hne=>?_,h.low,hnew⟩;obtain⟨g,i,e,hg,hc⟩:=hcl (fun e=>hne (List.map_eq_nil_iff.1 e));exact⟨g,i,e,hg,fun j hj=>hc j _ (by simp[strs,List.getD,List.getElem?_eq_getElem hj])⟩
end
end Go.Proofs.YtefmhbioggcfaaaGreatDoor
