/- Whether a kind may have a code: (set).has, May. Condition: none. -/
import Derived.Test.YtbklidpadffpgaaGreatK24
import Derived.Test.YtbklidpadffpgaaGreatK03
import Derived.Test.YtbklidpadffpgaaGreatK12
import Derived.Test.YtbklidpadffpgaaGreatK10
import Derived.Test.YtbklidpadffpgaaGreatK09
set_option maxRecDepth 100000
set_option maxHeartbeats 4000000
namespace Go.Proofs.YtbklidpadffpgaaGreat
open Go.RowKit
theorem q0jg(x m:Nat)(hx:x < 18446744073709551616):(bits .and .u64 ((x:Int) / 2^m) 1 != 0)=(x / 2^m%2==1):=by
 have e:(x:Int) / 2^m=((x / 2^m:Nat):Int):=by simp
 have h:x / 2^m < 18446744073709551616:=Nat.lt_of_le_of_lt (Nat.div_le_self _ _) hx
 rw[e]
 generalize x / 2^m=y at *
 have h1:=bits_and_u64_nat y 1 h (by decide)
 rw[show((1:Nat):Int)=1 from rfl] at h1
 rw[h1,Nat.and_one_is_mod]
 have:=Nat.mod_two_eq_zero_or_one y
 rcases this with h | h<;>rw[h]<;>rfl
theorem qg8y(s:W4)(code:Int)(w:World)(h:code < 0∨256≤code) :
 Calls Tryz.prog 91 #[V4 s,.int .i64 code] w fun e w'=>e = .returned (.bool false)∧Below w.heap.size w w':=by
 have L0:=Lib.hid (show Below w.heap.size w (w.alloc (.cells #[.int .u64 s.a,.int .u64 s.b,.int .u64 s.c,.int .u64 s.d] 129)) from(Below.refl _ _).alloc (Nat.le_refl _) _)
 unfold V4
 rcases h with h | h
 ·go_enter Tryz.func91,Tryz.ntmps91
  go_wp2_with fail
  go_ret
  exact⟨rfl,L0.out⟩
 ·have h0:0≤code:=by omega
  have h1:¬code < 256:=by omega
  go_enter Tryz.func91,Tryz.ntmps91
  go_wp2_with fail
  go_ret
  exact⟨rfl,L0.out⟩
theorem q5ro(s:W4)(c:Nat)(w:World)(hs:OkW s)(hc:c < 256) :
 Calls Tryz.prog 91 #[V4 s,.int .i64 (c:Int)] w fun e w'=>e = .returned (.bool (hasW s c))∧Below w.heap.size w w':=by
 have L0:=Lib.hid (show Below w.heap.size w (w.alloc (.cells #[.int .u64 s.a,.int .u64 s.b,.int .u64 s.c,.int .u64 s.d] 129)) from(Below.refl _ _).alloc (Nat.le_refl _) _)
 have H0:=heap_alloc_new w (.cells #[.int .u64 s.a,.int .u64 s.b,.int .u64 s.c,.int .u64 s.d] 129)
 have c0:=cell_of_row _ w.heap.size 0 _ _ _ H0
 have c1:=cell_of_row _ w.heap.size 1 _ _ _ H0
 have c2:=cell_of_row _ w.heap.size 2 _ _ _ H0
 have c3:=cell_of_row _ w.heap.size 3 _ _ _ H0
 have h0:(0:Int)≤(c:Int):=by omega
 have h1:(c:Int) < 256:=by omega
 obtain⟨m,hmm⟩:∃m,c%64=m:=⟨_,rfl⟩
 have hm:m < 64:=by omega
 have e2:(c:Int)%64=(m:Int):=by omega
 clear H0
 unfold V4
 by_cases q0:c < 64
 ·skip
  have e1:(c:Int) / 64=0:=by omega
  have HV:=Lib.hid (show(bits .and .u64 ((s.a:Int) / 2^m) 1 != 0)=hasW s c from by
   rw[q0jg _ _ hs.a]
   unfold hasW word
   simp[hc,hmm,q0])
  clear hmm hs hc
  go_enter Tryz.func91,Tryz.ntmps91
  go_wp2_with fail
  go_ret
  exact⟨by rw[HV.out];rfl,L0.out⟩
 by_cases q1:c < 128
 ·skip
  have e1:(c:Int) / 64=1:=by omega
  have HV:=Lib.hid (show(bits .and .u64 ((s.b:Int) / 2^m) 1 != 0)=hasW s c from by
   rw[q0jg _ _ hs.b]
   unfold hasW word
   simp[hc,hmm,q0,q1])
  clear hmm hs hc
  go_enter Tryz.func91,Tryz.ntmps91
  go_wp2_with fail
  go_ret
  exact⟨by rw[HV.out];rfl,L0.out⟩
 by_cases q2:c < 192
 ·skip
  have e1:(c:Int) / 64=2:=by omega
  have HV:=Lib.hid (show(bits .and .u64 ((s.c:Int) / 2^m) 1 != 0)=hasW s c from by
   rw[q0jg _ _ hs.c]
   unfold hasW word
   simp[hc,hmm,q0,q1,q2])
  clear hmm hs hc
  go_enter Tryz.func91,Tryz.ntmps91
  go_wp2_with fail
  go_ret
  exact⟨by rw[HV.out];rfl,L0.out⟩
 ·skip
  have e1:(c:Int) / 64=3:=by omega
  have HV:=Lib.hid (show(bits .and .u64 ((s.d:Int) / 2^m) 1 != 0)=hasW s c from by
   rw[q0jg _ _ hs.d]
   unfold hasW word
   simp[hc,hmm,q0,q1,q2])
  clear hmm hs hc
  go_enter Tryz.func91,Tryz.ntmps91
  go_wp2_with fail
  go_ret
  exact⟨by rw[HV.out];rfl,L0.out⟩
theorem qfh4(s:W4)(code:Int)(w:World)(hs:OkW s) :
 Calls Tryz.prog 91 #[V4 s,.int .i64 code] w fun e w'=>e = .returned (.bool (decide (0≤code)&&hasW s code.toNat))∧Below w.heap.size w w':=by
 by_cases h:code < 0∨256≤code
 ·have e:(decide (0≤code)&&hasW s code.toNat)=false:=by
   rcases h with h | h
   ·simp[show ¬0≤code by omega]
   ·unfold hasW;simp[show ¬code.toNat < 256 by omega]
  rw[e]
  exact qg8y s code w h
 ·obtain⟨c,rfl⟩:∃c:Nat,code=(c:Int):=⟨code.toNat,by omega⟩
  have e:(decide (0≤(c:Int))&&hasW s (c:Int).toNat)=hasW s c:=by simp
  rw[e]
  exact q5ro s c w hs (by omega)
theorem qeiz(kind code:Int)(w:World) :
 Calls Tryz.prog 52 #[.int .i64 kind,.int .i64 code] w fun e w'=>e = .returned (.bool (mayR kind code))∧Below w.heap.size w w':=by
 have e:(decide (0≤code)&&hasW (q71c (grp kind)) code.toNat)=mayR kind code:=by rw[qi9u];rfl
 have HA:=Lib.hid (fun W=>qfh4 (q71c (grp kind)) code W (qjuf _))
 rw[e] at HA
 clear e
 go_enter Tryz.func52,Tryz.ntmps52
 go_wp2_with fail
 refine(qyq4 kind _).mono ?_
 rintro e w1 ⟨rfl,hb⟩
 have L1:=Lib.hid hb
 clear hb
 go_wp2_with fail
 refine(HA.out _).mono ?_
 rintro e w2 ⟨rfl,hb⟩
 have L2:=Lib.hid (L1.out.trans (hb.mono L1.out.size))
 clear hb
 go_wp2_with fail
 go_ret
 exact⟨rfl,L2.out⟩
def q3al(s k l:Nat):Value := .agg #[.int .i64 s,.int .u32 k,.int .u32 l]
def q32g:Value := .agg #[.int .i64 0,.int .u32 0,.int .u32 0]
def rulesL:List (Int×Value):=[(42,q3al 1 4 0),(41,q3al 1 4 0),(40,q3al 1 4 0),(39,q3al 3 6 1),(38,q3al 7 118782 0),(37,q3al 1 4 0),(36,q3al 1 4 0),(35,q3al 2 8 1),(34,q3al 2 6 0),(33,q3al 2 6 1),(31,q3al 5 51956 0),(28,q3al 5 16388 0),(26,q3al 5 4 0),(25,q3al 1 2 0),(24,q3al 3 65536 0),(23,q3al 1 2 0),(22,q3al 6 32774 0),(21,q3al 5 32774 0),(19,q3al 2 4 0),(18,q3al 5 4 0),(17,q3al 3 16390 0),(11,q3al 4 264 1),(9,q3al 6 65544 0),(8,q3al 5 65544 0),(3,q3al 5 65544 0),(2,q3al 3 65544 0),(1,q3al 1 65544 0)]
def q88l(w:World)(b:Nat):Prop:=qmfc Tryz.prog 3 w b q32g rulesL
theorem q88l.of_block{w w':World}{b:Nat}(h:q88l w b)(hb:w'.heap[b]? = w.heap[b]?):q88l w' b:=qmfc.of_block h hb
theorem qwvk(w:World):Calls Tryz.prog 95 #[] w fun e w'=>e = .returned (.map (some w.heap.size))∧q88l w' w.heap.size∧Below w.heap.size w w':=by
 have hmm:=@run_makeMap Tryz.prog
 have hG:MapG Tryz.prog 3 w (w.alloc (.map #[] 0)) w.heap.size q32g []:=⟨qmfc.made _ _ _ _,(Below.refl _ _).alloc (Nat.le_refl _) _,Nat.le_refl _⟩
 go_enter Tryz.func95,Tryz.ntmps95
 go_wp2_with (refine q32q rfl _ _ _ 93 rfl 3 92 Tryz.underlying3 Tryz.underlying93 _ _ _ rfl hG (by simp[maxLen]) _ _ rfl rfl (by decide) ?_;clear hG;intro w1 hG)
 go_ret
 exact⟨rfl,hG.1,hG.2.1⟩
def qavf(id:Int):Nat:=(prow id).kinds.foldr (fun k m=>m+2^k.toNat) 0
theorem qbqu(z:Value):∀(l:List (Int×Value)) (i:Int),(∀p∈l,i≠p.1)→q1n3 z l i=z
 | [],_,_=>rfl
 | p::l,i,h=>by
  rw[q1n3,if_neg (h p (List.mem_cons_self ..))]
  exact qbqu z l i (fun q hq=>h q (List.mem_cons_of_mem _ hq))
theorem q2yr:∀p∈rulesL,1≤p.1∧p.1≤42:=by
 intro p hp
 have h:=List.mem_map_of_mem (f:=Prod.fst) hp
 have:∀k∈rulesL.map Prod.fst,1≤k∧k≤42:=by decide
 exact this _ h
theorem q52f(id:Int):q1n3 q32g rulesL id=q3al (prow id).shape (qavf id) (prow id).least:=by
 rcases Int.lt_or_le id 1 with h | h
 ·rw[qbqu _ _ _ (fun p hp e=>by have:=q2yr p hp;omega)]
  unfold qavf
  rw[q0dw (.inl h)];rfl
 ·rcases Int.lt_or_le 42 id with h2 | h2
  ·rw[qbqu _ _ _ (fun p hp e=>by have:=q2yr p hp;omega)]
   unfold qavf
   rw[q0dw (.inr h2)];rfl
  ·obtain⟨n,rfl⟩:=Int.eq_ofNat_of_zero_le (show 0≤id by omega)
   have hn:n≤42:=by omega
   clear h h2
   match n,hn with
   | 0,_=>rfl
   | 1,_=>rfl
   | 2,_=>rfl
   | 3,_=>rfl
   | 4,_=>rfl
   | 5,_=>rfl
   | 6,_=>rfl
   | 7,_=>rfl
   | 8,_=>rfl
   | 9,_=>rfl
   | 10,_=>rfl
   | 11,_=>rfl
   | 12,_=>rfl
   | 13,_=>rfl
   | 14,_=>rfl
   | 15,_=>rfl
   | 16,_=>rfl
   | 17,_=>rfl
   | 18,_=>rfl
   | 19,_=>rfl
   | 20,_=>rfl
   | 21,_=>rfl
   | 22,_=>rfl
   | 23,_=>rfl
   | 24,_=>rfl
   | 25,_=>rfl
   | 26,_=>rfl
   | 27,_=>rfl
   | 28,_=>rfl
   | 29,_=>rfl
   | 30,_=>rfl
   | 31,_=>rfl
   | 32,_=>rfl
   | 33,_=>rfl
   | 34,_=>rfl
   | 35,_=>rfl
   | 36,_=>rfl
   | 37,_=>rfl
   | 38,_=>rfl
   | 39,_=>rfl
   | 40,_=>rfl
   | 41,_=>rfl
   | 42,_=>rfl
   | n+43,h=>exact absurd h (by omega)
def bitP(m:Nat)(kind:Int):Bool:=decide (0≤kind∧kind < 32)&&decide (m / 2^kind.toNat%2=1)
theorem qg72(ks:List Int)(h:(List.range 32).all (fun k=>decide ((ks.foldr (fun k m=>m+2^k.toNat) 0) / 2^k%2=1)==ks.contains (k:Int))=true)(hk:∀k∈ks,0≤k∧k < 32)(kind:Int) :
 bitP (ks.foldr (fun k m=>m+2^k.toNat) 0) kind=ks.contains kind:=by
 unfold bitP
 by_cases hr:0≤kind∧kind < 32
 ·rw[decide_eq_true hr,Bool.true_and]
  obtain⟨n,rfl⟩:=Int.eq_ofNat_of_zero_le hr.1
  have:=List.all_eq_true.1 h n (List.mem_range.2 (by omega))
  rw[beq_iff_eq] at this
  exact this
 ·rw[decide_eq_false hr,Bool.false_and]
  cases hc:ks.contains kind with
  | false=>rfl
  | true=>exact absurd (hk kind (by simpa using hc)) hr
theorem qqfu(kind id:Int):bitP (qavf id) kind=mayP kind id:=by
 unfold qavf mayP
 have key:∀r:PRow,(decide (r.kinds.all fun k=>decide (0≤k)&&decide (k < 32))&&(List.range 32).all (fun k=>decide ((r.kinds.foldr (fun k m=>m+2^k.toNat) 0) / 2^k%2=1)==r.kinds.contains (k:Int)))=true→
  bitP (r.kinds.foldr (fun k m=>m+2^k.toNat) 0) kind=r.kinds.contains kind:=fun r h=>by
  rw[Bool.and_eq_true,decide_eq_true_eq] at h
  exact qg72 r.kinds h.2 (fun k hk=>by
   have:=List.all_eq_true.1 h.1 k hk
   rw[Bool.and_eq_true,decide_eq_true_eq,decide_eq_true_eq] at this
   exact this) kind
 rcases Int.lt_or_le id 1 with h | h
 ·rw[q0dw (.inl h)];exact key _ (by decide)
 ·rcases Int.lt_or_le 42 id with h2 | h2
  ·rw[q0dw (.inr h2)];exact key _ (by decide)
  ·exact key _ (qoa5 (fun _ r=>decide (r.kinds.all fun k=>decide (0≤k)&&decide (k < 32))&&(List.range 32).all (fun k=>decide ((r.kinds.foldr (fun k m=>m+2^k.toNat) 0) / 2^k%2=1)==r.kinds.contains (k:Int))) (by decide+kernel) ⟨h,h2⟩)
theorem qa46(id:Int):qavf id < 131072:=by
 unfold qavf
 rcases Int.lt_or_le id 1 with h | h
 ·rw[q0dw (.inl h)];decide
 ·rcases Int.lt_or_le 42 id with h2 | h2
  ·rw[q0dw (.inr h2)];decide
  ·have:=qoa5 (fun _ r=>decide (r.kinds.foldr (fun k m=>m+2^k.toNat) 0 < 131072)) (by decide+kernel) ⟨h,h2⟩
   exact of_decide_eq_true this
theorem q4o6(k:Nat)(kind:Int)(hk:k < 4294967296)(hi:-9223372036854775808≤kind)(hj:kind≤9223372036854775807) :
 (bits BinOp.and IntKind.u32 ((k:Int) / 2^min (IntKind.u64.wrap kind).toNat 32) 1 != 0)=bitP k kind:=by
 obtain⟨m,hm⟩:∃m:Nat,(k:Int) / 2^min (IntKind.u64.wrap kind).toNat 32=(m:Int)∧m=k / 2^min (IntKind.u64.wrap kind).toNat 32:=⟨_,by simp,rfl⟩
 rw[hm.1]
 have hlt:m < 4294967296:=by rw[hm.2];exact Nat.lt_of_le_of_lt (Nat.div_le_self _ _) hk
 have e1:bits BinOp.and IntKind.u32 (m:Int) 1=(m:Int)%2:=by
  have:=bits_mask .u32 32 (by decide) (fun n h0 h1=>by rw[IntKind.wrap_u32];omega) 1 (by decide) (m:Int) (by omega) (by omega)
  simpa using this
 rw[e1]
 unfold bitP
 rw[IntKind.wrap_u64] at hm
 by_cases hr:0≤kind∧kind < 32
 ·rw[decide_eq_true hr,Bool.true_and]
  have e2:min (kind%18446744073709551616).toNat 32=kind.toNat:=by omega
  rw[e2] at hm
  rw[←hm.2]
  rcases Nat.mod_two_eq_zero_or_one m with h | h
  ·have:(m:Int)%2=0:=by omega
   rw[this,h];rfl
  ·have:(m:Int)%2=1:=by omega
   rw[this,h];rfl
 ·rw[decide_eq_false hr,Bool.false_and]
  have e2:min (kind%18446744073709551616).toNat 32=32:=by omega
  rw[e2,Nat.div_eq_of_lt (by simpa using hk)] at hm
  rw[hm.2];rfl
theorem qkta(s k l:Nat)(kind:Int)(w:World)(hk:k < 4294967296)(hi:-9223372036854775808≤kind)(hj:kind≤9223372036854775807) :
 Calls Tryz.prog 148 #[q3al s k l,.int .i64 kind] w fun e w'=>e = .returned (.bool (bitP k kind))∧Below w.heap.size w w':=by
 have hb:=Lib.hid (q4o6 k kind hk hi hj)
 unfold q3al
 go_enter Tryz.func148,Tryz.ntmps148
 go_wp2
 go_ret
 exact⟨congrArg (fun b=>Ending.returned (Value.bool b)) hb.out,(Below.refl _ _).alloc (Nat.le_refl _) _⟩
def q5n9(kind id:Int):Bool:=id==38 || (id==11&&kind==3)
theorem qfvw(kind id:Int)(w:World) :
 Calls Tryz.prog 122 #[.int .i64 kind,.int .i64 id] w fun e w'=>e = .returned (.bool (q5n9 kind id))∧w=w':=by
 unfold q5n9
 obtain⟨b1,h1⟩:∃b,(id==38)=b:=⟨_,rfl⟩
 obtain⟨b2,h2⟩:∃b,(id==11)=b:=⟨_,rfl⟩
 obtain⟨b3,h3⟩:∃b,(kind==3)=b:=⟨_,rfl⟩
 rw[h1,h2,h3]
 cases b1<;>cases b2<;>cases b3<;>
 ·go_enter Tryz.func122,Tryz.ntmps122
  go_wp2
  go_ret
  exact⟨rfl,rfl⟩
theorem qtcb(W:World):(zeroValue 92).run Tryz.prog W = .ok q32g W:=by kernel_rfl
theorem qs52{n:Int}(h0:-9223372036854775808≤n)(h1:n≤9223372036854775807):(Lit.int .i64 n).wf=true:=by
 simp[Lit.wf,IntKind.min,IntKind.max,IntKind.signed,IntKind.bits];omega
theorem q88l.look{w:World}{b:Nat}(h:q88l w b){id:Int}(h0:-9223372036854775808≤id)(h1:id≤9223372036854775807) :
 (Instr.lookup 93 (.map (some b)) (.int .i64 id) false).run Tryz.prog w = .ok (q3al (qwgc id) (qavf id) (prow id).least) w:=by
 have:=qmfc.look h Tryz.underlying3 Tryz.underlying93 (qtcb w) (qs52 h0 h1)
 rw[q52f] at this
 exact this
theorem qyw9(s k l:Nat)(W:World):(Instr.field 92 (q3al s k l) 0).run Tryz.prog W = .ok (.int .i64 s) W:=by kernel_rfl
theorem qsz0:(Tryz.prog.info? 5).map (fun i=>(i.zero,i.size,i.bytes))=some (some (.int .u8 0),1,1):=by kernel_rfl
theorem q3j9{w:World}{base:Nat}{v:Value}{n:Nat}(l:List UInt8)(h:w.ownsRow base 5 1 v n (l.map u8v)) :
 (convert 97 9 v).run Tryz.prog w = .ok (.string (bs l)) w:=by
 have hl:l.length=n:=by have:=h.1;simpa using this
 rcases h.2 with ⟨rfl,hn⟩ | ⟨g,cap,cur,rfl,_⟩
 ·have:l=[]:=List.eq_nil_of_length_eq_zero (by omega)
  subst this
  exact run_convert_bytes_nil w 97 5 Tryz.underlying97 Tryz.underlying5 0 0 9 Tryz.underlying9
 ·have hc:=h.cells (g:=g) rfl
  have e:=run_convert_bytes_arg (P:=Tryz.prog) w 97 5 Tryz.underlying97 Tryz.underlying5 g 0 n cap (l.map fun b=>(b.toNat:Int)) (by simp[hl]) (fun i hi=>by
   have:=hc i (u8v (l.getD i 0)) (by simp[List.getElem?_eq_getElem (show i < l.length by omega)])
   have hadd:(⟨g,0,none⟩:Addr).add i=⟨g,0+i,none⟩:=by unfold Addr.add;split<;>simp_all
   rw[hadd] at this
   rw[this]
   simp[u8v,List.getD,List.getElem?_eq_getElem (show i < l.length by omega)]) 9 Tryz.underlying9
  rw[e]
  simp[bs,strOfNums,Function.comp_def]
theorem q4ad(s:ByteArray):s.size=s.data.toList.length:=by simp
theorem qs55:cb 65533=[239,191,189]:=by decide
theorem qhuz(s:ByteArray):((s.extract 0 3).toList==[239,191,189])=decide (s.data.toList.take 3=[239,191,189]):=by
 rw[qrze]
 have:(s.extract 0 3).data.toList=s.data.toList.take 3:=by simp[List.extract_eq_take_drop]
 rw[this,Bool.eq_iff_iff]
 simp
theorem qrmy(s:ByteArray)(w:World)(h:∃r,s.data.toList=[239,191,189]++r) :
 Calls Tryz.prog 183 #[.string s,.string ⟨#[239,191,189]⟩] w fun e w'=>e = .returned (.bool true)∧w=w':=by
 obtain⟨r,h⟩:=h
 have h3:3≤s.size:=by rw[q4ad,h];simp
 have hq:((s.extract 0 3).toList==[239,191,189])=true:=by rw[qhuz,h];simp
 go_enter Tryz.func183,Tryz.ntmps183
 go_wp2
 go_ret
 exact⟨rfl,rfl⟩
theorem q689(s:ByteArray)(w:World)(h:¬∃r,s.data.toList=[239,191,189]++r) :
 Calls Tryz.prog 183 #[.string s,.string ⟨#[239,191,189]⟩] w fun e w'=>e = .returned (.bool false)∧w=w':=by
 by_cases h3:3≤s.size
 ·have hq:((s.extract 0 3).toList==[239,191,189])=false:=by
   rw[qhuz,decide_eq_false_iff_not]
   intro e
   exact h ⟨s.data.toList.drop 3,by rw[←e];exact(List.take_append_drop 3 _).symm⟩
  go_enter Tryz.func183,Tryz.ntmps183
  go_wp2
  go_ret
  exact⟨rfl,rfl⟩
 ·have h4:s.size < 3:=by omega
  clear h3
  go_enter Tryz.func183,Tryz.ntmps183
  go_wp2
  go_ret
  exact⟨rfl,rfl⟩
theorem qy73(s:ByteArray)(w:World)(b:Bool)(h:b=true↔∃r,s.data.toList=[239,191,189]++r) :
 Calls Tryz.prog 178 #[.string s,.string ⟨#[239,191,189]⟩] w fun e w'=>e = .returned (.bool b)∧w=w':=by
 have hc:Calls Tryz.prog 183 #[.string s,.string ⟨#[239,191,189]⟩] w fun e w'=>e = .returned (.bool b)∧w=w':=by
  cases b with
  | true=>exact qrmy s w (h.1 rfl)
  | false=>exact q689 s w (fun e=>by cases h.2 e)
 have hc:=Lib.hid hc
 go_enter Tryz.func178,Tryz.ntmps178
 go_wp2_with fail
 refine(hc.out).mono ?_
 rintro e W ⟨rfl,rfl⟩
 go_wp2_with fail
 go_ret
 exact⟨rfl,rfl⟩
theorem qg51(s:ByteArray)(c:Nat)(w:World)(hc:c≠65533)(hm:c < 2147483648) :
 Calls Tryz.prog 176 #[.string s,.int .i32 c] w fun e w'=>e = .returned (.bool (decide (c≠0)))∧w=w':=by
 have h1:¬(c:Int)=65533:=by omega
 by_cases h0:c=0
 ·subst h0
  go_enter Tryz.func176,Tryz.ntmps176
  go_wp2
  go_ret
  exact⟨rfl,rfl⟩
 ·have h2:¬(c:Int)=0:=by omega
  have e:decide (c≠0)=true:=by simp[h0]
  rw[e]
  go_enter Tryz.func176,Tryz.ntmps176
  go_wp2
  go_ret
  exact⟨by simp[h0],rfl⟩
theorem qcwf(s:ByteArray)(b:Bool)(w:World)(h:b=true↔∃r,s.data.toList=[239,191,189]++r) :
 Calls Tryz.prog 176 #[.string s,.int .i32 65533] w fun e w'=>e = .returned (.bool b)∧w=w':=by
 have hc:=Lib.hid (qy73 s w b h)
 clear h
 go_enter Tryz.func176,Tryz.ntmps176
 go_wp2_with fail
 refine(hc.out).mono ?_
 rintro e W ⟨rfl,rfl⟩
 go_wp2_with fail
 go_ret
 exact⟨rfl,rfl⟩
theorem q62j(s:ByteArray)(c:Nat)(w:World)(h:hd s.data.toList=some c) :
 Calls Tryz.prog 176 #[.string s,.int .i32 c] w fun e w'=>e = .returned (.bool true)∧w=w':=by
 obtain⟨ho,r,hr⟩:=qsz3 h
 by_cases hc:c=65533
 ·subst hc
  exact qcwf s true w ⟨fun _=>⟨r,by rw[hr,qs55]⟩,fun _=>rfl⟩
 ·have hb:=qg51 s c w hc (by have:=ho.2;omega)
  have e:decide (c≠0)=true:=by have:=ho.1;simp;omega
  rwa [e] at hb
theorem qxmi(s:ByteArray)(w:World)(h0:s.data.toList≠[])(h:hd s.data.toList=none) :
 Calls Tryz.prog 176 #[.string s,.int .i32 (dl s.data.toList).1] w fun e w'=>e = .returned (.bool false)∧w=w':=by
 rcases q51d h0 h with hc | hc
 ·rw[hc]
  refine qcwf s false w ⟨fun e=>(by cases e),fun⟨r,hr⟩=>?_⟩
  rw[←qs55] at hr
  rw[hr,qwug (by unfold okc;omega)] at h
  cases h
 ·rw[hc]
  exact qg51 s 0 w (by decide) (by decide)
theorem q6d9(c:Nat)(w:World)(h:okc c) :
 Calls Tryz.prog 173 #[.int .i32 c] w fun e w'=>e = .returned (.int .i64 (cb c).length)∧w=w':=by
 obtain⟨h0,h1⟩:=h
 have hz:¬(c:Int) < 0:=by omega
 rw[qqv9]
 by_cases h2:c < 128
 ·rw[if_pos h2]
  have k2:(c:Int)≤127:=by omega
  clear h1 h2
  go_enter Tryz.func173,Tryz.ntmps173
  go_wp2
  go_ret
  exact⟨rfl,rfl⟩
 rw[if_neg h2]
 have k2:¬(c:Int)≤127:=by omega
 by_cases h3:c < 2048
 ·rw[if_pos h3]
  have k3:(c:Int)≤2047:=by omega
  clear h1 h2 h3
  go_enter Tryz.func173,Tryz.ntmps173
  go_wp2
  go_ret
  exact⟨rfl,rfl⟩
 rw[if_neg h3]
 have k3:¬(c:Int)≤2047:=by omega
 by_cases h4:c < 65536
 ·rw[if_pos h4]
  have k4:(c:Int)≤65535:=by omega
  by_cases h5:c < 55296
  ·have k5:¬55296≤(c:Int):=by omega
   clear h1 h2 h3 h4 h5
   go_enter Tryz.func173,Tryz.ntmps173
   go_wp2
   go_ret
   exact⟨rfl,rfl⟩
  ·have k5:55296≤(c:Int):=by omega
   have k6:¬(c:Int)≤57343:=by omega
   clear h1 h2 h3 h4 h5
   go_enter Tryz.func173,Tryz.ntmps173
   go_wp2
   go_ret
   exact⟨rfl,rfl⟩
 rw[if_neg h4]
 have k4:¬(c:Int)≤65535:=by omega
 have k5:55296≤(c:Int):=by omega
 have k6:¬(c:Int)≤57343:=by omega
 have k7:(c:Int)≤1114111:=by omega
 clear h1 h2 h3 h4
 go_enter Tryz.func173,Tryz.ntmps173
 go_wp2
 go_ret
 exact⟨rfl,rfl⟩
theorem q4ng(n c:Nat)(w:World)(hn:n < 18446744073709551616)(h0:0 < c)(h1:c≤16) :
 Calls Tryz.prog 28 #[.int .u64 n,.int .i64 c] w fun e w'=>e = .returned (.string (bs (be n c)))∧Below w.heap.size w w':=by
 obtain⟨i0,hi,hz0,hz1,hz2⟩:=info_parts qsz0
 go_enter Tryz.func28,Tryz.ntmps28
 go_wp2
 go_loopw [6,11] (fun v i wr=>∃k:Nat,k≤c∧i = .int .i64 k∧wr.ownsRow w.heap.size 5 1 v k ((be (n / 256^(c - k)) k).map u8v)∧Below w.heap.size w wr) (fun _ i _=>c - (intOf i).toNat)
 case atStart=>exact⟨0,Nat.zero_le _,rfl,World.ownsRow_nil _ _ _ _,Below.refl _ _⟩
 case round=>
  obtain⟨k,hk,rfl,hown,hb⟩:=hrel
  by_cases hlt:k < c
  ·have hst:=qxkn n c k hlt
   have hsh0:=qg6w n (c - (k+1)) hn
   rw[show(((8*(c - (k+1)):Nat)):Int)=8*((c:Int) - 1 - k) from by omega] at hsh0
   generalize hm:n / 256^(c - (k+1))=m at hst hsh0
   have HM:=Lib.hid hm;clear hm
   have HS:=Lib.hid hst;clear hst
   have hsh:Op.shift .shr .u64 (n:Int) .i64 (8*((c:Int) - 1 - k))=pure (.int .u64 (m:Int)):=hsh0
   clear hsh0
   have hbs:w.heap.size≤wr.heap.size:=hb.size
   go_wp2_with (at_builtin;refine wpList_append_own _ rfl _ _ 97 rfl w.heap.size 5 i0 (.int .u8 0) 1 1 Tryz.underlying97 hi hz0 hz1 hz2 rfl (by decide) _ _ _ rfl (hown.alloc _) ⟨wr.heap.size,0,none⟩ 1 1 [.int .u8 ((m:Int)%256)] rfl rfl ?c1 ?c2 ?c3 ?c4 ?c5 ?_)
   case c1=>intro j u hj;cases j<;>simp at hj;subst hj;exact World.cell?_alloc_at _ _ _ _ rfl
   case c2=>intro u hu;simp at hu;subst hu;rfl
   case c3=>unfold maxLen;omega
   case c4=>omega
   case c5=>simp;omega
   intro v' w1 hown' hgrow _
   have hb':Below w.heap.size w w1:=(hb.alloc hbs _).grown hgrow (by simp;omega) (fun j hj=>by have:=(hown.lt j hj).1;omega)
   have hown2:w1.ownsRow w.heap.size 5 1 v' (k+1) ((be (n / 256^(c - (k+1))) (k+1)).map u8v):=by
    rw[HM.out,HS.out];simpa [u8v] using hown'
   clear hown' hgrow HS HM hown hb hsh
   go_wp2
   go_roundw
   case rel=>exact⟨k+1,by omega,by go_num,hown2,hb'⟩
   case measure=>simp[intOf];omega
  ·obtain rfl:k=c:=by omega
   have hcv:=q3j9 _ hown
   have e0:n / 256^(k - k)=n:=by simp
   rw[e0] at hcv
   go_wp2
   go_ret
   exact⟨rfl,hb⟩
theorem qz5b(n:Nat)(size:Int)(w:World)(hn:n < 18446744073709551616)(h0:16 < size) :
 Calls Tryz.prog 28 #[.int .u64 n,.int .i64 size] w fun e w'=>e = .returned (.string (bs (be n 16)))∧Below w.heap.size w w':=by
 obtain⟨i0,hi,hz0,hz1,hz2⟩:=info_parts qsz0
 go_enter Tryz.func28,Tryz.ntmps28
 go_wp2
 go_loopw [6,11] (fun v i wr=>∃k:Nat,k≤16∧i = .int .i64 k∧wr.ownsRow w.heap.size 5 1 v k ((be (n / 256^(16 - k)) k).map u8v)∧Below w.heap.size w wr) (fun _ i _=>16 - (intOf i).toNat)
 case atStart=>exact⟨0,Nat.zero_le _,rfl,World.ownsRow_nil _ _ _ _,Below.refl _ _⟩
 case round=>
  obtain⟨k,hk,rfl,hown,hb⟩:=hrel
  by_cases hlt:k < 16
  ·have hst:=qxkn n 16 k hlt
   have hsh0:=qg6w n (16 - (k+1)) hn
   rw[show(((8*(16 - (k+1)):Nat)):Int)=8*(15 - (k:Int)) from by omega] at hsh0
   generalize hm:n / 256^(16 - (k+1))=m at hst hsh0
   have HM:=Lib.hid hm;clear hm
   have HS:=Lib.hid hst;clear hst
   have hsh:Op.shift .shr .u64 (n:Int) .i64 (8*(15 - (k:Int)))=pure (.int .u64 (m:Int)):=hsh0
   clear hsh0
   have hbs:w.heap.size≤wr.heap.size:=hb.size
   go_wp2_with (at_builtin;refine wpList_append_own _ rfl _ _ 97 rfl w.heap.size 5 i0 (.int .u8 0) 1 1 Tryz.underlying97 hi hz0 hz1 hz2 rfl (by decide) _ _ _ rfl (hown.alloc _) ⟨wr.heap.size,0,none⟩ 1 1 [.int .u8 ((m:Int)%256)] rfl rfl ?c1 ?c2 ?c3 ?c4 ?c5 ?_)
   case c1=>intro j u hj;cases j<;>simp at hj;subst hj;exact World.cell?_alloc_at _ _ _ _ rfl
   case c2=>intro u hu;simp at hu;subst hu;rfl
   case c3=>unfold maxLen;omega
   case c4=>omega
   case c5=>simp;omega
   intro v' w1 hown' hgrow _
   have hb':Below w.heap.size w w1:=(hb.alloc hbs _).grown hgrow (by simp;omega) (fun j hj=>by have:=(hown.lt j hj).1;omega)
   have hown2:w1.ownsRow w.heap.size 5 1 v' (k+1) ((be (n / 256^(16 - (k+1))) (k+1)).map u8v):=by
    rw[HM.out,HS.out];simpa [u8v] using hown'
   clear hown' hgrow HS HM hown hb hsh
   go_wp2
   go_roundw
   case rel=>exact⟨k+1,by omega,by go_num,hown2,hb'⟩
   case measure=>simp[intOf];omega
  ·obtain rfl:k=16:=by omega
   have hcv:=q3j9 _ hown
   have e0:n / 256^(16 - 16)=n:=by simp
   rw[e0] at hcv
   go_wp2
   go_ret
   exact⟨rfl,hb⟩
theorem qfcj(n:Nat)(size:Int)(w:World)(h0:size≤0) :
 Calls Tryz.prog 28 #[.int .u64 n,.int .i64 size] w fun e w'=>e = .returned (.string (bs (be n 0)))∧Below w.heap.size w w':=by
 have hcv:=q3j9 (w:=w) (base:=w.heap.size) (v := .slice none 0 0) (n:=0) [] (World.ownsRow_nil _ _ _ _)
 go_enter Tryz.func28,Tryz.ntmps28
 go_wp2
 refine wp_loop_rounds 1 ?_
 rw[rounds_succ]
 go_wp2
 go_ret
 exact⟨rfl,Below.refl _ _⟩
theorem qe3g(n:Nat)(size:Int)(w:World)(hn:n < 18446744073709551616) :
 Calls Tryz.prog 28 #[.int .u64 n,.int .i64 size] w fun e w'=>e = .returned (.string (bs (be n (min size 16).toNat)))∧Below w.heap.size w w':=by
 by_cases h0:size≤0
 ·have e:(min size 16).toNat=0:=by omega
  rw[e];exact qfcj n size w h0
 by_cases h1:size≤16
 ·obtain⟨c,rfl⟩:=Int.eq_ofNat_of_zero_le (show 0≤size by omega)
  have e:(min (c:Int) 16).toNat=c:=by omega
  rw[e];exact q4ng n c w hn (by omega) (by omega)
 ·have e:(min size 16).toNat=16:=by omega
  rw[e];exact qz5b n size w hn (by omega)
theorem qyv7(a b:List UInt8):bs a++bs b=bs (a++b):=by
 apply ByteArray.ext
 simp[bs]
theorem qyiu(a:List UInt8)(s:ByteArray):bs a++s=bs (a++s.data.toList):=qyv7 a s.data.toList
theorem qbrl(s:ByteArray)(w:World)(h:s.size≤65535) :
 Calls Tryz.prog 124 #[.string s] w fun e w'=>e = .returned (.tuple #[.string (bs (enc2 s.data.toList)),.int .i64 0])∧Below w.heap.size w w':=by
 have hp:=qe3g s.size 2 w (by omega)
 have e2:(min (2:Int) 16).toNat=2:=by decide
 rw[e2] at hp
 have hres:bs (be s.size 2)++s=bs (enc2 s.data.toList):=by
  rw[qyiu,enc2,←q4ad]
 have hsz:(bs (be s.size 2)).size=2:=by rw[q4ad];exact q0rl 2 _
 have hnl:¬9223372036854775807 < (bs (be s.size 2)).size+s.size:=by omega
 clear hsz
 have hp:=Lib.hid hp
 have hres:=Lib.hid hres
 go_enter Tryz.func124,Tryz.ntmps124
 go_wp2_with fail
 refine(hp.out).mono ?_
 rintro e w1 ⟨rfl,hb⟩
 go_wp2_with fail
 go_ret2
 exact⟨rfl,hb⟩
end Go.Proofs.YtbklidpadffpgaaGreat
